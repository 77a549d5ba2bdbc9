/- The project's each of a ring, as an iterator; of none. -/
import Derived.Test.YtnefamgjlhdffaaRgOne
import Derived.Test.YtnefamgjlhdffaaRfHeld
set_option linter.unusedVariables false
namespace Go.Proofs.Ytnefamgjlhdffaa.Lab
open Go Go.RowKit Go.Shelf
attribute [local go_sem] Oper.semAt_some

theorem grown_of {w w' : World} (b : Below w.heap.size w w') : w.grownBy w' none := ⟨b.os, b.tape, b.output, b.size, fun k hk _ => b.block k hk⟩
set_option maxHeartbeats 4000000 in
theorem each_iter (X : Nat → Prop) (p n f : Nat) (v : Value) (H : List Ln) (l : Int) :
    IterA Try.prog 43 #[pV p] #[] H.length (fun k => #[(lnAt H f k).v]) (fun k W => RgAt X W p n v H f l) := by
  intro ll J W hH hgrow hY h0
  have HR0 := Lib.hid (hH 0 W h0)
  have HJ := Lib.hid h0
  have hn := (hH 0 W h0).n1
  have hl := (hH 0 W h0).len
  obtain ⟨m, hm⟩ : ∃ m, m = H.length := ⟨_, rfl⟩
  have HM := Lib.hid hm
  rw [← hm] at hY hl ⊢
  have HN := Lib.hid (show m ≤ 1000 by omega)
  have HY := Lib.hid hY
  have HG := Lib.hid hgrow
  have HH := Lib.hid hH
  clear h0 hY hgrow hH hm hl hn
  refine callsIn_of_wp Try.func43 rfl trivial ?_ rfl
  simp only [Try.ntmps43, List.size_toArray, List.length_cons, List.length_nil, Nat.reduceAdd, Nat.reduceSub, Array.replicate_succ, Array.replicate_zero, List.push_toArray, List.append_toArray, List.nil_append, List.cons_append]
  gi_wp2_with (refine ⟨trivial, rfl, ?_⟩; gi_at_call 23; refine (callsIn_wide.2 (len_any X W p n f v H l HR0.out)).mono ?_; rintro e w' ⟨rfl, rfl⟩; rw [← HM.out])
  gi_loopw [7] (fun v wr => ∃ k : Nat, v = .int .i64 k ∧ k ≤ m ∧ Hid (J k wr)) (fun v wr => m - (intOf v).toNat)
  case atStart => exact ⟨0, rfl, Nat.zero_le _, HJ⟩
  case round =>
    obtain ⟨k, rfl, hk, HK⟩ := hrel
    clear HJ HR0
    by_cases hlt : k < m
    · have HR := Lib.hid (HH.out k wr HK.out)
      have HLT := Lib.hid hlt
      gi_wp2_with (refine ⟨trivial, rfl, ?_⟩; gi_at_call 45; refine (callsIn_wide.2 (at_any X wr p n f k v H l HR.out (by rw [← HM.out]; exact HLT.out))).mono ?_; rintro e w2 ⟨rfl, b2⟩)
      have HK2 := Lib.hid (HG.out k wr w2 HK.out (grown_of b2))
      obtain ⟨fn, tmps, assign, body, hy, hR⟩ := HY.out k w2 HLT.out HK2.out
      obtain ⟨x, hx⟩ : ∃ x, x = (lnAt H f k).v := ⟨_, rfl⟩
      rw [← hx] at hy ⊢
      clear hx b2 HK
      rw [hy]
      refine ⟨(fun h => by cases h), hR.mono ?_⟩
      rintro e W3 ⟨rfl, hJ3⟩
      have HJ3 := Lib.hid hJ3
      clear hJ3 hy hR
      have hk1 := HLT.out
      have hm1 := HN.out
      have u1 : IntKind.i64.wrap ((k : Int) + 1) = ((k + 1 : Nat) : Int) := by rw [IntKind.wrap_i64]; omega
      gi_wp2
      go_roundw
      case rel => exact ⟨k + 1, by (first | go_num | rfl), hk1, HJ3⟩
      case measure => simp only [intOf]; omega
    · obtain rfl : k = m := by omega
      gi_wp2
      go_end0
      exact ⟨⟨_, rfl⟩, HK.out⟩
theorem each_nil : IterA Try.prog 43 #[.pointer none] #[] 0 (fun k => #[undef]) (fun k W => True) := by
  intro ll J W hH hgrow hY h0
  have HJ := Lib.hid h0
  clear h0 hY hgrow hH
  refine callsIn_of_wp Try.func43 rfl trivial ?_ rfl
  simp only [Try.ntmps43, List.size_toArray, List.length_cons, List.length_nil, Nat.reduceAdd, Nat.reduceSub, Array.replicate_succ, Array.replicate_zero, List.push_toArray, List.append_toArray, List.nil_append, List.cons_append]
  gi_wp2_with (refine ⟨trivial, rfl, ?_⟩; gi_at_call 23; refine (callsIn_wide.2 (len_nil W)).mono ?_; rintro e w' ⟨rfl, rfl⟩)
  gi_loopw [7] (fun v wr => v = .int .i64 0 ∧ Hid (J 0 wr)) (fun v wr => 0)
  case atStart => exact ⟨rfl, HJ⟩
  case round =>
    obtain ⟨rfl, HK⟩ := hrel
    gi_wp2
    go_end0
    exact ⟨⟨_, rfl⟩, HK.out⟩
end Go.Proofs.Ytnefamgjlhdffaa.Lab
