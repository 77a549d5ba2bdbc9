/- What == tells of two modes; whether just these are set. -/
import Derived.Test.YtjdfinimbdcmbaaMdAll
import Derived.ChangeKeysEq
import Derived.Laws.StructEq
import Derived.Deep.QuietTactic
set_option linter.unusedVariables false
namespace Go.Proofs.Ytjdfinimbdcmbaa.Lab
open Go Go.RowKit

theorem eqMo (p q : Bool) (n m : Int) (w : World) : (Op.equalIn 10000 24 (.agg #[.bool p, .int .i64 n]) (.agg #[.bool q, .int .i64 m])).run Try.prog w = .ok (decide ((p, n) = (q, m))) w := by
  rw [show (10000 : Nat) = 9999 + 1 from rfl, run_equalIn_struct w 9999 _ _ _ (by kernel_rfl) Try.stoodInHeld24]
  rw [show (Try.prog.fieldsOf 24).toList = [{ name := "Private", type := 4, offset := 0, embedded := false, tag := "", pkgPath := "", byteOffset := 0 }, { name := "N", type := 3, offset := 1, embedded := false, tag := "", pkgPath := "", byteOffset := 8 }] from by kernel_rfl]
  simp only [Op.eqFields]
  go_simp
  by_cases h1 : p = q <;> by_cases h2 : n = m <;> simp [h1, h2]
theorem eqMs (s t : Nat) (w : World) : (Op.equalIn 10000 27 (.agg #[.int .u16 (s : Nat)]) (.agg #[.int .u16 (t : Nat)])).run Try.prog w = .ok (decide (s = t)) w := by
  rw [show (10000 : Nat) = 9999 + 1 from rfl, run_equalIn_struct w 9999 _ _ _ (by kernel_rfl) Try.stoodInHeld27]
  rw [show (Try.prog.fieldsOf 27).toList = [{ name := "set", type := 25, offset := 0, embedded := false, tag := "", pkgPath := "marquee/mode", byteOffset := 0 }] from by kernel_rfl]
  simp only [Op.eqFields]
  go_simp
  by_cases h1 : s = t
  · simp [h1]
  · have h2 : ¬ (s : Int) = t := by omega
    simp [h1, h2]
theorem below_drewN {B : Nat} {a b : World} (h : Below B a b) (q : Nat) : Below B a (b.drewN q) := ⟨h.os, h.tape, h.output, h.size, h.block⟩
theorem take_one {α : Type} {A B : List α} {k : Nat} (d : α) (h : A.take k = B.take k) (ha : k < A.length) (hb : k < B.length) (he : A.getD k d = B.getD k d) : A.take (k + 1) = B.take (k + 1) := by
  rw [List.take_succ_eq_append_getElem ha, List.take_succ_eq_append_getElem hb, h]
  rw [List.getD_eq_getElem?_getD, List.getD_eq_getElem?_getD, List.getElem?_eq_getElem ha, List.getElem?_eq_getElem hb] at he
  simp only [Option.getD_some] at he
  rw [he]
set_option maxHeartbeats 2000000 in
set_option maxRecDepth 100000 in
theorem set_any (s : Nat) (hs : s < 2048) (v : Value) (l : List Mo) (w : World) (h : MoIn w v l) (hl : l.length ≤ 1000) : Calls Try.prog 31 #[.agg #[.int .u16 (s : Nat)], v] w fun e w' => e = .returned (.bool (decide (allM s = l))) ∧ Below w.heap.size w w' := by
  have HALL := Lib.hid (fun w => all_any s hs w)
  have hAl : (allM s).length ≤ 13 := allM_le s
  obtain ⟨A, hA⟩ : ∃ A, A = allM s := ⟨_, rfl⟩
  rw [← hA] at HALL hAl ⊢
  clear hA hs
  obtain ⟨la, lc, rfl⟩ := h.shape
  obtain ⟨n, hn⟩ : ∃ n, n = l.length := ⟨_, rfl⟩
  obtain ⟨m, hm⟩ : ∃ m, m = A.length := ⟨_, rfl⟩
  rw [← hn] at h hl ⊢
  rw [← hm] at hAl
  have HN := Lib.hid hn
  have HMM := Lib.hid hm
  have HL := Lib.hid hl
  have HAL := Lib.hid hAl
  obtain ⟨b, hb⟩ : ∃ b, b = w.heap.size := ⟨_, rfl⟩
  obtain ⟨w1, hw1⟩ : ∃ x, x = w.alloc (.cells #[.int .u16 (s : Nat)] 27) := ⟨_, rfl⟩
  have HB1 := Lib.hid (show Below w.heap.size w w1 by rw [hw1]; exact (Below.refl _ _).alloc (Nat.le_refl _) _)
  have c0 := (one_cell (show w1.heap[b]? = some (.cells #[.int .u16 (s : Nat)] 27 (0, 0)) by rw [hw1, hb]; exact World.alloc_heap_new _ _)).1
  have HLI := Lib.hid (h.below HB1.out)
  clear h hl hn hm hAl
  go_enter Try.func31, Try.ntmps31
  go_upto_region 1 with (fail)
  rw [← hw1, ← hb]
  clear hw1 hb
  go_wp2_with fail
  refine (HALL.out _).mono ?_
  rintro e w2 ⟨va, rfl, hva, bb⟩
  obtain ⟨aa, ac, rfl⟩ := hva.shape
  rw [← HMM.out] at hva
  rw [← HMM.out]
  have HAI := Lib.hid hva
  replace HLI := Lib.hid (HLI.out.below bb)
  have HB2 := Lib.hid (HB1.out.trans (bb.mono HB1.out.size))
  clear hva bb HB1 c0 HALL
  by_cases hnm : m = n
  case neg =>
    have t1 : ((m : Int) == (n : Int)) = false := by rw [beq_eq_false_iff_ne]; omega
    have t2 : decide ((m : Int) = (n : Int)) = false := decide_eq_false (by omega)
    have HNM := Lib.hid hnm
    clear hnm
    go_wp2_with fail
    go_ret
    have e9 : decide (A = l) = false := decide_eq_false (fun e => HNM.out (by rw [HMM.out, HN.out, e]))
    exact ⟨by rw [e9]; rfl, HB2.out⟩
  subst hnm
  go_wp2_with fail
  go_loopw [6] (fun v wr => ∃ k : Nat, v = .int .i64 (k : Nat) ∧ Hid (k ≤ m) ∧ Hid (A.take k = l.take k) ∧ Hid (Below w2.heap.size w2 wr)) (fun v wr => 2000 - (intOf v).toNat)
  case atStart => exact ⟨0, rfl, Lib.hid (Nat.zero_le _), Lib.hid rfl, Lib.hid (Below.refl _ _)⟩
  case round =>
    obtain ⟨k, rfl, HK, HT, HB⟩ := hrel
    have u1 : IntKind.i64.wrap ((k : Int) + 1) = ((k + 1 : Nat) : Int) := by rw [IntKind.wrap_i64]; have := HK.out; have := HL.out; omega
    by_cases h1 : k < m
    · obtain ⟨g, o, hla, c0, c1⟩ := (HLI.out.below HB.out).at (i := k) h1
      obtain ⟨g', o', hla', d0, d1⟩ := (HAI.out.below HB.out).at (i := k) h1
      subst hla hla'
      have HH1 := Lib.hid h1
      obtain ⟨x, hx⟩ : ∃ x, x = l.getD k (false, 0) := ⟨_, rfl⟩
      obtain ⟨y, hy⟩ : ∃ y, y = A.getD k (false, 0) := ⟨_, rfl⟩
      rw [← hx] at c0 c1
      rw [← hy] at d0 d1
      have HXY := Lib.hid (And.intro hx hy)
      clear hx hy
      obtain ⟨p, i⟩ := x
      obtain ⟨q, j⟩ := y
      simp only [] at c0 c1 d0 d1
      by_cases he : (q, j) = (p, i)
      · have hq : ∀ w, (Op.equalIn 10000 24 (.agg #[.bool q, .int .i64 j]) (.agg #[.bool p, .int .i64 i])).run Try.prog w = .ok true w := fun w => by rw [eqMo, decide_eq_true he]
        have HE := Lib.hid he
        clear he
        go_upto_region 7 with (fail)
        go_quiet (fail)
        go_wp2
        go_roundw
        case rel => exact ⟨k + 1, by go_num, Lib.hid HH1.out, Lib.hid (take_one (false, 0) HT.out (by rw [← HMM.out]; exact HH1.out) (by rw [← HN.out]; exact HH1.out) (by rw [← HXY.out.1, ← HXY.out.2, HE.out])), Lib.hid (below_drewN HB.out _)⟩
        case measure => simp only [intOf]; have := HK.out; have := HL.out; omega
      · have hq : ∀ w, (Op.equalIn 10000 24 (.agg #[.bool q, .int .i64 j]) (.agg #[.bool p, .int .i64 i])).run Try.prog w = .ok false w := fun w => by rw [eqMo, decide_eq_false he]
        have HE := Lib.hid he
        clear he
        go_upto_region 7 with (fail)
        go_quiet (fail)
        go_wp2
        go_ret
        have e9 : decide (A = l) = false := decide_eq_false (fun e => HE.out (by rw [HXY.out.1, HXY.out.2, e]))
        exact ⟨by rw [e9]; rfl, HB2.out.trans ((below_drewN HB.out _).mono HB2.out.size)⟩
    · have h2 : k = m := by have := HK.out; omega
      have HKM := Lib.hid h2
      clear h2
      go_wp2
      go_ret
      have e9 : decide (A = l) = true := decide_eq_true (by
        have := HT.out
        rw [HKM.out] at this
        rwa [HMM.out, List.take_length, ← HMM.out, HN.out, List.take_length] at this)
      exact ⟨by rw [e9]; rfl, HB2.out.trans (HB.out.mono HB2.out.size)⟩
end Go.Proofs.Ytjdfinimbdcmbaa.Lab
