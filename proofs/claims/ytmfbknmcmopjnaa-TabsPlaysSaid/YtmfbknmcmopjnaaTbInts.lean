/- The reference's Ints: two rows of numbers held against each other. -/
import Derived.Test.YtmfbknmcmopjnaaTbAct
set_option linter.unusedVariables false
namespace Go.Proofs.Ytmfbknmcmopjnaa.Lab
open Go Go.RowKit Go.Shelf

theorem IsIn.shape {w : World} {v : Value} {cs : List Int} (h : IsIn w v cs) : ∃ a c, v = .slice a cs.length c := by
  obtain ⟨a, c, e, _⟩ := h
  exact ⟨a, c, e⟩
theorem IsIn.get {w : World} {a : Option Addr} {n c : Nat} {cs : List Int} (h : IsIn w (.slice a n c) cs) {i : Nat} (hi : i < cs.length) : ∃ g o, a = some ⟨g, o, none⟩ ∧ w.cell? ⟨g, o + i, none⟩ = some (.int .i64 cs[i]) := by
  obtain ⟨a', c', e, h⟩ := h
  injection e with e1 _ _
  subst e1
  obtain ⟨g, o, ea, hg, hC⟩ := h (by omega)
  exact ⟨g, o, ea, hC i hi⟩
theorem IsIn.drew {w : World} {v : Value} {cs : List Int} (h : IsIn w v cs) : IsIn w.drew v cs := h.below ((Below.refl _ _).drew)
theorem take_eq {a b : List Int} {k : Nat} (ha : k < a.length) (hb : k < b.length) (h : a.take k = b.take k) : a.take (k + 1) = b.take (k + 1) ↔ a[k] = b[k] := by
  rw [List.take_succ_eq_append_getElem ha, List.take_succ_eq_append_getElem hb, h]
  exact ⟨fun e => by have := List.append_cancel_left e; simpa using this, fun e => by rw [e]⟩
set_option maxHeartbeats 2000000 in
theorem ints_any (w : World) (v u : Value) (a b : List Int) (h : IsIn w v a) (k : IsIn w u b) (hl : a.length ≤ 1000) :
    Calls Try.prog 14 #[v, u] w fun e w' => e = .returned (.bool (decide (a = b))) ∧ Below w.heap.size w w' := by
  obtain ⟨va, vc, rfl⟩ := h.shape
  obtain ⟨ua, uc, rfl⟩ := k.shape
  obtain ⟨n, hn⟩ : ∃ n, n = a.length := ⟨_, rfl⟩
  obtain ⟨m, hm⟩ : ∃ m, m = b.length := ⟨_, rfl⟩
  have HN := Lib.hid hn
  have HM := Lib.hid hm
  have HV := Lib.hid h
  have HU := Lib.hid k
  have hl1 : n ≤ 1000 := by omega
  rw [← hn] at HV ⊢
  rw [← hm] at HU ⊢
  by_cases hnm : n = m
  · have HNM := Lib.hid hnm
    have hne : ((n : Int) != (m : Int)) = false := by simp [hnm]
    clear hn hm h k hnm hl
    go_enter Try.func14, Try.ntmps14
    go_wp2
    go_loopw [5] (fun x wr => ∃ i : Nat, x = .int .i64 (i : Nat) ∧ Hid (i ≤ n ∧ a.take i = b.take i) ∧ Hid (Below w.heap.size w wr)) (fun x wr => n - (intOf x).toNat)
    case atStart => exact ⟨0, rfl, Lib.hid ⟨Nat.zero_le _, rfl⟩, Lib.hid (Below.refl _ _)⟩
    case round =>
      rename_i x
      obtain ⟨i, rfl, HI, HB⟩ := hrel
      by_cases hlt : i < n
      · have hia : i < a.length := by rw [← HN.out]; exact hlt
        have hib : i < b.length := by rw [← HM.out, ← HNM.out]; exact hlt
        have him : i < m := by rw [← HNM.out]; exact hlt
        obtain ⟨g, o, hva, hc⟩ := (HV.out.below HB.out).get hia
        obtain ⟨g2, o2, hua, hd⟩ := (HU.out.below HB.out).get hib
        subst hva hua
        obtain ⟨x, hx⟩ : ∃ x, x = a[i] := ⟨_, rfl⟩
        obtain ⟨y, hy⟩ : ∃ y, y = b[i] := ⟨_, rfl⟩
        have HT := Lib.hid (take_eq hia hib HI.out.2)
        rw [← hx] at hc HT
        rw [← hy] at hd HT
        have u1 : IntKind.i64.wrap ((i : Int) + 1) = ((i + 1 : Nat) : Int) := by rw [IntKind.wrap_i64]; omega
        clear hx hy hia hib
        by_cases hxy : x = y
        · have q : (x != y) = false := by simp [hxy]
          have HXY := Lib.hid hxy
          clear hxy
          go_upto_region 6 with (fail)
          go_quiet (fail)
          go_wp2
          go_roundw
          case rel => exact ⟨i + 1, by go_num, Lib.hid ⟨hlt, HT.out.2 HXY.out⟩, Lib.hid (below_drewN HB.out _)⟩
          case measure => simp only [intOf]; omega
        · have q : (x != y) = true := by simp [hxy]
          have HXY := Lib.hid hxy
          clear hxy
          go_upto_region 6 with (fail)
          go_quiet (fail)
          go_wp2
          go_ret
          refine ⟨?_, below_drewN HB.out _⟩
          rw [decide_eq_false (fun e => HXY.out (HT.out.1 (by rw [e])))]
          rfl
      · go_wp2
        go_ret
        refine ⟨?_, HB.out⟩
        have := HI.out
        have h1 := HN.out
        have h2 := HM.out
        have h3 := HNM.out
        have e := this.2
        rw [List.take_of_length_le (by omega), List.take_of_length_le (by omega)] at e
        rw [decide_eq_true e]
        rfl
  · have hne : ((n : Int) != (m : Int)) = true := by simp; omega
    have HE := Lib.hid (show decide (a = b) = false from decide_eq_false (fun e => hnm (by rw [hn, hm, e])))
    clear hn hm h k hnm
    go_enter Try.func14, Try.ntmps14
    go_wp2
    go_ret
    exact ⟨by rw [HE.out]; rfl, Below.refl _ _⟩
end Go.Proofs.Ytmfbknmcmopjnaa.Lab
