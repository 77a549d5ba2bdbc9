/- The project's Break, of whole rows. -/
import Derived.Test.YtlaafmjiiiaceaaDoorRpCut
namespace Go.Proofs.YtlaafmjiiiaceaaDoor.Lab
open Go Go.RowKit

/-- What breaking at a boundary, wherever it is, makes of a whole row. -/
theorem breakM_wide {R : Cls} (h : Wh R) (i : Int) : breakM R i = if wideB R (i - 1) = true then (R.set (i - 1).toNat (gc R (i - 1).toNat).bare).set i.toNat (gc R i.toNat).bare else R := by
  by_cases hw : wideB R (i - 1) = true
  · rw [if_pos hw]
    unfold wideB at hw
    simp only [Bool.and_eq_true, decide_eq_true_eq] at hw
    obtain ⟨h0, hk⟩ := hw
    obtain ⟨q, hq⟩ : ∃ q : Nat, i = ((q + 1 : Nat) : Int) := ⟨(i - 1).toNat, by omega⟩
    have e1 : (i - 1).toNat = q := by omega
    have e2 : i.toNat = q + 1 := by omega
    rw [e1] at hk ⊢
    rw [e2]
    have hlt : q < R.length := by
      by_cases hl : q < R.length
      · exact hl
      · rw [gc_out (by omega)] at hk
        exact absurd hk (by decide)
    obtain ⟨a1, a2, _⟩ := (h q hlt).1 hk
    rw [brk_two a1 hk a2]
    unfold breakM
    rw [show inN i R.length = q + 1 by unfold inN; omega]
  · rw [if_neg hw]
    unfold breakM
    refine brk_clean h fun j hj hk => hw ?_
    have hlt : j < R.length := by
      by_cases hl : j < R.length
      · exact hl
      · rw [gc_out (by omega)] at hk
        exact absurd hk (by decide)
    have a1 := ((h j hlt).1 hk).1
    have hj' : i - 1 = (j : Int) := by unfold inN at hj; omega
    rw [hj', wide_nat]
    exact decide_eq_true hk
theorem Wh.breakM {R : Cls} (h : Wh R) (i : Int) : Wh (Lab.breakM R i) := h.brk _
theorem len_breakM (R : Cls) (i : Int) : (breakM R i).length = R.length := len_brk _ _
theorem Wh.breaks {R : Cls} (h : Wh R) (L : List Int) : Wh (L.foldl Lab.breakM R) := by
  induction L generalizing R with
  | nil => exact h
  | cons i t ih => exact ih (h.breakM i)
theorem len_breaks (R : Cls) (L : List Int) : (L.foldl breakM R).length = R.length := by
  induction L generalizing R with
  | nil => rfl
  | cons i t ih => exact (ih _).trans (len_breakM R i)
theorem breaks_snoc (R : Cls) (L : List Int) (k : Nat) (hk : k < L.length) : (L.take (k + 1)).foldl breakM R = breakM ((L.take k).foldl breakM R) (L.getD k 0) := by
  rw [List.take_succ_eq_append_getElem hk, List.foldl_append, List.getD_eq_getElem?_getD, List.getElem?_eq_getElem hk]
  rfl
/-- The boundaries, as numbers that can be read. -/
def PsIn (w : World) (g : Nat) (v : Value) (L : List Int) : Prop := ∃ s o c, v = .slice (some ⟨s, o, none⟩) L.length c ∧ L.length ≤ 10 ∧ s ≠ g ∧ s < w.heap.size ∧ (∀ j, j < L.length → w.cell? ⟨s, o + j, none⟩ = some (.int .i64 (L.getD j 0))) ∧ ∀ j, j < L.length → -100000 < L.getD j 0 ∧ L.getD j 0 < 100000
theorem PsIn.but {w w' : World} {g : Nat} {v : Value} {L : List Int} (h : PsIn w g v L) (k : But g w w') : PsIn w' g v L := by
  obtain ⟨s, o, c, e, hl, hs, hlt, hc, hb⟩ := h
  exact ⟨s, o, c, e, hl, hs, Nat.lt_of_lt_of_le hlt k.size, fun j hj => (World.cell?_of_block (a := ⟨s, o + j, none⟩) (k.block s hlt (by simp; omega))).trans (hc j hj), hb⟩
set_option maxHeartbeats 4000000 in
theorem cuts_any (W : World) (lo g n c : Nat) (R : Cls) (u : Value) (L : List Int) (H : CRow W lo (.slice (some ⟨g, 0, none⟩) n c) R) (hn : n = R.length) (hl : n ≤ 10000) (hw : Wh R) (hu : PsIn W g u L) :
    Calls Tryd.prog 74 #[.slice (some ⟨g, 0, none⟩) n c, u, .func (.func 75) #[] #[]] W fun e w' => e = .returned (.tuple #[]) ∧ CRow w' lo (.slice (some ⟨g, 0, none⟩) n c) (L.foldl breakM R) ∧ But g W w' := by
  have HU0 := Lib.hid hu
  obtain ⟨s, o, cu, rfl, hl10, hsg, hs, hcell, hbnd⟩ := hu
  obtain ⟨m, hm⟩ : ∃ m, m = L.length := ⟨_, rfl⟩
  have HM := Lib.hid hm
  have HO0 := Lib.hid (show CRow W lo (.slice (some ⟨g, 0, none⟩) n c) ((L.take 0).foldl breakM R) from H)
  have HB0 := Lib.hid (But.refl g W)
  have HN := Lib.hid hn
  have HW := Lib.hid hw
  have HBD := Lib.hid hbnd
  have HLN := Lib.hid hl
  rw [← hm] at HU0 hl10 ⊢
  clear H hn hw hm hcell hs hsg hbnd
  go_enter Tryd.func74, Tryd.ntmps74
  go_wp2
  go_loopg [10] m (fun G i wr => ∃ k : Nat, i = .int .i64 k ∧ k ≤ m ∧ m - k ≤ G ∧ Hid (CRow wr lo (.slice (some ⟨g, 0, none⟩) n c) ((L.take k).foldl breakM R)) ∧ Hid (PsIn wr g (.slice (some ⟨s, o, none⟩) m cu) L) ∧ Hid (But g W wr))
  case atStart => exact ⟨0, rfl, Nat.zero_le _, Nat.sub_le _ _, HO0, HU0, HB0⟩
  case round =>
    obtain ⟨k, rfl, hkm, hgk, HR, HU, HB⟩ := hrel
    clear HO0 HB0 HU0
    by_cases hlt : k < m
    · obtain ⟨s2, o2, c2, e, _, hs1, hs2, hcell, _⟩ := HU.out
      injection e with e1 e2 e3
      injection e1 with e1
      injection e1 with e1 e4
      subst e1 e4 e3
      obtain ⟨i, hi⟩ : ∃ i, i = L.getD k 0 := ⟨_, rfl⟩
      have HI := Lib.hid hi
      have hc := hcell k (by rw [← HM.out]; exact hlt)
      have hib : -100000 < i ∧ i < 100000 := by rw [hi]; exact HBD.out k (by rw [← HM.out]; exact hlt)
      rw [← hi] at hc
      have s1 : IntKind.i64.wrap (i - 1) = i - 1 := by rw [IntKind.wrap_i64]; omega
      obtain ⟨Q, hQ⟩ : ∃ Q, Q = (L.take k).foldl breakM R := ⟨_, rfl⟩
      have HQ := Lib.hid hQ
      have HQW := Lib.hid (show Wh Q by rw [hQ]; exact HW.out.breaks _)
      have HQL := Lib.hid (show n = Q.length by rw [hQ, len_breaks]; exact HN.out)
      have HS := Lib.hid (show (L.take (k + 1)).foldl breakM R = breakM Q i by rw [hQ, hi]; exact breaks_snoc R L k (by rw [← HM.out]; exact hlt))
      rw [← hQ] at HR
      have HC := Lib.hid (isWide_any wr _ Q (i - 1) HR.out.row HQW.out (by rw [← HQL.out]; exact HLN.out) (by omega))
      have HBM := Lib.hid (breakM_wide HQW.out i)
      clear hi hQ hs1 hs2 hcell e2
      cases hwd : wideB Q (i - 1)
      · have HE := Lib.hid (show breakM Q i = Q by rw [HBM.out, hwd]; rfl)
        rw [hwd] at HC
        clear hwd
        go_wp2_with fail
        refine HC.out.mono ?_
        rintro e wx ⟨rfl, rfl⟩
        clear HC hc
        go_wp2
        go_roundg (m - (k + 1))
        case rel => exact ⟨k + 1, by go_num, by omega, Nat.le_refl _, Lib.hid (by rw [HS.out, HE.out]; exact HR.out), HU, HB⟩
        case measure => omega
      · have HE := Lib.hid (show breakM Q i = (Q.set (i - 1).toNat (gc Q (i - 1).toNat).bare).set i.toNat (gc Q i.toNat).bare by rw [HBM.out, hwd]; rfl)
        have hb := hwd
        unfold wideB at hb
        simp only [Bool.and_eq_true, decide_eq_true_eq] at hb
        obtain ⟨h0, hk⟩ := hb
        obtain ⟨q, hq⟩ : ∃ q : Nat, q = (i - 1).toNat := ⟨_, rfl⟩
        obtain ⟨p, hp⟩ : ∃ p : Nat, p = i.toNat := ⟨_, rfl⟩
        rw [← hq] at hk
        rw [← hq, ← hp] at HE
        have hqn : q < Q.length := by
          by_cases hl : q < Q.length
          · exact hl
          · rw [gc_out (by omega)] at hk
            exact absurd hk (by decide)
        have hpn : q + 1 < Q.length := ((HQW.out q hqn).1 hk).1
        have hq2 : q < n := by rw [HQL.out]; exact hqn
        have hp2 : p < n := by rw [HQL.out]; omega
        have i1 : i - 1 = (q : Int) := by omega
        have i2 : i = (p : Int) := by omega
        rw [hwd, i1] at HC
        have s2 : IntKind.i64.wrap ((p : Int) - 1) = (q : Int) := by rw [IntKind.wrap_i64]; omega
        rw [i2] at hc
        clear s1
        rw [← HS.out] at HE
        clear hwd hq hp h0 hk hqn hpn i1 i2 hib HI HBM HS
        go_wp2_with fail
        refine HC.out.mono ?_
        rintro e wx ⟨rfl, rfl⟩
        clear HC
        go_upto_region 4 with (fail)
        refine wp_region_held_drew (S := fun _ => True) (by kernel_rfl) ?_ (fun hHeld => ?_)
        · trivial
        obtain ⟨u0, hu0⟩ : ∃ u0, u0 = wr.drew := ⟨_, rfl⟩
        have bd : Below wr.heap.size wr u0 := by rw [hu0]; exact ⟨rfl, rfl, rfl, Nat.le_refl _, fun _ _ => rfl⟩
        have HCC := fun (wz : World) (hz : wz = u0) => Lib.hid (show Calls Tryd.prog 75 #[.pointer (some ⟨g, q * 14, none⟩), .pointer (some ⟨g, p * 14, none⟩)] wz _ from hz ▸ cut_any u0 lo g n c Q q p (HR.out.below bd) HQL.out hq2 hp2)
        have HBD0 := Lib.hid bd
        clear bd
        rw [← hu0]
        clear hu0
        refine tk 0 rfl (fun w hSw => by (try dsimp only at hSw); go_simp; try with_reducible rfl) ?_
        go_frame
        refine tk 1 rfl (fun w hSw => by (try dsimp only at hSw); go_simp; try with_reducible rfl) ?_
        go_frame
        refine tk 2 rfl (fun w hSw => by (try dsimp only at hSw); go_simp; try with_reducible rfl) ?_
        go_frame
        refine tk 3 rfl (fun w hSw => by (try dsimp only at hSw); go_simp; try with_reducible rfl) ?_
        go_frame
        refine tk 4 rfl (fun w hSw => by (try dsimp only at hSw); go_simp; try with_reducible rfl) ?_
        go_frame
        refine tk 5 rfl (fun w hSw => by (try dsimp only at hSw); go_simp; try with_reducible rfl) ?_
        go_frame
        refine tk 6 rfl (fun w hSw => by (try dsimp only at hSw); go_simp; try with_reducible rfl) ?_
        go_frame
        refine tk 7 rfl (fun w hSw => by (try dsimp only at hSw); go_simp; try with_reducible rfl) ?_
        go_frame
        refine do_at (i := 8) rfl (by kernel_rfl) (by kernel_rfl) (fun K hK => ?_)
        go_wp2_with fail
        refine (HCC _ rfl).mono ?_
        rintro e w2 ⟨rfl, own2, but2⟩
        have HO2 := Lib.hid own2
        have HB2 := Lib.hid but2
        clear own2 but2 HCC
        go_wp2_with fail
        refine hK.out _ _ ?_ (fun hHeld => ?_)
        · trivial
        clear hK K
        try go_frame
        refine wpAnyH_done (by kernel_rfl) ?_ _
        clear hHeld
        have HB3 := Lib.hid (show But g W w2 from (HB.out.trans (But.of HBD0.out)).trans HB2.out)
        have HU3 := Lib.hid (show PsIn w2 g (.slice (some ⟨s, o, none⟩) m cu) L from (HU.out.but (But.of HBD0.out)).but HB2.out)
        have HO3 := Lib.hid (show CRow w2 lo (.slice (some ⟨g, 0, none⟩) n c) ((L.take (k + 1)).foldl breakM R) by rw [HE.out]; exact HO2.out)
        clear HO2 HB2 HR HU HB HBD0
        go_wp2
        go_roundg (m - (k + 1))
        case rel => exact ⟨k + 1, by go_num, by omega, Nat.le_refl _, HO3, HU3, HB3⟩
        case measure => omega
    · obtain rfl : k = m := by omega
      go_wp2
      go_end0
      exact ⟨rfl, by rw [HM.out, List.take_length] at HR; exact HR.out, HB.out⟩
end Go.Proofs.YtlaafmjiiiaceaaDoor.Lab
