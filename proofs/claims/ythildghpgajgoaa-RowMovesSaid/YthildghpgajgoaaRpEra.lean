/- The project's Erase. -/
import Derived.Test.YthildghpgajgoaaRpOut
namespace Go.Proofs.Ythildghpgajgoaa.Lab
open Go Go.RowKit

set_option maxHeartbeats 8000000 in
set_option maxRecDepth 100000 in
theorem erase_any (w : World) (v : Value) (R : Cls) (i j : Int) (b : Cel) (h : RowIn w v R) (hw : Wh R) (hl : R.length ≤ 1000) : Calls Try.prog 29 #[v, .int .i64 i, .int .i64 j, celV b] w (OwnRes w (erasePM R i j b)) := by
  obtain ⟨a, c, rfl⟩ := h.shape
  have HW := Lib.hid hw
  obtain ⟨N, hN⟩ : ∃ N, N = R.length := ⟨_, rfl⟩
  have HN := Lib.hid hN
  obtain ⟨w0, hw0⟩ : ∃ w0, w0 = w.alloc (.cells #[.int .i32 b.ru, .int .i32 b.m0, .int .i32 b.m1, .int .u8 b.k, .int .u8 b.a.fg.k, .int .u8 b.a.fg.r, .int .u8 b.a.fg.g, .int .u8 b.a.fg.b, .int .u8 b.a.bg.k, .int .u8 b.a.bg.r, .int .u8 b.a.bg.g, .int .u8 b.a.bg.b, .int .u16 (b.a.fl : Nat), .int .u8 b.l] 44) := ⟨_, rfl⟩
  obtain ⟨z, hz⟩ : ∃ z, z = w.heap.size := ⟨_, rfl⟩
  have b0 : Below w.heap.size w w0 := by rw [hw0]; exact (Below.refl _ _).alloc (Nat.le_refl _) _
  have HA0 := Lib.hid (show BAt w0 z b by rw [hw0, hz]; exact BAt.newAt w _ rfl b _)
  have HB0 := Lib.hid b0
  have HR0 := Lib.hid (h.below b0)
  rw [← hN] at HR0 hl ⊢
  obtain ⟨p, hp⟩ : ∃ p, p = inN i N := ⟨_, rfl⟩
  obtain ⟨q, hq⟩ : ∃ q, q = inN j N := ⟨_, rfl⟩
  have hpN : p ≤ N := by rw [hp]; exact inN_le _ _
  have hqN : q ≤ N := by rw [hq]; exact inN_le _ _
  obtain ⟨e, he⟩ : ∃ e, e = max p q := ⟨_, rfl⟩
  have HM := Lib.hid (show erasePM R i j b = place (brk (brk R p) q) p (List.replicate (e - p) b) by unfold erasePM eraP; rw [← hN, ← hp, ← hq, he])
  have CW1 := Lib.hid (show ∀ W, Calls Try.prog 33 #[.int .i64 i, .int .i64 (N : Nat)] W fun e w' => e = .returned (.int .i64 (p : Nat)) ∧ W = w' from fun W => by rw [hp]; exact within_any W i N)
  have CW2 := Lib.hid (show ∀ W, Calls Try.prog 33 #[.int .i64 j, .int .i64 (N : Nat)] W fun e w' => e = .returned (.int .i64 (q : Nat)) ∧ W = w' from fun W => by rw [hq]; exact within_any W j N)
  have HBL := Lib.hid (show (([(p : Int), (q : Int)]).foldl breakM R).length = N by rw [len_breaks]; exact hN.symm)
  have HBE := Lib.hid (show ([(p : Int), (q : Int)]).foldl breakM R = brk (brk R p) q from breaks_two R (by rw [← hN]; exact hpN) (by rw [← hN]; exact hqN))
  have heN : e ≤ N := by omega
  have hpe : p ≤ e := by omega
  have HE := Lib.hid he
  clear h hw hN b0 hp hq he
  obtain ⟨w1, hw1⟩ : ∃ x, x = w0.alloc (.cells #[.int .i64 ((p : Nat) : Int), .int .i64 ((q : Nat) : Int)] 3) := ⟨_, rfl⟩
  obtain ⟨s, hs⟩ : ∃ x, x = w0.heap.size := ⟨_, rfl⟩
  have bb : Below w0.heap.size w0 w1 := by rw [hw1]; exact (Below.refl _ _).alloc (Nat.le_refl _) _
  have HPS := Lib.hid (show PsAt w1 (.slice (some ⟨s, 0, none⟩) 2 2) [((p : Nat) : Int), ((q : Nat) : Int)] from ⟨s, 0, 2, rfl, by simp, by rw [hw1, hs]; simp, fun j hj => by
    rcases (show j = 0 ∨ j = 1 by simp at hj; omega) with rfl | rfl
    · rw [hw1, hs]; simp
    · rw [hw1, hs]; simp, fun j hj => by
    rcases (show j = 0 ∨ j = 1 by simp at hj; omega) with rfl | rfl
    · show (-100000 : Int) < ((p : Nat) : Int) ∧ ((p : Nat) : Int) < 100000
      omega
    · show (-100000 : Int) < ((q : Nat) : Int) ∧ ((q : Nat) : Int) < 100000
      omega⟩)
  have HR1 := Lib.hid (HR0.out.below bb)
  have HA1 := Lib.hid (HA0.out.below bb)
  have HB1 := Lib.hid (HB0.out.trans (bb.mono HB0.out.size))
  have HBK := Lib.hid (break_any w1 (.slice a N c) R _ [((p : Nat) : Int), ((q : Nat) : Int)] HR1.out HW.out (by rw [← HN.out]; omega) HPS.out)
  clear bb HR0 HA0 HB0 HR1 HPS
  go_enter Try.func29, Try.ntmps29
  go_upto_region 1 with (fail)
  rw [← hw0, ← hz]
  clear hw0 hz
  go_wp2_with fail
  refine (CW1.out _).mono ?_
  rintro e0 wx ⟨rfl, rfl⟩
  go_wp2_with fail
  refine (CW2.out _).mono ?_
  rintro e0 wx ⟨rfl, rfl⟩
  clear CW1 CW2
  go_wp2_with fail
  rw [← hw1, ← hs]
  clear hw1 hs
  refine HBK.out.mono ?_
  rintro e0 w2 ⟨g, c1, rfl, hc1, own1, hg1, hg2, b1⟩
  rw [HBL.out] at own1 hc1 ⊢
  have HO2 := Lib.hid own1
  have HC1 := Lib.hid hc1
  have HA2 := Lib.hid (HA1.out.below b1)
  have HB2 := Lib.hid (HB1.out.trans (b1.mono HB1.out.size))
  have HG := Lib.hid (show w.heap.size ≤ g from Nat.le_trans HB1.out.size hg1)
  have HB1s := Lib.hid HB1.out.size
  have HZG := Lib.hid (show z ≠ g by have := HA1.out.1; omega)
  clear own1 hc1 hg1 hg2 b1 HA1 HB1 HBK
  obtain ⟨B, hB⟩ : ∃ B, B = ([(p : Int), (q : Int)]).foldl breakM R := ⟨_, rfl⟩
  rw [← hB] at HO2 HBL HBE
  clear hB
  have hc1 := HC1.out
  obtain ⟨ad, m, cm, hm, hcm, k2, k2a, _⟩ := cut_both g N c1 p e hpe (by omega)
  have mx : max (p : Int) (q : Int) = (e : Int) := by have := HE.out; omega
  have HMP := Lib.hid (show p + m ≤ N by omega)
  have HMA := Lib.hid (show 0 < m → ad = some ⟨g, p * 14, none⟩ from k2a)
  have HME := Lib.hid hm
  have HNN := Lib.hid (show N ≤ 10000 by omega)
  clear hm hcm hc1 HC1 hpe hpN hqN heN hl k2a
  have mx : (if p < q then (q : Int) else (p : Int)) = (e : Int) := by have := HE.out; split <;> omega
  have mx2 : (if (p : Int) < (q : Int) then (q : Int) else (p : Int)) = (e : Int) := by have := HE.out; split <;> omega
  have HB2s := Lib.hid HB1s.out
  go_upto_region 3 with (fail)
  refine wp_region_held_drew (S := fun w' => w'.cell? ⟨z, 0, none⟩ = some (.int .i32 b.ru) ∧ w'.cell? ⟨z, 1, none⟩ = some (.int .i32 b.m0) ∧ w'.cell? ⟨z, 2, none⟩ = some (.int .i32 b.m1) ∧ w'.cell? ⟨z, 3, none⟩ = some (.int .u8 b.k) ∧ w'.cell? ⟨z, 4, none⟩ = some (.int .u8 b.a.fg.k) ∧ w'.cell? ⟨z, 5, none⟩ = some (.int .u8 b.a.fg.r) ∧ w'.cell? ⟨z, 6, none⟩ = some (.int .u8 b.a.fg.g) ∧ w'.cell? ⟨z, 7, none⟩ = some (.int .u8 b.a.fg.b) ∧ w'.cell? ⟨z, 8, none⟩ = some (.int .u8 b.a.bg.k) ∧ w'.cell? ⟨z, 9, none⟩ = some (.int .u8 b.a.bg.r) ∧ w'.cell? ⟨z, 10, none⟩ = some (.int .u8 b.a.bg.g) ∧ w'.cell? ⟨z, 11, none⟩ = some (.int .u8 b.a.bg.b) ∧ w'.cell? ⟨z, 12, none⟩ = some (.int .u16 (b.a.fl : Nat)) ∧ w'.cell? ⟨z, 13, none⟩ = some (.int .u8 b.l)) (by kernel_rfl) ?_ (fun hHeld => ?_)
  · exact HA2.out.2.1
  obtain ⟨u0, hu0⟩ : ∃ x, x = w2.drew := ⟨_, rfl⟩
  have bd : Below w2.heap.size w2 u0 := by rw [hu0]; exact ⟨rfl, rfl, rfl, Nat.le_refl _, fun _ _ => rfl⟩
  have HOu := Lib.hid (HO2.out.below bd)
  have HAu := Lib.hid (HA2.out.below bd)
  have HBu := Lib.hid (HB2.out.trans (bd.mono HB2.out.size))
  replace hHeld := HAu.out.2.1
  unfold D14 at hHeld
  rw [← hu0]
  clear hu0 bd HO2 HA2 HB2
  refine take_at (i := 0) (v := ?_) rfl (by kernel_rfl) (by kernel_rfl) (by kernel_rfl) (fun _ _ _ h => h) (by kernel_rfl) (by assumption) ?_ ?_
  rotate_left
  · (intro w hSw; (try dsimp only at hSw); go_simp; try with_reducible rfl)
  simp only [Act.put, List.setIfInBounds_toArray, List.set_cons_zero, List.set_cons_succ]
  refine take_at (i := 1) (v := ?_) rfl (by kernel_rfl) (by kernel_rfl) (by kernel_rfl) (fun _ _ _ h => h) (by kernel_rfl) (by assumption) ?_ ?_
  rotate_left
  · (intro w hSw; (try dsimp only at hSw); go_simp; try with_reducible rfl)
  simp only [Act.put, List.setIfInBounds_toArray, List.set_cons_zero, List.set_cons_succ]
  refine take_at (i := 2) (v := ?_) rfl (by kernel_rfl) (by kernel_rfl) (by kernel_rfl) (fun _ _ _ h => h) (by kernel_rfl) (by assumption) ?_ ?_
  rotate_left
  · (intro w hSw; (try dsimp only at hSw); go_simp; try with_reducible rfl)
  simp only [Act.put, List.setIfInBounds_toArray, List.set_cons_zero, List.set_cons_succ]
  refine take_at (i := 3) (v := ?_) rfl (by kernel_rfl) (by kernel_rfl) (by kernel_rfl) (fun _ _ _ h => h) (by kernel_rfl) (by assumption) ?_ ?_
  rotate_left
  · (intro w hSw; (try dsimp only at hSw); go_simp; try with_reducible rfl)
  simp only [Act.put, List.setIfInBounds_toArray, List.set_cons_zero, List.set_cons_succ]
  refine take_at (i := 4) (v := ?_) rfl (by kernel_rfl) (by kernel_rfl) (by kernel_rfl) (fun _ _ _ h => h) (by kernel_rfl) (by assumption) ?_ ?_
  rotate_left
  · (intro w hSw; (try dsimp only at hSw); go_simp; try with_reducible rfl)
  simp only [Act.put, List.setIfInBounds_toArray, List.set_cons_zero, List.set_cons_succ]
  refine take_at (i := 5) (v := ?_) rfl (by kernel_rfl) (by kernel_rfl) (by kernel_rfl) (fun _ _ _ h => h) (by kernel_rfl) (by assumption) ?_ ?_
  rotate_left
  · (intro w hSw; (try dsimp only at hSw); go_simp; try with_reducible rfl)
  simp only [Act.put, List.setIfInBounds_toArray, List.set_cons_zero, List.set_cons_succ]
  refine take_at (i := 6) (v := ?_) rfl (by kernel_rfl) (by kernel_rfl) (by kernel_rfl) (fun _ _ _ h => h) (by kernel_rfl) (by assumption) ?_ ?_
  rotate_left
  · (intro w hSw; (try dsimp only at hSw); go_simp; try with_reducible rfl)
  simp only [Act.put, List.setIfInBounds_toArray, List.set_cons_zero, List.set_cons_succ]
  refine do_at (i := 7) rfl (by kernel_rfl) (by kernel_rfl) (fun K hK => ?_)
  go_wp2_with fail
  refine (fill_any u0 _ g N c1 B b p m cm ad HOu.out HBL.out.symm HNN.out HMP.out HMA.out).mono ?_
  rintro e0 w3 ⟨rfl, own3, but3⟩
  have HO3 := Lib.hid own3
  have HA3 := Lib.hid (HAu.out.but but3 HZG.out)
  have HB3 := Lib.hid (HBu.out.trans (but3.below HG.out HBu.out.size))
  clear own3 but3 HOu HAu HBu
  go_wp2_with fail
  refine hK.out _ _ ?_ (fun hHeld => ?_)
  · exact HA3.out.2.1
  clear hK K
  try simp only [Act.put, List.setIfInBounds_toArray, List.set_cons_zero, List.set_cons_succ]
  refine wpAnyH_done (by kernel_rfl) ?_ _
  clear hHeld HA3
  have HF := Lib.hid (show CRow w3 w.heap.size (.slice (some ⟨g, 0, none⟩) N c1) (erasePM R i j b) by
    rw [HM.out, ← HBE.out, ← HME.out]
    exact HO3.out.lower HB2s.out)
  clear HO3
  go_wp2
  go_ret
  exact ⟨_, rfl, HF.out, HB3.out⟩
end Go.Proofs.Ythildghpgajgoaa.Lab
