/- The project's Resize. -/
import Derived.Test.YthildghpgajgoaaRpOut
namespace Go.Proofs.Ythildghpgajgoaa.Lab
open Go Go.RowKit

set_option maxHeartbeats 8000000 in
set_option maxRecDepth 100000 in
theorem resize_any (w : World) (v : Value) (R : Cls) (i : Int) (b : Cel) (h : RowIn w v R) (hw : Wh R) (hl : R.length ≤ 1000) (hi : -100000 < i ∧ i < 10000) : Calls Try.prog 19 #[v, .int .i64 i, celV b] w (OwnRes w (resizeM R i b)) := by
  obtain ⟨a, c, rfl⟩ := h.shape
  have HW := Lib.hid hw
  obtain ⟨N, hN⟩ : ∃ N, N = R.length := ⟨_, rfl⟩
  have HN := Lib.hid hN
  obtain ⟨w0, hw0⟩ : ∃ w0, w0 = w.alloc (.cells #[.int .i32 b.ru, .int .i32 b.m0, .int .i32 b.m1, .int .u8 b.k, .int .u8 b.a.fg.k, .int .u8 b.a.fg.r, .int .u8 b.a.fg.g, .int .u8 b.a.fg.b, .int .u8 b.a.bg.k, .int .u8 b.a.bg.r, .int .u8 b.a.bg.g, .int .u8 b.a.bg.b, .int .u16 (b.a.fl : Nat), .int .u8 b.l] 44) := ⟨_, rfl⟩
  obtain ⟨z, hz⟩ : ∃ z, z = w.heap.size := ⟨_, rfl⟩
  have b0 : Below w.heap.size w w0 := by rw [hw0]; exact (Below.refl _ _).alloc (Nat.le_refl _) _
  have HA0 := Lib.hid (show BAt w0 z b by rw [hw0, hz]; exact BAt.newAt w _ rfl b _)
  have HB0 := Lib.hid b0
  have HR0 := Lib.hid (h.below b0)
  rw [← hN] at HR0 hl ⊢
  obtain ⟨p, hp⟩ : ∃ p, p = inN i N := ⟨_, rfl⟩
  obtain ⟨x, hx⟩ : ∃ x, x = i - (p : Int) := ⟨_, rfl⟩
  have hpN : p ≤ N := by rw [hp]; exact inN_le _ _
  have HM := Lib.hid (show (breakM R i).take p ++ newM x.toNat b = resizeM R i b by rw [← resize_eq hw, ← hN, ← hp, hx])
  have CW1 := Lib.hid (show ∀ W, Calls Try.prog 33 #[.int .i64 i, .int .i64 (N : Nat)] W fun e w' => e = .returned (.int .i64 (p : Nat)) ∧ W = w' from fun W => by rw [hp]; exact within_any W i N)
  have HBL := Lib.hid (show (breakM R i).length = N by rw [len_breakM]; exact hN.symm)
  have s1 : IntKind.i64.wrap (i - (p : Int)) = x := by rw [IntKind.wrap_i64]; omega
  have HC2 := Lib.hid (show x ≤ 10000 ∧ -100000 ≤ x by unfold inN at hp; omega)
  have HI := Lib.hid hi
  have HPN := Lib.hid hpN
  have HL1 := Lib.hid hl
  clear h hw hN b0 hp hi hx hpN
  go_enter Try.func19, Try.ntmps19
  go_upto_region 1 with (fail)
  rw [← hw0, ← hz]
  clear hw0 hz
  go_wp2_with fail
  refine (CW1.out _).mono ?_
  rintro e0 wx ⟨rfl, rfl⟩
  clear CW1
  go_upto_region 2 with (fail)
  refine wp_region_held_drew (S := fun w' => w'.cell? ⟨z, 0, none⟩ = some (.int .i32 b.ru) ∧ w'.cell? ⟨z, 1, none⟩ = some (.int .i32 b.m0) ∧ w'.cell? ⟨z, 2, none⟩ = some (.int .i32 b.m1) ∧ w'.cell? ⟨z, 3, none⟩ = some (.int .u8 b.k) ∧ w'.cell? ⟨z, 4, none⟩ = some (.int .u8 b.a.fg.k) ∧ w'.cell? ⟨z, 5, none⟩ = some (.int .u8 b.a.fg.r) ∧ w'.cell? ⟨z, 6, none⟩ = some (.int .u8 b.a.fg.g) ∧ w'.cell? ⟨z, 7, none⟩ = some (.int .u8 b.a.fg.b) ∧ w'.cell? ⟨z, 8, none⟩ = some (.int .u8 b.a.bg.k) ∧ w'.cell? ⟨z, 9, none⟩ = some (.int .u8 b.a.bg.r) ∧ w'.cell? ⟨z, 10, none⟩ = some (.int .u8 b.a.bg.g) ∧ w'.cell? ⟨z, 11, none⟩ = some (.int .u8 b.a.bg.b) ∧ w'.cell? ⟨z, 12, none⟩ = some (.int .u16 (b.a.fl : Nat)) ∧ w'.cell? ⟨z, 13, none⟩ = some (.int .u8 b.l)) (by kernel_rfl) ?_ (fun hHeld => ?_)
  · exact HA0.out.2.1
  obtain ⟨u0, hu0⟩ : ∃ x, x = w0.drew := ⟨_, rfl⟩
  have bd : Below w0.heap.size w0 u0 := by rw [hu0]; exact ⟨rfl, rfl, rfl, Nat.le_refl _, fun _ _ => rfl⟩
  have HRu := Lib.hid (HR0.out.below bd)
  have HAu := Lib.hid (HA0.out.below bd)
  have HBu := Lib.hid (HB0.out.trans (bd.mono HB0.out.size))
  replace hHeld := HAu.out.2.1
  unfold D14 at hHeld
  rw [← hu0]
  clear hu0 bd HR0 HA0 HB0
  refine take_at (i := 0) (v := ?_) rfl (by kernel_rfl) (by kernel_rfl) (by kernel_rfl) (fun _ _ _ h => h) (by kernel_rfl) (by assumption) ?_ ?_
  rotate_left
  · (intro w hSw; (try dsimp only at hSw); go_simp; try with_reducible rfl)
  simp only [Act.put, List.setIfInBounds_toArray, List.set_cons_zero, List.set_cons_succ]
  refine take_at (i := 1) (v := ?_) rfl (by kernel_rfl) (by kernel_rfl) (by kernel_rfl) (fun _ _ _ h => h) (by kernel_rfl) (by assumption) ?_ ?_
  rotate_left
  · (intro w hSw; (try dsimp only at hSw); go_simp; try with_reducible rfl)
  simp only [Act.put, List.setIfInBounds_toArray, List.set_cons_zero, List.set_cons_succ]
  refine take_at (i := 4) (v := ?_) rfl (by kernel_rfl) (by kernel_rfl) (by kernel_rfl) (fun _ _ _ h => h) (by kernel_rfl) (by assumption) ?_ ?_
  rotate_left
  · (intro w hSw; (try dsimp only at hSw); go_simp; try with_reducible rfl)
  simp only [Act.put, List.setIfInBounds_toArray, List.set_cons_zero, List.set_cons_succ]
  refine take_at (i := 6) (v := ?_) rfl (by kernel_rfl) (by kernel_rfl) (by kernel_rfl) (fun _ _ _ h => h) (by kernel_rfl) (by assumption) ?_ ?_
  rotate_left
  · (intro w hSw; (try dsimp only at hSw); go_simp; try with_reducible rfl)
  simp only [Act.put, List.setIfInBounds_toArray, List.set_cons_zero, List.set_cons_succ]
  refine take_at (i := 7) (v := ?_) rfl (by kernel_rfl) (by kernel_rfl) (by kernel_rfl) (fun _ _ _ h => h) (by kernel_rfl) (by assumption) ?_ ?_
  rotate_left
  · (intro w hSw; (try dsimp only at hSw); go_simp; try with_reducible rfl)
  simp only [Act.put, List.setIfInBounds_toArray, List.set_cons_zero, List.set_cons_succ]
  refine take_at (i := 8) (v := ?_) rfl (by kernel_rfl) (by kernel_rfl) (by kernel_rfl) (fun _ _ _ h => h) (by kernel_rfl) (by assumption) ?_ ?_
  rotate_left
  · (intro w hSw; (try dsimp only at hSw); go_simp; try with_reducible rfl)
  simp only [Act.put, List.setIfInBounds_toArray, List.set_cons_zero, List.set_cons_succ]
  refine take_at (i := 9) (v := ?_) rfl (by kernel_rfl) (by kernel_rfl) (by kernel_rfl) (fun _ _ _ h => h) (by kernel_rfl) (by assumption) ?_ ?_
  rotate_left
  · (intro w hSw; (try dsimp only at hSw); go_simp; try with_reducible rfl)
  simp only [Act.put, List.setIfInBounds_toArray, List.set_cons_zero, List.set_cons_succ]
  refine do_at (i := 2) rfl (by kernel_rfl) (by kernel_rfl) (fun K hK => ?_)
  obtain ⟨w1, hw1⟩ : ∃ x, x = u0.alloc (.cells #[.int .i64 i] 3) := ⟨_, rfl⟩
  obtain ⟨s, hs⟩ : ∃ x, x = u0.heap.size := ⟨_, rfl⟩
  have bb : Below u0.heap.size u0 w1 := by rw [hw1]; exact (Below.refl _ _).alloc (Nat.le_refl _) _
  have HPS := Lib.hid (show PsAt w1 (.slice (some ⟨s, 0, none⟩) 1 1) [i] from ⟨s, 0, 1, rfl, by simp, by rw [hw1, hs]; simp, fun j hj => by
    obtain rfl : j = 0 := by simp at hj; omega
    · rw [hw1, hs]; simp
  , fun j hj => by
    obtain rfl : j = 0 := by simp at hj; omega
    · show -100000 < i ∧ i < 100000
      have := HI.out; omega⟩)
  have HR1 := Lib.hid (HRu.out.below bb)
  have HA1 := Lib.hid (HAu.out.below bb)
  have HB1 := Lib.hid (HBu.out.trans (bb.mono HBu.out.size))
  clear bb HRu HAu HBu
  go_wp2_with fail
  rw [← hw1, ← hs]
  clear hw1 hs
  refine hK.out _ _ ?_ (fun hHeld => ?_)
  · exact HA1.out.2.1
  clear hK K
  try simp only [Act.put, List.setIfInBounds_toArray, List.set_cons_zero, List.set_cons_succ]
  refine do_at (i := 3) rfl (by kernel_rfl) (by kernel_rfl) (fun K hK => ?_)
  go_wp2_with fail
  refine (break_any w1 (.slice a N c) R _ [i] HR1.out HW.out (by rw [← HN.out]; have := HL1.out; omega) HPS.out).mono ?_
  rintro e0 w2 ⟨g, c1, rfl, hc1, own1, hg1, hg2, b1⟩
  have own1' : CRow w2 w1.heap.size (.slice (some ⟨g, 0, none⟩) (breakM R i).length c1) (breakM R i) := own1
  have hc1' : (breakM R i).length ≤ c1 := hc1
  rw [HBL.out] at own1' hc1'
  have HO2 := Lib.hid own1'
  have HA2 := Lib.hid (HA1.out.below b1)
  have HB2 := Lib.hid (HB1.out.trans (b1.mono HB1.out.size))
  obtain ⟨k1, k1r⟩ := cut_to g N c1 p (by have := HPN.out; omega)
  have HP1 := Lib.hid (show ∀ w, RowIn w (.slice (some ⟨g, 0, none⟩) N c1) (breakM R i) → RowIn w (.slice (some ⟨g, 0, none⟩) p c1) ((breakM R i).take p) from fun w hr => k1r w _ hr (by rw [HBL.out]; exact HPN.out))
  clear own1 own1' hc1 hc1' hg1 hg2 b1 HR1 HA1 HB1 HPS k1r
  rw [show List.foldl breakM R [i] = breakM R i from rfl, HBL.out]
  go_wp2_with fail
  refine hK.out _ _ ?_ (fun hHeld => ?_)
  · exact HA2.out.2.1
  clear hK K
  try simp only [Act.put, List.setIfInBounds_toArray, List.set_cons_zero, List.set_cons_succ]
  refine take_at (i := 5) (v := ?_) rfl (by kernel_rfl) (by kernel_rfl) (by kernel_rfl) (fun _ _ _ h => h) (by kernel_rfl) (by assumption) ?_ ?_
  rotate_left
  · (intro w hSw; (try dsimp only at hSw); go_simp; try with_reducible rfl)
  simp only [Act.put, List.setIfInBounds_toArray, List.set_cons_zero, List.set_cons_succ]
  refine do_at (i := 10) rfl (by kernel_rfl) (by kernel_rfl) (fun K hK => ?_)
  go_wp2_with fail
  refine (new_any _ x b HC2.out.1 HC2.out.2).mono ?_
  rintro e0 w3 ⟨v3, rfl, own3, b3⟩
  have HO3 := Lib.hid (HO2.out.below b3)
  have HA3 := Lib.hid (HA2.out.below b3)
  have HB3 := Lib.hid (HB2.out.trans (b3.mono HB2.out.size))
  obtain ⟨a3, c3, rfl⟩ := own3.shape
  obtain ⟨l3, hl3⟩ : ∃ l, l = (newM x.toNat b).length := ⟨_, rfl⟩
  have HL3 := Lib.hid hl3
  rw [← hl3] at own3 ⊢
  have HV3 := Lib.hid own3
  clear own3 b3 hl3 HO2 HA2 HB2
  go_wp2_with fail
  refine hK.out _ _ ?_ (fun hHeld => ?_)
  · exact HA3.out.2.1
  clear hK K
  try simp only [Act.put, List.setIfInBounds_toArray, List.set_cons_zero, List.set_cons_succ]
  refine do_at (i := 11) rfl (by kernel_rfl) (by kernel_rfl) (fun K hK => ?_)
  obtain ⟨w4, hw4⟩ : ∃ y, y = w3.alloc (.cells #[.slice (some ⟨g, 0, none⟩) p c1, .slice a3 l3 c3] 27) := ⟨_, rfl⟩
  obtain ⟨s4, hs4⟩ : ∃ y, y = w3.heap.size := ⟨_, rfl⟩
  have bb : Below w3.heap.size w3 w4 := by rw [hw4]; exact (Below.refl _ _).alloc (Nat.le_refl _) _
  have HPP := Lib.hid (show RsAt w4 (.slice (some ⟨s4, 0, none⟩) 2 2) [(breakM R i).take p, newM x.toNat b] from ⟨s4, 0, 2, rfl, by simp, by rw [hw4, hs4]; simp, fun j hj => by
    rcases (show j = 0 ∨ j = 1 by simp at hj; omega) with rfl | rfl
    · exact ⟨.slice (some ⟨g, 0, none⟩) p c1, by rw [hw4, hs4]; simp, HP1.out _ (HO3.out.below bb).row⟩
    · exact ⟨.slice a3 l3 c3, by rw [hw4, hs4]; simp, (HV3.out.below bb).row⟩⟩)
  have HA4 := Lib.hid (HA3.out.below bb)
  have HB4 := Lib.hid (HB3.out.trans (bb.mono HB3.out.size))
  clear bb HO3 HV3 HA3 HB3 HP1
  go_wp2_with fail
  rw [← hw4, ← hs4]
  clear hw4 hs4
  refine hK.out _ _ ?_ (fun hHeld => ?_)
  · exact HA4.out.2.1
  clear hK K
  try simp only [Act.put, List.setIfInBounds_toArray, List.set_cons_zero, List.set_cons_succ]
  refine do_at (i := 12) rfl (by kernel_rfl) (by kernel_rfl) (fun K hK => ?_)
  go_wp2_with fail
  refine (joined_any w4 _ [(breakM R i).take p, newM x.toNat b] HPP.out (fun j hj => by
    rcases (show j = 0 ∨ j = 1 by simp at hj; omega) with rfl | rfl
    all_goals (have := HL1.out; have := HBL.out; have := HC2.out; simp [newM]; omega))).mono ?_
  rintro e0 w5 ⟨v5, rfl, own5, b5⟩
  have HO5 := Lib.hid own5
  have HA5 := Lib.hid (HA4.out.below b5)
  have HB5 := Lib.hid (HB4.out.trans (b5.mono HB4.out.size))
  have HS5 := Lib.hid HB4.out.size
  clear own5 b5 HPP HA4 HB4
  go_wp2_with fail
  refine hK.out _ _ ?_ (fun hHeld => ?_)
  · exact HA5.out.2.1
  clear hK K
  try simp only [Act.put, List.setIfInBounds_toArray, List.set_cons_zero, List.set_cons_succ]
  refine take_at (i := 13) (v := ?_) rfl (by kernel_rfl) (by kernel_rfl) (by kernel_rfl) (fun _ _ _ h => h) (by kernel_rfl) (by assumption) ?_ ?_
  rotate_left
  · (intro w hSw; (try dsimp only at hSw); go_simp; try with_reducible rfl)
  simp only [Act.put, List.setIfInBounds_toArray, List.set_cons_zero, List.set_cons_succ]
  refine wpAnyH_done (by kernel_rfl) ?_ _
  clear hHeld HA5
  have HF := Lib.hid (show CRow w5 w.heap.size v5 (resizeM R i b) by
    have e0 : [(breakM R i).take p, newM x.toNat b].flatten = resizeM R i b := by
      rw [← HM.out]
      simp
    rw [← e0]
    exact HO5.out.lower HS5.out)
  clear HO5
  go_wp2
  go_ret
  exact ⟨v5, rfl, HF.out, HB5.out⟩
end Go.Proofs.Ythildghpgajgoaa.Lab
