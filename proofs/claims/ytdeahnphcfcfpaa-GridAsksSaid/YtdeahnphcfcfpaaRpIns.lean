/- The project's Insert. -/
import Derived.Test.YtdeahnphcfcfpaaGrMath
namespace Go.Proofs.Ytdeahnphcfcfpaa.Lab
open Go Go.RowKit

set_option maxHeartbeats 8000000 in
set_option maxRecDepth 100000 in
theorem insert_any (w : World) (v : Value) (R : Cls) (i n : Int) (b : Cel) (h : RowIn w v R) (hw : Wh R) (hl : R.length ≤ 1000) : Calls Try.prog 98 #[v, .int .i64 i, .int .i64 n, celV b] w (OwnRes w (insertM R i n b)) := by
  obtain ⟨a, c, rfl⟩ := h.shape
  have HW := Lib.hid hw
  obtain ⟨N, hN⟩ : ∃ N, N = R.length := ⟨_, rfl⟩
  have HN := Lib.hid hN
  obtain ⟨w0, hw0⟩ : ∃ w0, w0 = w.alloc (.cells #[.int .i32 b.ru, .int .i32 b.m0, .int .i32 b.m1, .int .u8 b.k, .int .u8 b.a.fg.k, .int .u8 b.a.fg.r, .int .u8 b.a.fg.g, .int .u8 b.a.fg.b, .int .u8 b.a.bg.k, .int .u8 b.a.bg.r, .int .u8 b.a.bg.g, .int .u8 b.a.bg.b, .int .u16 (b.a.fl : Nat), .int .u8 b.l] 42) := ⟨_, rfl⟩
  obtain ⟨z, hz⟩ : ∃ z, z = w.heap.size := ⟨_, rfl⟩
  have b0 : Below w.heap.size w w0 := by rw [hw0]; exact (Below.refl _ _).alloc (Nat.le_refl _) _
  have HA0 := Lib.hid (show BAt w0 z b by rw [hw0, hz]; exact BAt.newAt w _ rfl b _)
  have HB0 := Lib.hid b0
  have HR0 := Lib.hid (h.below b0)
  rw [← hN] at HR0 hl ⊢
  obtain ⟨p, hp⟩ : ∃ p, p = inN i N := ⟨_, rfl⟩
  obtain ⟨d, hd⟩ : ∃ d, d = N - p := ⟨_, rfl⟩
  obtain ⟨q, hq⟩ : ∃ q, q = inN n d := ⟨_, rfl⟩
  obtain ⟨e, he⟩ : ∃ e, e = N - q := ⟨_, rfl⟩
  have hpN : p ≤ N := by rw [hp]; exact inN_le _ _
  have hqd : q ≤ d := by rw [hq]; exact inN_le _ _
  have HM := Lib.hid (show insertM R i n b = insM R p q b by unfold insertM; rw [← hN, ← hp, ← hd, ← hq])
  have CW1 := Lib.hid (show ∀ W, Calls Try.prog 85 #[.int .i64 i, .int .i64 (N : Nat)] W fun e w' => e = .returned (.int .i64 (p : Nat)) ∧ W = w' from fun W => by rw [hp]; exact within_any W i N)
  have CW2 := Lib.hid (show ∀ W, Calls Try.prog 85 #[.int .i64 n, .int .i64 (d : Nat)] W fun e w' => e = .returned (.int .i64 (q : Nat)) ∧ W = w' from fun W => by rw [hq]; exact within_any W n d)
  have HBL := Lib.hid (show (([(p : Int), (e : Int)]).foldl breakM R).length = N by rw [len_breaks]; exact hN.symm)
  have HBE := Lib.hid (show ([(p : Int), (e : Int)]).foldl breakM R = brk (brk R p) e from breaks_two R (by rw [← hN]; exact hpN) (by rw [← hN]; omega))
  have s1 : IntKind.i64.wrap ((N : Int) - (p : Int)) = (d : Int) := by rw [IntKind.wrap_i64]; omega
  have s2 : IntKind.i64.wrap ((N : Int) - (q : Int)) = (e : Int) := by rw [IntKind.wrap_i64]; omega
  have HEQ := Lib.hid he
  have HDQ := Lib.hid hd
  have heN : e ≤ N := by omega
  have hpe : p ≤ e := by omega
  have hqN : q ≤ N := by omega
  clear h hw hN b0 hp hq he hqd hd
  obtain ⟨w1, hw1⟩ : ∃ x, x = w0.alloc (.cells #[.int .i64 ((p : Nat) : Int), .int .i64 ((e : Nat) : Int)] 3) := ⟨_, rfl⟩
  obtain ⟨s, hs⟩ : ∃ x, x = w0.heap.size := ⟨_, rfl⟩
  have bb : Below w0.heap.size w0 w1 := by rw [hw1]; exact (Below.refl _ _).alloc (Nat.le_refl _) _
  have HPS := Lib.hid (show PsAt w1 (.slice (some ⟨s, 0, none⟩) 2 2) [((p : Nat) : Int), ((e : Nat) : Int)] from ⟨s, 0, 2, rfl, by simp, by rw [hw1, hs]; simp, fun j hj => by
    rcases (show j = 0 ∨ j = 1 by simp at hj; omega) with rfl | rfl
    · rw [hw1, hs]; simp
    · rw [hw1, hs]; simp, fun j hj => by
    rcases (show j = 0 ∨ j = 1 by simp at hj; omega) with rfl | rfl
    · show (-100000 : Int) < ((p : Nat) : Int) ∧ ((p : Nat) : Int) < 100000
      omega
    · show (-100000 : Int) < ((e : Nat) : Int) ∧ ((e : Nat) : Int) < 100000
      omega⟩)
  have HR1 := Lib.hid (HR0.out.below bb)
  have HA1 := Lib.hid (HA0.out.below bb)
  have HB1 := Lib.hid (HB0.out.trans (bb.mono HB0.out.size))
  have HBK := Lib.hid (break_any w1 (.slice a N c) R _ [((p : Nat) : Int), ((e : Nat) : Int)] HR1.out HW.out (by rw [← HN.out]; omega) HPS.out)
  clear bb HR0 HA0 HB0 HR1 HPS
  go_enter Try.func98, Try.ntmps98
  go_upto_region 1 with (fail)
  rw [← hw0, ← hz]
  clear hw0 hz
  go_wp2_with fail
  refine (CW1.out _).mono ?_
  rintro e0 wx ⟨rfl, rfl⟩
  go_wp2_with fail
  refine (CW2.out _).mono ?_
  rintro e0 wx ⟨rfl, rfl⟩
  clear CW1 CW2 s1
  go_wp2_with fail
  rw [← hw1, ← hs]
  clear hw1 hs
  refine HBK.out.mono ?_
  rintro e0 w2 ⟨g, c1, rfl, hc1, own1, hg1, hg2, b1⟩
  rw [HBL.out] at own1 hc1 ⊢
  have HO2 := Lib.hid own1
  have HC1 := Lib.hid hc1
  have HA2 := Lib.hid (HA1.out.below b1)
  have HB2 := Lib.hid (HB1.out.trans (b1.mono HB1.out.size))
  have HG := Lib.hid (show w.heap.size ≤ g from Nat.le_trans HB1.out.size hg1)
  have HB1s := Lib.hid HB1.out.size
  clear own1 hc1 hg1 hg2 b1 HA1 HB1 HBK
  obtain ⟨B, hB⟩ : ∃ B, B = ([(p : Int), (e : Int)]).foldl breakM R := ⟨_, rfl⟩
  rw [← hB] at HO2 HBL HBE
  clear hB
  have hc1 := HC1.out
  obtain ⟨k1, k1r⟩ := cut_to g N c1 p (by omega)
  obtain ⟨ad, m, cm, hm, hcm, k2, _, k2r⟩ := cut_both g N c1 p e hpe (by omega)
  have HP3 := Lib.hid (show ∀ w, RowIn w (.slice (some ⟨g, 0, none⟩) N c1) B → RowIn w (.slice ad m cm) ((B.drop p).take (e - p)) from fun w hr => k2r w B hr (by rw [HBL.out]; exact heN))
  have HP1 := Lib.hid (show ∀ w, RowIn w (.slice (some ⟨g, 0, none⟩) N c1) B → RowIn w (.slice (some ⟨g, 0, none⟩) p c1) (B.take p) from fun w hr => k1r w B hr (by rw [HBL.out]; exact hpN))
  have HC2 := Lib.hid (show (q : Int) ≤ 10000 ∧ -100000 ≤ (q : Int) by omega)
  have HL1 := Lib.hid (show N ≤ 1000 ∧ q ≤ 1000 by omega)
  clear k1r k2r hm hcm hc1 HC1 hpe hpN heN hl hqN
  go_upto_region 4 with (fail)
  refine wp_region_held_drew (S := fun w' => w'.cell? ⟨z, 0, none⟩ = some (.int .i32 b.ru) ∧ w'.cell? ⟨z, 1, none⟩ = some (.int .i32 b.m0) ∧ w'.cell? ⟨z, 2, none⟩ = some (.int .i32 b.m1) ∧ w'.cell? ⟨z, 3, none⟩ = some (.int .u8 b.k) ∧ w'.cell? ⟨z, 4, none⟩ = some (.int .u8 b.a.fg.k) ∧ w'.cell? ⟨z, 5, none⟩ = some (.int .u8 b.a.fg.r) ∧ w'.cell? ⟨z, 6, none⟩ = some (.int .u8 b.a.fg.g) ∧ w'.cell? ⟨z, 7, none⟩ = some (.int .u8 b.a.fg.b) ∧ w'.cell? ⟨z, 8, none⟩ = some (.int .u8 b.a.bg.k) ∧ w'.cell? ⟨z, 9, none⟩ = some (.int .u8 b.a.bg.r) ∧ w'.cell? ⟨z, 10, none⟩ = some (.int .u8 b.a.bg.g) ∧ w'.cell? ⟨z, 11, none⟩ = some (.int .u8 b.a.bg.b) ∧ w'.cell? ⟨z, 12, none⟩ = some (.int .u16 (b.a.fl : Nat)) ∧ w'.cell? ⟨z, 13, none⟩ = some (.int .u8 b.l)) (by kernel_rfl) ?_ (fun hHeld => ?_)
  · exact HA2.out.2.1
  obtain ⟨u0, hu0⟩ : ∃ x, x = w2.drew := ⟨_, rfl⟩
  have bd : Below w2.heap.size w2 u0 := by rw [hu0]; exact ⟨rfl, rfl, rfl, Nat.le_refl _, fun _ _ => rfl⟩
  have HOu := Lib.hid (HO2.out.below bd)
  have HAu := Lib.hid (HA2.out.below bd)
  have HBu := Lib.hid (HB2.out.trans (bd.mono HB2.out.size))
  replace hHeld := HAu.out.2.1
  unfold D14 at hHeld
  rw [← hu0]
  clear hu0 bd HO2 HA2 HB2
  refine tk 0 rfl (fun w hSw => by (try dsimp only at hSw); go_simp; try with_reducible rfl) ?_
  go_frame
  refine tk 1 rfl (fun w hSw => by (try dsimp only at hSw); go_simp; try with_reducible rfl) ?_
  go_frame
  refine tk 2 rfl (fun w hSw => by (try dsimp only at hSw); go_simp; try with_reducible rfl) ?_
  go_frame
  refine tk 3 rfl (fun w hSw => by (try dsimp only at hSw); go_simp; try with_reducible rfl) ?_
  go_frame
  refine tk 4 rfl (fun w hSw => by (try dsimp only at hSw); go_simp; try with_reducible rfl) ?_
  go_frame
  refine tk 6 rfl (fun w hSw => by (try dsimp only at hSw); go_simp; try with_reducible rfl) ?_
  go_frame
  refine tk 7 rfl (fun w hSw => by (try dsimp only at hSw); go_simp; try with_reducible rfl) ?_
  go_frame
  refine tk 8 rfl (fun w hSw => by (try dsimp only at hSw); go_simp; try with_reducible rfl) ?_
  go_frame
  refine tk 9 rfl (fun w hSw => by (try dsimp only at hSw); go_simp; try with_reducible rfl) ?_
  go_frame
  refine tk 10 rfl (fun w hSw => by (try dsimp only at hSw); go_simp; try with_reducible rfl) ?_
  go_frame
  refine tk 11 rfl (fun w hSw => by (try dsimp only at hSw); go_simp; try with_reducible rfl) ?_
  go_frame
  refine tk 12 rfl (fun w hSw => by (try dsimp only at hSw); go_simp; try with_reducible rfl) ?_
  go_frame
  refine do_at (i := 5) rfl (by kernel_rfl) (by kernel_rfl) (fun K hK => ?_)
  go_wp2_with fail
  refine (new_any _ (q : Int) b HC2.out.1 HC2.out.2).mono ?_
  rintro e0 w3 ⟨v3, rfl, own3, b3⟩
  rw [Int.toNat_natCast] at own3
  have HO3 := Lib.hid (HOu.out.below b3)
  have HA3 := Lib.hid (HAu.out.below b3)
  have HB3 := Lib.hid (HBu.out.trans (b3.mono HBu.out.size))
  obtain ⟨a3, c3, rfl⟩ := own3.shape
  have hnl : (newM q b).length = q := by simp [newM]
  rw [hnl] at own3 ⊢
  have HV3 := Lib.hid own3
  clear own3 b3 hnl HOu HAu HBu
  go_wp2_with fail
  refine hK.out _ _ ?_ (fun hHeld => ?_)
  · exact HA3.out.2.1
  clear hK K
  try go_frame
  refine do_at (i := 13) rfl (by kernel_rfl) (by kernel_rfl) (fun K hK => ?_)
  obtain ⟨w4, hw4⟩ : ∃ x, x = w3.alloc (.cells #[.slice (some ⟨g, 0, none⟩) p c1, .slice a3 q c3, .slice ad m cm] 26) := ⟨_, rfl⟩
  obtain ⟨s4, hs4⟩ : ∃ x, x = w3.heap.size := ⟨_, rfl⟩
  have bb : Below w3.heap.size w3 w4 := by rw [hw4]; exact (Below.refl _ _).alloc (Nat.le_refl _) _
  have HPP := Lib.hid (show RsAt w4 (.slice (some ⟨s4, 0, none⟩) 3 3) [B.take p, newM q b, (B.drop p).take (e - p)] from ⟨s4, 0, 3, rfl, by simp, by rw [hw4, hs4]; simp, fun j hj => by
    rcases (show j = 0 ∨ j = 1 ∨ j = 2 by simp at hj; omega) with rfl | rfl | rfl
    · exact ⟨.slice (some ⟨g, 0, none⟩) p c1, by rw [hw4, hs4]; simp, HP1.out _ (HO3.out.below bb).row⟩
    · exact ⟨.slice a3 q c3, by rw [hw4, hs4]; simp, (HV3.out.below bb).row⟩
    · exact ⟨.slice ad m cm, by rw [hw4, hs4]; simp, HP3.out _ (HO3.out.below bb).row⟩⟩)
  have HA4 := Lib.hid (HA3.out.below bb)
  have HB4 := Lib.hid (HB3.out.trans (bb.mono HB3.out.size))
  clear bb HO3 HV3 HA3 HB3 HP1 HP3
  go_wp2_with fail
  rw [← hw4, ← hs4]
  clear hw4 hs4
  refine hK.out _ _ ?_ (fun hHeld => ?_)
  · exact HA4.out.2.1
  clear hK K
  try go_frame
  refine do_at (i := 14) rfl (by kernel_rfl) (by kernel_rfl) (fun K hK => ?_)
  go_wp2_with fail
  refine (joined_any w4 _ [B.take p, newM q b, (B.drop p).take (e - p)] HPP.out (fun j hj => by
    rcases (show j = 0 ∨ j = 1 ∨ j = 2 by simp at hj; omega) with rfl | rfl | rfl
    all_goals (have := HL1.out; have := HBL.out; simp [newM]; omega))).mono ?_
  rintro e0 w5 ⟨v5, rfl, own5, b5⟩
  have HO5 := Lib.hid own5
  have HA5 := Lib.hid (HA4.out.below b5)
  have HB5 := Lib.hid (HB4.out.trans (b5.mono HB4.out.size))
  have HS5 := Lib.hid HB4.out.size
  clear own5 b5 HPP HA4 HB4
  go_wp2_with fail
  refine hK.out _ _ ?_ (fun hHeld => ?_)
  · exact HA5.out.2.1
  clear hK K
  try go_frame
  refine tk 15 rfl (fun w hSw => by (try dsimp only at hSw); go_simp; try with_reducible rfl) ?_
  go_frame
  refine wpAnyH_done (by kernel_rfl) ?_ _
  clear hHeld HA5
  have HF := Lib.hid (show CRow w5 w.heap.size v5 (insertM R i n b) by
    have e0 : [B.take p, newM q b, (B.drop p).take (e - p)].flatten = insertM R i n b := by
      rw [HM.out]
      unfold insM
      simp only [List.flatten_cons, List.flatten_nil, List.append_nil, newM, HBE.out]
      rw [← HN.out, ← HEQ.out, List.append_assoc]
    rw [← e0]
    exact HO5.out.lower HS5.out)
  clear HO5
  go_wp2
  go_ret
  exact ⟨v5, rfl, HF.out, HB5.out⟩
end Go.Proofs.Ytdeahnphcfcfpaa.Lab
