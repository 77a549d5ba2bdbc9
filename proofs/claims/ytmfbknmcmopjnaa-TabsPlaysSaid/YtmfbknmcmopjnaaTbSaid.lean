/- What an act does to the reference's tab stops: said. -/
import Derived.Test.YtmfbknmcmopjnaaTbRr
import Derived.Test.YtmfbknmcmopjnaaTbDoes
set_option linter.unusedVariables false
namespace Go.Proofs.Ytmfbknmcmopjnaa.Lab
open Go Go.RowKit Go.Shelf

set_option maxHeartbeats 8000000 in
theorem said_any (a : Ac) (u v : Value) (t : Tb) (ha : a.Ok) (ht : t.Ok) (w : World) (h : S16 w u a.l) (hB : BIn w v t.L) : Calls Try.prog 13 #[acV a u, rV v t] w (RAns w (doT a t)) := by
  obtain ⟨va, vc, rfl⟩ := hB.shape
  obtain ⟨n, hn⟩ : ∃ n, n = t.L.length := ⟨_, rfl⟩
  have HBY := Lib.hid (fun w => by_any a u w)
  have HCO := Lib.hid (fun w (h : S16 w u a.l) => actcols_any a u w h)
  have HH := Lib.hid (And.intro ha ht)
  have HL10 := Lib.hid (show (a.l.take 10).length ≤ 1000 by rw [List.length_take]; omega)
  have HN := Lib.hid hn
  rw [← hn] at hB ⊢
  clear hn
  obtain ⟨w1, hw1⟩ : ∃ x, x = w.alloc (.cells #[.int .u8 (a.what : Nat), .bool a.high, u, .int .i16 a.cols] 37) := ⟨_, rfl⟩
  obtain ⟨w2, hw2⟩ : ∃ x, x = w1.alloc (.cells #[.slice va n vc, .int .u8 (t.l : Nat), .int .u8 (t.b : Nat)] RT) := ⟨_, rfl⟩
  obtain ⟨w3, hw3⟩ : ∃ x, x = w2.alloc (.cells #[.slice none 0 0, .int .u8 0, .int .u8 0] RT) := ⟨_, rfl⟩
  obtain ⟨b, hb⟩ : ∃ b, b = w.heap.size := ⟨_, rfl⟩
  have e1 : w1.heap.size = b + 1 := by rw [hw1, hb]; simp
  have e2 : w2.heap.size = b + 1 + 1 := by rw [hw2, World.size_alloc, e1]
  have b12 : Below w1.heap.size w1 w2 := by rw [hw2]; exact (Below.refl _ _).alloc (Nat.le_refl _) _
  have b23 : Below w2.heap.size w2 w3 := by rw [hw3]; exact (Below.refl _ _).alloc (Nat.le_refl _) _
  have b01 : Below w.heap.size w w1 := by rw [hw1]; exact (Below.refl _ _).alloc (Nat.le_refl _) _
  have HB3 := Lib.hid (show Below w.heap.size w w3 from (b01.trans (b12.mono b01.size)).trans (b23.mono (Nat.le_trans b01.size b12.size)))
  have HA := Lib.hid (show AcAt w3 b a u from ((show AcAt w1 b a u by rw [hw1]; exact AcAt.newAt w b hb a u _).below b12).below b23)
  have HT := Lib.hid (show w3.heap[b + 1]? = some (.cells #[.slice va n vc, .int .u8 (t.l : Nat), .int .u8 (t.b : Nat)] RT (0, 0)) from (b23.block (b + 1) (by rw [e2]; omega)).trans (by rw [hw2, ← e1]; exact World.alloc_heap_new w1 _))
  have HZ := Lib.hid (show w3.heap[b + 1 + 1]? = some (.cells #[.slice none 0 0, .int .u8 0, .int .u8 0] RT (0, 0)) by rw [hw3, ← e2]; exact World.alloc_heap_new w2 _)
  have HS := Lib.hid (h.below HB3.out)
  have HBI := Lib.hid (hB.below HB3.out)
  have HBE := Lib.hid hb
  have HSZ := Lib.hid (show b + 1 + 1 < w3.heap.size from (Array.getElem?_eq_some_iff.1 HZ.out).1)
  have e3 : w3 = ((w.alloc (.cells #[.int .u8 (a.what : Nat), .bool a.high, u, .int .i16 a.cols] 37)).alloc (.cells #[.slice va n vc, .int .u8 (t.l : Nat), .int .u8 (t.b : Nat)] RT)).alloc (.cells #[.slice none 0 0, .int .u8 0, .int .u8 0] RT) := by rw [hw3, hw2, hw1]
  clear hw1 hw2 hw3 e1 e2 b12 b23 b01 h hB
  have KEEP := Lib.hid (show ∀ wx, Below w3.heap.size w3 wx → (wx.cell? ⟨b, 0, none⟩ = some (.int .u8 (a.what : Nat)) ∧ wx.cell? ⟨b, 1, none⟩ = some (.bool a.high) ∧ wx.cell? ⟨b, 2, none⟩ = some u ∧ wx.cell? ⟨b, 3, none⟩ = some (.int .i16 a.cols)) ∧ wx.cell? ⟨b + 1, 0, none⟩ = some (.slice va n vc) ∧ wx.cell? ⟨b + 1, 1, none⟩ = some (.int .u8 (t.l : Nat)) ∧ wx.cell? ⟨b + 1, 2, none⟩ = some (.int .u8 (t.b : Nat)) from fun wx hx => ⟨(HA.out.below hx).2, (cells3 ((hx.block (b + 1) (by have := HSZ.out; omega)).trans HT.out)).1, (cells3 ((hx.block (b + 1) (by have := HSZ.out; omega)).trans HT.out)).2.1, (cells3 ((hx.block (b + 1) (by have := HSZ.out; omega)).trans HT.out)).2.2.1⟩)
  have hk : a.what % 9 = 0 ∨ a.what % 9 = 1 ∨ a.what % 9 = 2 ∨ a.what % 9 = 3 ∨ a.what % 9 = 4 ∨ a.what % 9 = 5 ∨ a.what % 9 = 6 ∨ a.what % 9 = 7 ∨ a.what % 9 = 8 := by omega
  have hw9 : a.what < 256 := ha.1
  clear ha ht
  rcases hk with hk | hk | hk | hk | hk | hk | hk | hk | hk
  · have HV := Lib.hid (show doT a t = t.put true (lvN a.high) (a.l.take 10) by unfold doT; rw [if_neg (by omega), if_neg (by omega), if_neg (by omega), if_neg (by omega), if_neg (by omega)])
    have t1 : ((a.what : Nat) : Int).tmod 9 = 0 := by rw [Int.tmod_eq_emod_of_nonneg (by omega)]; omega
    have t2 : ((a.what : Nat) : Int) % 9 = 0 := by omega
    clear hk hw9
    have HM := Lib.hid (fun w (hB : BIn w (.slice va n vc) t.L) v (h : IsIn w v (a.l.take 10)) => rset_any (.slice va n vc) t (lvN a.high) v (a.l.take 10) w hB HH.out.2.len h HL10.out)
    obtain ⟨z, hz⟩ : ∃ z, z = t.put true (lvN a.high) (a.l.take 10) := ⟨_, rfl⟩
    rw [← hz] at HV HM
    clear hz
    go_enter Try.func13, Try.ntmps13
    go_upto_region 1 with (fail)
    rw [← hb, ← e3]
    clear hb e3
    obtain ⟨_, a0, a1, a2, a3⟩ := HA.out
    obtain ⟨c0, c1, c2, _⟩ := cells3 HT.out
    go_upto_region 13 with (fail)
    clear a0 a1 a2 a3 c0 c1 c2
    refine region_but (S := (fun wx => (wx.cell? ⟨b, 0, none⟩ = some (.int .u8 (a.what : Nat)) ∧ wx.cell? ⟨b, 1, none⟩ = some (.bool a.high) ∧ wx.cell? ⟨b, 2, none⟩ = some u ∧ wx.cell? ⟨b, 3, none⟩ = some (.int .i16 a.cols)) ∧ wx.cell? ⟨b + 1, 0, none⟩ = some (.slice va n vc) ∧ wx.cell? ⟨b + 1, 1, none⟩ = some (.int .u8 (t.l : Nat)) ∧ wx.cell? ⟨b + 1, 2, none⟩ = some (.int .u8 (t.b : Nat)))) 6 (by kernel_rfl) (KEEP.out _ ((Below.refl _ _).drew)) (fun hHeld => ?_)
    obtain ⟨wz, hwz⟩ : ∃ X, X = w3.drew := ⟨_, rfl⟩
    have HX := Lib.hid (show Below w3.heap.size w3 wz by rw [hwz]; exact (Below.refl _ _).drew)
    replace hHeld := KEEP.out _ HX.out
    rw [← hwz]
    clear hwz
    refine ti 0 rfl (fun w hSw => by (try dsimp only at hSw); go_simp; try with_reducible rfl) ?_
    go_frame
    refine ti 1 rfl (fun w hSw => by (try dsimp only at hSw); go_simp; try with_reducible rfl) ?_
    go_frame
    refine ti 3 rfl (fun w hSw => by (try dsimp only at hSw); go_simp; try with_reducible rfl) ?_
    go_frame
    refine th 2 rfl (by kernel_rfl) (by decide) (by kernel_rfl) (fun K hK => ?_)
    go_simp
    refine (HBY.out _).mono ?_
    rintro e w5 ⟨rfl, bb⟩
    replace HX := Lib.hid (HX.out.trans (bb.mono HX.out.size))
    clear bb
    go_wp2_with fail
    refine hK.out _ _ (KEEP.out _ HX.out) (fun hHeld => ?_)
    clear hK K
    try go_frame
    refine th 4 rfl (by kernel_rfl) (by decide) (by kernel_rfl) (fun K hK => ?_)
    go_simp
    refine (HCO.out _ (HS.out.below HX.out)).mono ?_
    rintro e w6 ⟨v6, rfl, hI6, bb⟩
    have HI6 := Lib.hid hI6
    clear hI6
    replace HX := Lib.hid (HX.out.trans (bb.mono HX.out.size))
    clear bb
    go_wp2_with fail
    refine hK.out _ _ (KEEP.out _ HX.out) (fun hHeld => ?_)
    clear hK K
    try go_frame
    refine th 5 rfl (by kernel_rfl) (by decide) (by kernel_rfl) (fun K hK => ?_)
    go_simp
    refine (HM.out _ (HBI.out.below HX.out) _ HI6.out).mono ?_
    rintro e w7 ⟨v7, rfl, hI7, bb⟩
    have HIR := Lib.hid hI7
    clear hI7
    replace HX := Lib.hid (HX.out.trans (bb.mono HX.out.size))
    clear bb
    go_wp2_with fail
    refine hK.out _ _ (KEEP.out _ HX.out) (fun hHeld => ?_)
    clear hK K
    try go_frame
    obtain ⟨vb, vd, ev⟩ := HIR.out.shape
    subst ev
    have HRZ := Lib.hid ((HX.out.block (b + 1 + 1) HSZ.out).trans HZ.out)
    have HBW := Lib.hid (HB3.out.trans (HX.out.mono HB3.out.size))
    obtain ⟨g0, g1, g2, f0, f1, f2⟩ := cells3 HRZ.out
    obtain ⟨wf, hwf⟩ : ∃ x, x = ((w7.setCell ⟨b + 1 + 1, 0, none⟩ (.slice vb z.L.length vd)).setCell ⟨b + 1 + 1, 1, none⟩ (.int .u8 (z.l : Nat))).setCell ⟨b + 1 + 1, 2, none⟩ (.int .u8 (z.b : Nat)) := ⟨_, rfl⟩
    have HF := Lib.hid (fin4 HRZ.out HIR.out HBW.out (by have := HBE.out; omega) hwf)
    refine tx rfl (by kernel_rfl) (by kernel_rfl) (by kernel_rfl) (fun K hK => ?_)
    go_simp
    refine hK.out _ _ ?_
    clear hK K hHeld KEEP
    try go_frame
    go_wp2
    rw [← hwf]
    clear hwf g0 g1 g2 f0 f1 f2
    obtain ⟨k0, k1, k2, _⟩ := cells3 HF.out.1
    exact bodyPost_ret (v := rV (.slice vb z.L.length vd) z) (by simp [results, Try.results13, go_sem, k0, k1, k2]) rfl ⟨_, by rw [HV.out], by rw [HV.out]; exact HF.out.2.2, HF.out.2.1⟩
  · have HV := Lib.hid (show doT a t = t.put true (lvN a.high) (a.l.take 10) by unfold doT; rw [if_neg (by omega), if_neg (by omega), if_neg (by omega), if_neg (by omega), if_neg (by omega)])
    have t1 : ((a.what : Nat) : Int).tmod 9 = 1 := by rw [Int.tmod_eq_emod_of_nonneg (by omega)]; omega
    have t2 : ((a.what : Nat) : Int) % 9 = 1 := by omega
    clear hk hw9
    have HM := Lib.hid (fun w (hB : BIn w (.slice va n vc) t.L) v (h : IsIn w v (a.l.take 10)) => rset_any (.slice va n vc) t (lvN a.high) v (a.l.take 10) w hB HH.out.2.len h HL10.out)
    obtain ⟨z, hz⟩ : ∃ z, z = t.put true (lvN a.high) (a.l.take 10) := ⟨_, rfl⟩
    rw [← hz] at HV HM
    clear hz
    go_enter Try.func13, Try.ntmps13
    go_upto_region 1 with (fail)
    rw [← hb, ← e3]
    clear hb e3
    obtain ⟨_, a0, a1, a2, a3⟩ := HA.out
    obtain ⟨c0, c1, c2, _⟩ := cells3 HT.out
    go_upto_region 13 with (fail)
    clear a0 a1 a2 a3 c0 c1 c2
    refine region_but (S := (fun wx => (wx.cell? ⟨b, 0, none⟩ = some (.int .u8 (a.what : Nat)) ∧ wx.cell? ⟨b, 1, none⟩ = some (.bool a.high) ∧ wx.cell? ⟨b, 2, none⟩ = some u ∧ wx.cell? ⟨b, 3, none⟩ = some (.int .i16 a.cols)) ∧ wx.cell? ⟨b + 1, 0, none⟩ = some (.slice va n vc) ∧ wx.cell? ⟨b + 1, 1, none⟩ = some (.int .u8 (t.l : Nat)) ∧ wx.cell? ⟨b + 1, 2, none⟩ = some (.int .u8 (t.b : Nat)))) 6 (by kernel_rfl) (KEEP.out _ ((Below.refl _ _).drew)) (fun hHeld => ?_)
    obtain ⟨wz, hwz⟩ : ∃ X, X = w3.drew := ⟨_, rfl⟩
    have HX := Lib.hid (show Below w3.heap.size w3 wz by rw [hwz]; exact (Below.refl _ _).drew)
    replace hHeld := KEEP.out _ HX.out
    rw [← hwz]
    clear hwz
    refine ti 0 rfl (fun w hSw => by (try dsimp only at hSw); go_simp; try with_reducible rfl) ?_
    go_frame
    refine ti 1 rfl (fun w hSw => by (try dsimp only at hSw); go_simp; try with_reducible rfl) ?_
    go_frame
    refine ti 3 rfl (fun w hSw => by (try dsimp only at hSw); go_simp; try with_reducible rfl) ?_
    go_frame
    refine th 2 rfl (by kernel_rfl) (by decide) (by kernel_rfl) (fun K hK => ?_)
    go_simp
    refine (HBY.out _).mono ?_
    rintro e w5 ⟨rfl, bb⟩
    replace HX := Lib.hid (HX.out.trans (bb.mono HX.out.size))
    clear bb
    go_wp2_with fail
    refine hK.out _ _ (KEEP.out _ HX.out) (fun hHeld => ?_)
    clear hK K
    try go_frame
    refine th 4 rfl (by kernel_rfl) (by decide) (by kernel_rfl) (fun K hK => ?_)
    go_simp
    refine (HCO.out _ (HS.out.below HX.out)).mono ?_
    rintro e w6 ⟨v6, rfl, hI6, bb⟩
    have HI6 := Lib.hid hI6
    clear hI6
    replace HX := Lib.hid (HX.out.trans (bb.mono HX.out.size))
    clear bb
    go_wp2_with fail
    refine hK.out _ _ (KEEP.out _ HX.out) (fun hHeld => ?_)
    clear hK K
    try go_frame
    refine th 5 rfl (by kernel_rfl) (by decide) (by kernel_rfl) (fun K hK => ?_)
    go_simp
    refine (HM.out _ (HBI.out.below HX.out) _ HI6.out).mono ?_
    rintro e w7 ⟨v7, rfl, hI7, bb⟩
    have HIR := Lib.hid hI7
    clear hI7
    replace HX := Lib.hid (HX.out.trans (bb.mono HX.out.size))
    clear bb
    go_wp2_with fail
    refine hK.out _ _ (KEEP.out _ HX.out) (fun hHeld => ?_)
    clear hK K
    try go_frame
    obtain ⟨vb, vd, ev⟩ := HIR.out.shape
    subst ev
    have HRZ := Lib.hid ((HX.out.block (b + 1 + 1) HSZ.out).trans HZ.out)
    have HBW := Lib.hid (HB3.out.trans (HX.out.mono HB3.out.size))
    obtain ⟨g0, g1, g2, f0, f1, f2⟩ := cells3 HRZ.out
    obtain ⟨wf, hwf⟩ : ∃ x, x = ((w7.setCell ⟨b + 1 + 1, 0, none⟩ (.slice vb z.L.length vd)).setCell ⟨b + 1 + 1, 1, none⟩ (.int .u8 (z.l : Nat))).setCell ⟨b + 1 + 1, 2, none⟩ (.int .u8 (z.b : Nat)) := ⟨_, rfl⟩
    have HF := Lib.hid (fin4 HRZ.out HIR.out HBW.out (by have := HBE.out; omega) hwf)
    refine tx rfl (by kernel_rfl) (by kernel_rfl) (by kernel_rfl) (fun K hK => ?_)
    go_simp
    refine hK.out _ _ ?_
    clear hK K hHeld KEEP
    try go_frame
    go_wp2
    rw [← hwf]
    clear hwf g0 g1 g2 f0 f1 f2
    obtain ⟨k0, k1, k2, _⟩ := cells3 HF.out.1
    exact bodyPost_ret (v := rV (.slice vb z.L.length vd) z) (by simp [results, Try.results13, go_sem, k0, k1, k2]) rfl ⟨_, by rw [HV.out], by rw [HV.out]; exact HF.out.2.2, HF.out.2.1⟩
  · have HV := Lib.hid (show doT a t = t.put true (lvN a.high) (a.l.take 10) by unfold doT; rw [if_neg (by omega), if_neg (by omega), if_neg (by omega), if_neg (by omega), if_neg (by omega)])
    have t1 : ((a.what : Nat) : Int).tmod 9 = 2 := by rw [Int.tmod_eq_emod_of_nonneg (by omega)]; omega
    have t2 : ((a.what : Nat) : Int) % 9 = 2 := by omega
    clear hk hw9
    have HM := Lib.hid (fun w (hB : BIn w (.slice va n vc) t.L) v (h : IsIn w v (a.l.take 10)) => rset_any (.slice va n vc) t (lvN a.high) v (a.l.take 10) w hB HH.out.2.len h HL10.out)
    obtain ⟨z, hz⟩ : ∃ z, z = t.put true (lvN a.high) (a.l.take 10) := ⟨_, rfl⟩
    rw [← hz] at HV HM
    clear hz
    go_enter Try.func13, Try.ntmps13
    go_upto_region 1 with (fail)
    rw [← hb, ← e3]
    clear hb e3
    obtain ⟨_, a0, a1, a2, a3⟩ := HA.out
    obtain ⟨c0, c1, c2, _⟩ := cells3 HT.out
    go_upto_region 13 with (fail)
    clear a0 a1 a2 a3 c0 c1 c2
    refine region_but (S := (fun wx => (wx.cell? ⟨b, 0, none⟩ = some (.int .u8 (a.what : Nat)) ∧ wx.cell? ⟨b, 1, none⟩ = some (.bool a.high) ∧ wx.cell? ⟨b, 2, none⟩ = some u ∧ wx.cell? ⟨b, 3, none⟩ = some (.int .i16 a.cols)) ∧ wx.cell? ⟨b + 1, 0, none⟩ = some (.slice va n vc) ∧ wx.cell? ⟨b + 1, 1, none⟩ = some (.int .u8 (t.l : Nat)) ∧ wx.cell? ⟨b + 1, 2, none⟩ = some (.int .u8 (t.b : Nat)))) 6 (by kernel_rfl) (KEEP.out _ ((Below.refl _ _).drew)) (fun hHeld => ?_)
    obtain ⟨wz, hwz⟩ : ∃ X, X = w3.drew := ⟨_, rfl⟩
    have HX := Lib.hid (show Below w3.heap.size w3 wz by rw [hwz]; exact (Below.refl _ _).drew)
    replace hHeld := KEEP.out _ HX.out
    rw [← hwz]
    clear hwz
    refine ti 0 rfl (fun w hSw => by (try dsimp only at hSw); go_simp; try with_reducible rfl) ?_
    go_frame
    refine ti 1 rfl (fun w hSw => by (try dsimp only at hSw); go_simp; try with_reducible rfl) ?_
    go_frame
    refine ti 3 rfl (fun w hSw => by (try dsimp only at hSw); go_simp; try with_reducible rfl) ?_
    go_frame
    refine th 2 rfl (by kernel_rfl) (by decide) (by kernel_rfl) (fun K hK => ?_)
    go_simp
    refine (HBY.out _).mono ?_
    rintro e w5 ⟨rfl, bb⟩
    replace HX := Lib.hid (HX.out.trans (bb.mono HX.out.size))
    clear bb
    go_wp2_with fail
    refine hK.out _ _ (KEEP.out _ HX.out) (fun hHeld => ?_)
    clear hK K
    try go_frame
    refine th 4 rfl (by kernel_rfl) (by decide) (by kernel_rfl) (fun K hK => ?_)
    go_simp
    refine (HCO.out _ (HS.out.below HX.out)).mono ?_
    rintro e w6 ⟨v6, rfl, hI6, bb⟩
    have HI6 := Lib.hid hI6
    clear hI6
    replace HX := Lib.hid (HX.out.trans (bb.mono HX.out.size))
    clear bb
    go_wp2_with fail
    refine hK.out _ _ (KEEP.out _ HX.out) (fun hHeld => ?_)
    clear hK K
    try go_frame
    refine th 5 rfl (by kernel_rfl) (by decide) (by kernel_rfl) (fun K hK => ?_)
    go_simp
    refine (HM.out _ (HBI.out.below HX.out) _ HI6.out).mono ?_
    rintro e w7 ⟨v7, rfl, hI7, bb⟩
    have HIR := Lib.hid hI7
    clear hI7
    replace HX := Lib.hid (HX.out.trans (bb.mono HX.out.size))
    clear bb
    go_wp2_with fail
    refine hK.out _ _ (KEEP.out _ HX.out) (fun hHeld => ?_)
    clear hK K
    try go_frame
    obtain ⟨vb, vd, ev⟩ := HIR.out.shape
    subst ev
    have HRZ := Lib.hid ((HX.out.block (b + 1 + 1) HSZ.out).trans HZ.out)
    have HBW := Lib.hid (HB3.out.trans (HX.out.mono HB3.out.size))
    obtain ⟨g0, g1, g2, f0, f1, f2⟩ := cells3 HRZ.out
    obtain ⟨wf, hwf⟩ : ∃ x, x = ((w7.setCell ⟨b + 1 + 1, 0, none⟩ (.slice vb z.L.length vd)).setCell ⟨b + 1 + 1, 1, none⟩ (.int .u8 (z.l : Nat))).setCell ⟨b + 1 + 1, 2, none⟩ (.int .u8 (z.b : Nat)) := ⟨_, rfl⟩
    have HF := Lib.hid (fin4 HRZ.out HIR.out HBW.out (by have := HBE.out; omega) hwf)
    refine tx rfl (by kernel_rfl) (by kernel_rfl) (by kernel_rfl) (fun K hK => ?_)
    go_simp
    refine hK.out _ _ ?_
    clear hK K hHeld KEEP
    try go_frame
    go_wp2
    rw [← hwf]
    clear hwf g0 g1 g2 f0 f1 f2
    obtain ⟨k0, k1, k2, _⟩ := cells3 HF.out.1
    exact bodyPost_ret (v := rV (.slice vb z.L.length vd) z) (by simp [results, Try.results13, go_sem, k0, k1, k2]) rfl ⟨_, by rw [HV.out], by rw [HV.out]; exact HF.out.2.2, HF.out.2.1⟩
  · have HV := Lib.hid (show doT a t = t.put false (lvN a.high) (a.l.take 10) by unfold doT; rw [if_pos (by omega)])
    have t1 : ((a.what : Nat) : Int).tmod 9 = 3 := by rw [Int.tmod_eq_emod_of_nonneg (by omega)]; omega
    have t2 : ((a.what : Nat) : Int) % 9 = 3 := by omega
    clear hk hw9
    have HM := Lib.hid (fun w (hB : BIn w (.slice va n vc) t.L) v (h : IsIn w v (a.l.take 10)) => rclear_any (.slice va n vc) t (lvN a.high) v (a.l.take 10) w hB HH.out.2.len h HL10.out)
    obtain ⟨z, hz⟩ : ∃ z, z = t.put false (lvN a.high) (a.l.take 10) := ⟨_, rfl⟩
    rw [← hz] at HV HM
    clear hz
    go_enter Try.func13, Try.ntmps13
    go_upto_region 1 with (fail)
    rw [← hb, ← e3]
    clear hb e3
    obtain ⟨_, a0, a1, a2, a3⟩ := HA.out
    obtain ⟨c0, c1, c2, _⟩ := cells3 HT.out
    go_upto_region 4 with (fail)
    clear a0 a1 a2 a3 c0 c1 c2
    refine region_but (S := (fun wx => (wx.cell? ⟨b, 0, none⟩ = some (.int .u8 (a.what : Nat)) ∧ wx.cell? ⟨b, 1, none⟩ = some (.bool a.high) ∧ wx.cell? ⟨b, 2, none⟩ = some u ∧ wx.cell? ⟨b, 3, none⟩ = some (.int .i16 a.cols)) ∧ wx.cell? ⟨b + 1, 0, none⟩ = some (.slice va n vc) ∧ wx.cell? ⟨b + 1, 1, none⟩ = some (.int .u8 (t.l : Nat)) ∧ wx.cell? ⟨b + 1, 2, none⟩ = some (.int .u8 (t.b : Nat)))) 6 (by kernel_rfl) (KEEP.out _ ((Below.refl _ _).drew)) (fun hHeld => ?_)
    obtain ⟨wz, hwz⟩ : ∃ X, X = w3.drew := ⟨_, rfl⟩
    have HX := Lib.hid (show Below w3.heap.size w3 wz by rw [hwz]; exact (Below.refl _ _).drew)
    replace hHeld := KEEP.out _ HX.out
    rw [← hwz]
    clear hwz
    refine ti 0 rfl (fun w hSw => by (try dsimp only at hSw); go_simp; try with_reducible rfl) ?_
    go_frame
    refine ti 1 rfl (fun w hSw => by (try dsimp only at hSw); go_simp; try with_reducible rfl) ?_
    go_frame
    refine ti 3 rfl (fun w hSw => by (try dsimp only at hSw); go_simp; try with_reducible rfl) ?_
    go_frame
    refine th 2 rfl (by kernel_rfl) (by decide) (by kernel_rfl) (fun K hK => ?_)
    go_simp
    refine (HBY.out _).mono ?_
    rintro e w5 ⟨rfl, bb⟩
    replace HX := Lib.hid (HX.out.trans (bb.mono HX.out.size))
    clear bb
    go_wp2_with fail
    refine hK.out _ _ (KEEP.out _ HX.out) (fun hHeld => ?_)
    clear hK K
    try go_frame
    refine th 4 rfl (by kernel_rfl) (by decide) (by kernel_rfl) (fun K hK => ?_)
    go_simp
    refine (HCO.out _ (HS.out.below HX.out)).mono ?_
    rintro e w6 ⟨v6, rfl, hI6, bb⟩
    have HI6 := Lib.hid hI6
    clear hI6
    replace HX := Lib.hid (HX.out.trans (bb.mono HX.out.size))
    clear bb
    go_wp2_with fail
    refine hK.out _ _ (KEEP.out _ HX.out) (fun hHeld => ?_)
    clear hK K
    try go_frame
    refine th 5 rfl (by kernel_rfl) (by decide) (by kernel_rfl) (fun K hK => ?_)
    go_simp
    refine (HM.out _ (HBI.out.below HX.out) _ HI6.out).mono ?_
    rintro e w7 ⟨v7, rfl, hI7, bb⟩
    have HIR := Lib.hid hI7
    clear hI7
    replace HX := Lib.hid (HX.out.trans (bb.mono HX.out.size))
    clear bb
    go_wp2_with fail
    refine hK.out _ _ (KEEP.out _ HX.out) (fun hHeld => ?_)
    clear hK K
    try go_frame
    obtain ⟨vb, vd, ev⟩ := HIR.out.shape
    subst ev
    have HRZ := Lib.hid ((HX.out.block (b + 1 + 1) HSZ.out).trans HZ.out)
    have HBW := Lib.hid (HB3.out.trans (HX.out.mono HB3.out.size))
    obtain ⟨g0, g1, g2, f0, f1, f2⟩ := cells3 HRZ.out
    obtain ⟨wf, hwf⟩ : ∃ x, x = ((w7.setCell ⟨b + 1 + 1, 0, none⟩ (.slice vb z.L.length vd)).setCell ⟨b + 1 + 1, 1, none⟩ (.int .u8 (z.l : Nat))).setCell ⟨b + 1 + 1, 2, none⟩ (.int .u8 (z.b : Nat)) := ⟨_, rfl⟩
    have HF := Lib.hid (fin4 HRZ.out HIR.out HBW.out (by have := HBE.out; omega) hwf)
    refine tx rfl (by kernel_rfl) (by kernel_rfl) (by kernel_rfl) (fun K hK => ?_)
    go_simp
    refine hK.out _ _ ?_
    clear hK K hHeld KEEP
    try go_frame
    go_wp2
    rw [← hwf]
    clear hwf g0 g1 g2 f0 f1 f2
    obtain ⟨k0, k1, k2, _⟩ := cells3 HF.out.1
    exact bodyPost_ret (v := rV (.slice vb z.L.length vd) z) (by simp [results, Try.results13, go_sem, k0, k1, k2]) rfl ⟨_, by rw [HV.out], by rw [HV.out]; exact HF.out.2.2, HF.out.2.1⟩
  · have HV := Lib.hid (show doT a t = t.put false (lvN a.high) (a.l.take 10) by unfold doT; rw [if_pos (by omega)])
    have t1 : ((a.what : Nat) : Int).tmod 9 = 4 := by rw [Int.tmod_eq_emod_of_nonneg (by omega)]; omega
    have t2 : ((a.what : Nat) : Int) % 9 = 4 := by omega
    clear hk hw9
    have HM := Lib.hid (fun w (hB : BIn w (.slice va n vc) t.L) v (h : IsIn w v (a.l.take 10)) => rclear_any (.slice va n vc) t (lvN a.high) v (a.l.take 10) w hB HH.out.2.len h HL10.out)
    obtain ⟨z, hz⟩ : ∃ z, z = t.put false (lvN a.high) (a.l.take 10) := ⟨_, rfl⟩
    rw [← hz] at HV HM
    clear hz
    go_enter Try.func13, Try.ntmps13
    go_upto_region 1 with (fail)
    rw [← hb, ← e3]
    clear hb e3
    obtain ⟨_, a0, a1, a2, a3⟩ := HA.out
    obtain ⟨c0, c1, c2, _⟩ := cells3 HT.out
    go_upto_region 4 with (fail)
    clear a0 a1 a2 a3 c0 c1 c2
    refine region_but (S := (fun wx => (wx.cell? ⟨b, 0, none⟩ = some (.int .u8 (a.what : Nat)) ∧ wx.cell? ⟨b, 1, none⟩ = some (.bool a.high) ∧ wx.cell? ⟨b, 2, none⟩ = some u ∧ wx.cell? ⟨b, 3, none⟩ = some (.int .i16 a.cols)) ∧ wx.cell? ⟨b + 1, 0, none⟩ = some (.slice va n vc) ∧ wx.cell? ⟨b + 1, 1, none⟩ = some (.int .u8 (t.l : Nat)) ∧ wx.cell? ⟨b + 1, 2, none⟩ = some (.int .u8 (t.b : Nat)))) 6 (by kernel_rfl) (KEEP.out _ ((Below.refl _ _).drew)) (fun hHeld => ?_)
    obtain ⟨wz, hwz⟩ : ∃ X, X = w3.drew := ⟨_, rfl⟩
    have HX := Lib.hid (show Below w3.heap.size w3 wz by rw [hwz]; exact (Below.refl _ _).drew)
    replace hHeld := KEEP.out _ HX.out
    rw [← hwz]
    clear hwz
    refine ti 0 rfl (fun w hSw => by (try dsimp only at hSw); go_simp; try with_reducible rfl) ?_
    go_frame
    refine ti 1 rfl (fun w hSw => by (try dsimp only at hSw); go_simp; try with_reducible rfl) ?_
    go_frame
    refine ti 3 rfl (fun w hSw => by (try dsimp only at hSw); go_simp; try with_reducible rfl) ?_
    go_frame
    refine th 2 rfl (by kernel_rfl) (by decide) (by kernel_rfl) (fun K hK => ?_)
    go_simp
    refine (HBY.out _).mono ?_
    rintro e w5 ⟨rfl, bb⟩
    replace HX := Lib.hid (HX.out.trans (bb.mono HX.out.size))
    clear bb
    go_wp2_with fail
    refine hK.out _ _ (KEEP.out _ HX.out) (fun hHeld => ?_)
    clear hK K
    try go_frame
    refine th 4 rfl (by kernel_rfl) (by decide) (by kernel_rfl) (fun K hK => ?_)
    go_simp
    refine (HCO.out _ (HS.out.below HX.out)).mono ?_
    rintro e w6 ⟨v6, rfl, hI6, bb⟩
    have HI6 := Lib.hid hI6
    clear hI6
    replace HX := Lib.hid (HX.out.trans (bb.mono HX.out.size))
    clear bb
    go_wp2_with fail
    refine hK.out _ _ (KEEP.out _ HX.out) (fun hHeld => ?_)
    clear hK K
    try go_frame
    refine th 5 rfl (by kernel_rfl) (by decide) (by kernel_rfl) (fun K hK => ?_)
    go_simp
    refine (HM.out _ (HBI.out.below HX.out) _ HI6.out).mono ?_
    rintro e w7 ⟨v7, rfl, hI7, bb⟩
    have HIR := Lib.hid hI7
    clear hI7
    replace HX := Lib.hid (HX.out.trans (bb.mono HX.out.size))
    clear bb
    go_wp2_with fail
    refine hK.out _ _ (KEEP.out _ HX.out) (fun hHeld => ?_)
    clear hK K
    try go_frame
    obtain ⟨vb, vd, ev⟩ := HIR.out.shape
    subst ev
    have HRZ := Lib.hid ((HX.out.block (b + 1 + 1) HSZ.out).trans HZ.out)
    have HBW := Lib.hid (HB3.out.trans (HX.out.mono HB3.out.size))
    obtain ⟨g0, g1, g2, f0, f1, f2⟩ := cells3 HRZ.out
    obtain ⟨wf, hwf⟩ : ∃ x, x = ((w7.setCell ⟨b + 1 + 1, 0, none⟩ (.slice vb z.L.length vd)).setCell ⟨b + 1 + 1, 1, none⟩ (.int .u8 (z.l : Nat))).setCell ⟨b + 1 + 1, 2, none⟩ (.int .u8 (z.b : Nat)) := ⟨_, rfl⟩
    have HF := Lib.hid (fin4 HRZ.out HIR.out HBW.out (by have := HBE.out; omega) hwf)
    refine tx rfl (by kernel_rfl) (by kernel_rfl) (by kernel_rfl) (fun K hK => ?_)
    go_simp
    refine hK.out _ _ ?_
    clear hK K hHeld KEEP
    try go_frame
    go_wp2
    rw [← hwf]
    clear hwf g0 g1 g2 f0 f1 f2
    obtain ⟨k0, k1, k2, _⟩ := cells3 HF.out.1
    exact bodyPost_ret (v := rV (.slice vb z.L.length vd) z) (by simp [results, Try.results13, go_sem, k0, k1, k2]) rfl ⟨_, by rw [HV.out], by rw [HV.out]; exact HF.out.2.2, HF.out.2.1⟩
  · have HV := Lib.hid (show doT a t = t.none by unfold doT; rw [if_neg (by omega), if_pos (by omega)])
    have t1 : ((a.what : Nat) : Int).tmod 9 = 5 := by rw [Int.tmod_eq_emod_of_nonneg (by omega)]; omega
    have t2 : ((a.what : Nat) : Int) % 9 = 5 := by omega
    clear hk hw9
    have HM := Lib.hid (fun w (hB : BIn w (.slice va n vc) t.L) => rnone_any _ t w hB HH.out.2.len)
    obtain ⟨z, hz⟩ : ∃ z, z = t.none := ⟨_, rfl⟩
    rw [← hz] at HV HM
    clear hz
    go_enter Try.func13, Try.ntmps13
    go_upto_region 1 with (fail)
    rw [← hb, ← e3]
    clear hb e3
    obtain ⟨_, a0, a1, a2, a3⟩ := HA.out
    obtain ⟨c0, c1, c2, _⟩ := cells3 HT.out
    go_wp2_with fail
    refine (HM.out _ HBI.out).mono ?_
    rintro e w7 ⟨v7, rfl, hI7, b5⟩
    have HX := Lib.hid b5
    have HIR := Lib.hid hI7
    clear b5 hI7 a0 a1 a2 a3 c0 c1 c2
    obtain ⟨vb, vd, ev⟩ := HIR.out.shape
    subst ev
    have HRZ := Lib.hid ((HX.out.block (b + 1 + 1) HSZ.out).trans HZ.out)
    have HBW := Lib.hid (HB3.out.trans (HX.out.mono HB3.out.size))
    obtain ⟨g0, g1, g2, f0, f1, f2⟩ := cells3 HRZ.out
    obtain ⟨wf, hwf⟩ : ∃ x, x = ((w7.setCell ⟨b + 1 + 1, 0, none⟩ (.slice vb z.L.length vd)).setCell ⟨b + 1 + 1, 1, none⟩ (.int .u8 (z.l : Nat))).setCell ⟨b + 1 + 1, 2, none⟩ (.int .u8 (z.b : Nat)) := ⟨_, rfl⟩
    have HF := Lib.hid (fin4 HRZ.out HIR.out HBW.out (by have := HBE.out; omega) hwf)
    go_wp2
    rw [← hwf]
    clear hwf g0 g1 g2 f0 f1 f2
    obtain ⟨k0, k1, k2, _⟩ := cells3 HF.out.1
    exact bodyPost_ret (v := rV (.slice vb z.L.length vd) z) (by simp [results, Try.results13, go_sem, k0, k1, k2]) rfl ⟨_, by rw [HV.out], by rw [HV.out]; exact HF.out.2.2, HF.out.2.1⟩
  · have HV := Lib.hid (show doT a t = t.raise (lvN a.high) by unfold doT; rw [if_neg (by omega), if_neg (by omega), if_pos (by omega)])
    have t1 : ((a.what : Nat) : Int).tmod 9 = 6 := by rw [Int.tmod_eq_emod_of_nonneg (by omega)]; omega
    have t2 : ((a.what : Nat) : Int) % 9 = 6 := by omega
    clear hk hw9
    have HM := Lib.hid (fun w (hB : BIn w (.slice va n vc) t.L) => rraise_any _ t (lvN a.high) w hB)
    obtain ⟨z, hz⟩ : ∃ z, z = t.raise (lvN a.high) := ⟨_, rfl⟩
    rw [← hz] at HV HM
    clear hz
    go_enter Try.func13, Try.ntmps13
    go_upto_region 1 with (fail)
    rw [← hb, ← e3]
    clear hb e3
    obtain ⟨_, a0, a1, a2, a3⟩ := HA.out
    obtain ⟨c0, c1, c2, _⟩ := cells3 HT.out
    go_upto_region 8 with (fail)
    clear a0 a1 a2 a3 c0 c1 c2
    refine region_but (S := (fun wx => (wx.cell? ⟨b, 0, none⟩ = some (.int .u8 (a.what : Nat)) ∧ wx.cell? ⟨b, 1, none⟩ = some (.bool a.high) ∧ wx.cell? ⟨b, 2, none⟩ = some u ∧ wx.cell? ⟨b, 3, none⟩ = some (.int .i16 a.cols)) ∧ wx.cell? ⟨b + 1, 0, none⟩ = some (.slice va n vc) ∧ wx.cell? ⟨b + 1, 1, none⟩ = some (.int .u8 (t.l : Nat)) ∧ wx.cell? ⟨b + 1, 2, none⟩ = some (.int .u8 (t.b : Nat)))) 4 (by kernel_rfl) (KEEP.out _ ((Below.refl _ _).drew)) (fun hHeld => ?_)
    obtain ⟨wz, hwz⟩ : ∃ X, X = w3.drew := ⟨_, rfl⟩
    have HX := Lib.hid (show Below w3.heap.size w3 wz by rw [hwz]; exact (Below.refl _ _).drew)
    replace hHeld := KEEP.out _ HX.out
    rw [← hwz]
    clear hwz
    refine ti 0 rfl (fun w hSw => by (try dsimp only at hSw); go_simp; try with_reducible rfl) ?_
    go_frame
    refine ti 1 rfl (fun w hSw => by (try dsimp only at hSw); go_simp; try with_reducible rfl) ?_
    go_frame
    refine th 2 rfl (by kernel_rfl) (by decide) (by kernel_rfl) (fun K hK => ?_)
    go_simp
    refine (HBY.out _).mono ?_
    rintro e w5 ⟨rfl, bb⟩
    replace HX := Lib.hid (HX.out.trans (bb.mono HX.out.size))
    clear bb
    go_wp2_with fail
    refine hK.out _ _ (KEEP.out _ HX.out) (fun hHeld => ?_)
    clear hK K
    try go_frame
    refine th 3 rfl (by kernel_rfl) (by decide) (by kernel_rfl) (fun K hK => ?_)
    go_simp
    refine (HM.out _ (HBI.out.below HX.out)).mono ?_
    rintro e w7 ⟨v7, rfl, hI7, bb⟩
    have HIR := Lib.hid hI7
    clear hI7
    replace HX := Lib.hid (HX.out.trans (bb.mono HX.out.size))
    clear bb
    go_wp2_with fail
    refine hK.out _ _ (KEEP.out _ HX.out) (fun hHeld => ?_)
    clear hK K
    try go_frame
    obtain ⟨vb, vd, ev⟩ := HIR.out.shape
    subst ev
    have HRZ := Lib.hid ((HX.out.block (b + 1 + 1) HSZ.out).trans HZ.out)
    have HBW := Lib.hid (HB3.out.trans (HX.out.mono HB3.out.size))
    obtain ⟨g0, g1, g2, f0, f1, f2⟩ := cells3 HRZ.out
    obtain ⟨wf, hwf⟩ : ∃ x, x = ((w7.setCell ⟨b + 1 + 1, 0, none⟩ (.slice vb z.L.length vd)).setCell ⟨b + 1 + 1, 1, none⟩ (.int .u8 (z.l : Nat))).setCell ⟨b + 1 + 1, 2, none⟩ (.int .u8 (z.b : Nat)) := ⟨_, rfl⟩
    have HF := Lib.hid (fin4 HRZ.out HIR.out HBW.out (by have := HBE.out; omega) hwf)
    refine tx rfl (by kernel_rfl) (by kernel_rfl) (by kernel_rfl) (fun K hK => ?_)
    go_simp
    refine hK.out _ _ ?_
    clear hK K hHeld KEEP
    try go_frame
    go_wp2
    rw [← hwf]
    clear hwf g0 g1 g2 f0 f1 f2
    obtain ⟨k0, k1, k2, _⟩ := cells3 HF.out.1
    exact bodyPost_ret (v := rV (.slice vb z.L.length vd) z) (by simp [results, Try.results13, go_sem, k0, k1, k2]) rfl ⟨_, by rw [HV.out], by rw [HV.out]; exact HF.out.2.2, HF.out.2.1⟩
  · have HV := Lib.hid (show doT a t = t.decl by unfold doT; rw [if_neg (by omega), if_neg (by omega), if_neg (by omega), if_pos (by omega)])
    have t1 : ((a.what : Nat) : Int).tmod 9 = 7 := by rw [Int.tmod_eq_emod_of_nonneg (by omega)]; omega
    have t2 : ((a.what : Nat) : Int) % 9 = 7 := by omega
    clear hk hw9
    have HM := Lib.hid (fun w (hB : BIn w (.slice va n vc) t.L) => rdecl_any _ t w hB)
    obtain ⟨z, hz⟩ : ∃ z, z = t.decl := ⟨_, rfl⟩
    rw [← hz] at HV HM
    clear hz
    go_enter Try.func13, Try.ntmps13
    go_upto_region 1 with (fail)
    rw [← hb, ← e3]
    clear hb e3
    obtain ⟨_, a0, a1, a2, a3⟩ := HA.out
    obtain ⟨c0, c1, c2, _⟩ := cells3 HT.out
    go_wp2_with fail
    refine (HM.out _ HBI.out).mono ?_
    rintro e w7 ⟨v7, rfl, hI7, b5⟩
    have HX := Lib.hid b5
    have HIR := Lib.hid hI7
    clear b5 hI7 a0 a1 a2 a3 c0 c1 c2
    obtain ⟨vb, vd, ev⟩ := HIR.out.shape
    subst ev
    have HRZ := Lib.hid ((HX.out.block (b + 1 + 1) HSZ.out).trans HZ.out)
    have HBW := Lib.hid (HB3.out.trans (HX.out.mono HB3.out.size))
    obtain ⟨g0, g1, g2, f0, f1, f2⟩ := cells3 HRZ.out
    obtain ⟨wf, hwf⟩ : ∃ x, x = ((w7.setCell ⟨b + 1 + 1, 0, none⟩ (.slice vb z.L.length vd)).setCell ⟨b + 1 + 1, 1, none⟩ (.int .u8 (z.l : Nat))).setCell ⟨b + 1 + 1, 2, none⟩ (.int .u8 (z.b : Nat)) := ⟨_, rfl⟩
    have HF := Lib.hid (fin4 HRZ.out HIR.out HBW.out (by have := HBE.out; omega) hwf)
    go_wp2
    rw [← hwf]
    clear hwf g0 g1 g2 f0 f1 f2
    obtain ⟨k0, k1, k2, _⟩ := cells3 HF.out.1
    exact bodyPost_ret (v := rV (.slice vb z.L.length vd) z) (by simp [results, Try.results13, go_sem, k0, k1, k2]) rfl ⟨_, by rw [HV.out], by rw [HV.out]; exact HF.out.2.2, HF.out.2.1⟩
  · have HV := Lib.hid (show doT a t = t.res a.cols by unfold doT; rw [if_neg (by omega), if_neg (by omega), if_neg (by omega), if_neg (by omega), if_pos (by omega)])
    have t1 : ((a.what : Nat) : Int).tmod 9 = 8 := by rw [Int.tmod_eq_emod_of_nonneg (by omega)]; omega
    have t2 : ((a.what : Nat) : Int) % 9 = 8 := by omega
    clear hk hw9
    have HM := Lib.hid (fun w (hB : BIn w (.slice va n vc) t.L) => rres_any _ t a.cols w hB HH.out.2.len)
    have u1 : IntKind.i64.wrap a.cols = a.cols := by rw [IntKind.wrap_i64]; have := HH.out.1.2; omega
    obtain ⟨z, hz⟩ : ∃ z, z = t.res a.cols := ⟨_, rfl⟩
    rw [← hz] at HV HM
    clear hz
    go_enter Try.func13, Try.ntmps13
    go_upto_region 1 with (fail)
    rw [← hb, ← e3]
    clear hb e3
    obtain ⟨_, a0, a1, a2, a3⟩ := HA.out
    obtain ⟨c0, c1, c2, _⟩ := cells3 HT.out
    go_wp2_with fail
    refine (HM.out _ HBI.out).mono ?_
    rintro e w7 ⟨v7, rfl, hI7, b5⟩
    have HX := Lib.hid b5
    have HIR := Lib.hid hI7
    clear b5 hI7 a0 a1 a2 a3 c0 c1 c2
    obtain ⟨vb, vd, ev⟩ := HIR.out.shape
    subst ev
    have HRZ := Lib.hid ((HX.out.block (b + 1 + 1) HSZ.out).trans HZ.out)
    have HBW := Lib.hid (HB3.out.trans (HX.out.mono HB3.out.size))
    obtain ⟨g0, g1, g2, f0, f1, f2⟩ := cells3 HRZ.out
    obtain ⟨wf, hwf⟩ : ∃ x, x = ((w7.setCell ⟨b + 1 + 1, 0, none⟩ (.slice vb z.L.length vd)).setCell ⟨b + 1 + 1, 1, none⟩ (.int .u8 (z.l : Nat))).setCell ⟨b + 1 + 1, 2, none⟩ (.int .u8 (z.b : Nat)) := ⟨_, rfl⟩
    have HF := Lib.hid (fin4 HRZ.out HIR.out HBW.out (by have := HBE.out; omega) hwf)
    go_wp2
    rw [← hwf]
    clear hwf g0 g1 g2 f0 f1 f2
    obtain ⟨k0, k1, k2, _⟩ := cells3 HF.out.1
    exact bodyPost_ret (v := rV (.slice vb z.L.length vd) z) (by simp [results, Try.results13, go_sem, k0, k1, k2]) rfl ⟨_, by rw [HV.out], by rw [HV.out]; exact HF.out.2.2, HF.out.2.1⟩
end Go.Proofs.Ytmfbknmcmopjnaa.Lab
