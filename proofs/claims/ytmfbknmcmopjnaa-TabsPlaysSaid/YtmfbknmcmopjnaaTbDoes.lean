/- What an act does to tab stops: does. -/
import Derived.Test.YtmfbknmcmopjnaaTbAct
set_option linter.unusedVariables false
namespace Go.Proofs.Ytmfbknmcmopjnaa.Lab
open Go Go.RowKit Go.Shelf

def doT (a : Ac) (t : Tb) : Tb :=
  if a.what % 9 = 3 ∨ a.what % 9 = 4 then t.put false (lvN a.high) (a.l.take 10) else if a.what % 9 = 5 then t.none else if a.what % 9 = 6 then t.raise (lvN a.high)
  else if a.what % 9 = 7 then t.decl else if a.what % 9 = 8 then t.res a.cols else t.put true (lvN a.high) (a.l.take 10)
theorem doT_ok {a : Ac} {t : Tb} (h : t.Ok) : (doT a t).Ok := by
  unfold doT
  repeat' split
  · exact h.put _ (lvN_le _) _
  · exact h.none
  · exact h.raise (lvN_le _)
  · exact h.decl
  · exact h.res _
  · exact h.put _ (lvN_le _) _
set_option maxHeartbeats 8000000 in
theorem does_any (a : Ac) (u : Value) (t : Tb) (ha : a.Ok) (ht : t.Ok) (w : World) (h : S16 w u a.l) : Calls Try.prog 12 #[acV a u, tbV t] w fun e w' => e = .returned (tbV (doT a t)) ∧ Below w.heap.size w w' := by
  have HBY := Lib.hid (fun w => by_any a u w)
  have HCO := Lib.hid (fun w (h : S16 w u a.l) => actcols_any a u w h)
  have HH := Lib.hid (And.intro ha ht)
  have HL10 := Lib.hid (show (a.l.take 10).length ≤ 1000 by rw [List.length_take]; omega)
  obtain ⟨w1, hw1⟩ : ∃ x, x = w.alloc (.cells #[.int .u8 (a.what : Nat), .bool a.high, u, .int .i16 a.cols] 37) := ⟨_, rfl⟩
  obtain ⟨w2, hw2⟩ : ∃ x, x = w1.alloc (.cells (tbC t) TB) := ⟨_, rfl⟩
  obtain ⟨w3, hw3⟩ : ∃ x, x = w2.alloc (.cells #[.int .u64 0, .int .u64 0, .int .u64 0, .int .u64 0, .int .u64 0, .int .u64 0, .int .u64 0, .int .u64 0, .int .i64 0, .int .u8 0, .int .u8 0] TB) := ⟨_, rfl⟩
  obtain ⟨b, hb⟩ : ∃ b, b = w.heap.size := ⟨_, rfl⟩
  have e1 : w1.heap.size = b + 1 := by rw [hw1, hb]; simp
  have e2 : w2.heap.size = b + 1 + 1 := by rw [hw2, World.size_alloc, e1]
  have b12 : Below w1.heap.size w1 w2 := by rw [hw2]; exact (Below.refl _ _).alloc (Nat.le_refl _) _
  have b23 : Below w2.heap.size w2 w3 := by rw [hw3]; exact (Below.refl _ _).alloc (Nat.le_refl _) _
  have b01 : Below w.heap.size w w1 := by rw [hw1]; exact (Below.refl _ _).alloc (Nat.le_refl _) _
  have HB3 := Lib.hid (show Below w.heap.size w w3 from (b01.trans (b12.mono b01.size)).trans (b23.mono (Nat.le_trans b01.size b12.size)))
  have HA := Lib.hid (show AcAt w3 b a u from ((show AcAt w1 b a u by rw [hw1]; exact AcAt.newAt w b hb a u _).below b12).below b23)
  have HT := Lib.hid (show TbAt w3 (b + 1) t from (show TbAt w2 (b + 1) t by unfold TbAt; rw [hw2, ← e1]; exact World.alloc_heap_new w1 _).below b23)
  have HZ := Lib.hid (show TbAt w3 (b + 1 + 1) Tb.zero by unfold TbAt; rw [zero_cells, hw3, ← e2]; exact World.alloc_heap_new w2 _)
  have HS := Lib.hid (h.below HB3.out)
  have HBE := Lib.hid hb
  have e3 : w3 = ((w.alloc (.cells #[.int .u8 (a.what : Nat), .bool a.high, u, .int .i16 a.cols] 37)).alloc (.cells (tbC t) TB)).alloc (.cells #[.int .u64 0, .int .u64 0, .int .u64 0, .int .u64 0, .int .u64 0, .int .u64 0, .int .u64 0, .int .u64 0, .int .i64 0, .int .u8 0, .int .u8 0] TB) := by rw [hw3, hw2, hw1]
  clear hw1 hw2 hw3 e1 e2 b12 b23 b01 h
  have KEEP := Lib.hid (show ∀ wx, Below w3.heap.size w3 wx → (wx.cell? ⟨b, 0, none⟩ = some (.int .u8 (a.what : Nat)) ∧ wx.cell? ⟨b, 1, none⟩ = some (.bool a.high) ∧ wx.cell? ⟨b, 2, none⟩ = some u ∧ wx.cell? ⟨b, 3, none⟩ = some (.int .i16 a.cols)) ∧ wx.cell? ⟨b + 1, 0, none⟩ = some (wV t.L 0) ∧ wx.cell? ⟨b + 1, 1, none⟩ = some (wV t.L 1) ∧ wx.cell? ⟨b + 1, 2, none⟩ = some (wV t.L 2) ∧ wx.cell? ⟨b + 1, 3, none⟩ = some (wV t.L 3) ∧ wx.cell? ⟨b + 1, 4, none⟩ = some (wV t.L 4) ∧ wx.cell? ⟨b + 1, 5, none⟩ = some (wV t.L 5) ∧ wx.cell? ⟨b + 1, 6, none⟩ = some (wV t.L 6) ∧ wx.cell? ⟨b + 1, 7, none⟩ = some (wV t.L 7) ∧ wx.cell? ⟨b + 1, 8, none⟩ = some (.int .i64 (t.L.length : Nat)) ∧ wx.cell? ⟨b + 1, 9, none⟩ = some (.int .u8 (t.b : Nat)) ∧ wx.cell? ⟨b + 1, 10, none⟩ = some (.int .u8 (t.l : Nat)) from fun wx hx => ⟨(HA.out.below hx).2, (HT.out.below hx).cells⟩)
  have hk : a.what % 9 = 0 ∨ a.what % 9 = 1 ∨ a.what % 9 = 2 ∨ a.what % 9 = 3 ∨ a.what % 9 = 4 ∨ a.what % 9 = 5 ∨ a.what % 9 = 6 ∨ a.what % 9 = 7 ∨ a.what % 9 = 8 := by omega
  have hw9 : a.what < 256 := ha.1
  clear ha ht
  rcases hk with hk | hk | hk | hk | hk | hk | hk | hk | hk
  · have HV := Lib.hid (show doT a t = t.put true (lvN a.high) (a.l.take 10) by unfold doT; rw [if_neg (by omega), if_neg (by omega), if_neg (by omega), if_neg (by omega), if_neg (by omega)])
    have t1 : ((a.what : Nat) : Int).tmod 9 = 0 := by rw [Int.tmod_eq_emod_of_nonneg (by omega)]; omega
    have t2 : ((a.what : Nat) : Int) % 9 = 0 := by omega
    clear hk hw9
    have HM := Lib.hid (fun v w (h : IsIn w v (a.l.take 10)) => set_any t HH.out.2 (lvN a.high) (lvN_le _) v (a.l.take 10) w h HL10.out)
    obtain ⟨z, hz⟩ : ∃ z, z = t.put true (lvN a.high) (a.l.take 10) := ⟨_, rfl⟩
    rw [← hz] at HV HM
    clear hz
    go_enter Try.func12, Try.ntmps12
    go_upto_region 1 with (fail)
    rw [← hb, ← e3]
    clear hb e3
    obtain ⟨_, a0, a1, a2, a3⟩ := HA.out
    obtain ⟨c0, c1, c2, c3, c4, c5, c6, c7, c8, c9, c10⟩ := HT.out.cells
    go_upto_region 13 with (fail)
    clear a0 a1 a2 a3 c0 c1 c2 c3 c4 c5 c6 c7 c8 c9 c10
    refine region_but (S := (fun wx => (wx.cell? ⟨b, 0, none⟩ = some (.int .u8 (a.what : Nat)) ∧ wx.cell? ⟨b, 1, none⟩ = some (.bool a.high) ∧ wx.cell? ⟨b, 2, none⟩ = some u ∧ wx.cell? ⟨b, 3, none⟩ = some (.int .i16 a.cols)) ∧ wx.cell? ⟨b + 1, 0, none⟩ = some (wV t.L 0) ∧ wx.cell? ⟨b + 1, 1, none⟩ = some (wV t.L 1) ∧ wx.cell? ⟨b + 1, 2, none⟩ = some (wV t.L 2) ∧ wx.cell? ⟨b + 1, 3, none⟩ = some (wV t.L 3) ∧ wx.cell? ⟨b + 1, 4, none⟩ = some (wV t.L 4) ∧ wx.cell? ⟨b + 1, 5, none⟩ = some (wV t.L 5) ∧ wx.cell? ⟨b + 1, 6, none⟩ = some (wV t.L 6) ∧ wx.cell? ⟨b + 1, 7, none⟩ = some (wV t.L 7) ∧ wx.cell? ⟨b + 1, 8, none⟩ = some (.int .i64 (t.L.length : Nat)) ∧ wx.cell? ⟨b + 1, 9, none⟩ = some (.int .u8 (t.b : Nat)) ∧ wx.cell? ⟨b + 1, 10, none⟩ = some (.int .u8 (t.l : Nat)))) 6 (by kernel_rfl) (KEEP.out _ ((Below.refl _ _).drew)) (fun hHeld => ?_)
    obtain ⟨wz, hwz⟩ : ∃ X, X = w3.drew := ⟨_, rfl⟩
    have HX := Lib.hid (show Below w3.heap.size w3 wz by rw [hwz]; exact (Below.refl _ _).drew)
    replace hHeld := KEEP.out _ HX.out
    rw [← hwz]
    clear hwz
    refine ti 0 rfl (fun w hSw => by (try dsimp only at hSw); go_simp; try with_reducible rfl) ?_
    go_frame
    refine ti 1 rfl (fun w hSw => by (try dsimp only at hSw); go_simp; try with_reducible rfl) ?_
    go_frame
    refine ti 3 rfl (fun w hSw => by (try dsimp only at hSw); go_simp; try with_reducible rfl) ?_
    go_frame
    refine th 2 rfl (by kernel_rfl) (by decide) (by kernel_rfl) (fun K hK => ?_)
    go_simp
    refine (HBY.out _).mono ?_
    rintro e w5 ⟨rfl, bb⟩
    replace HX := Lib.hid (HX.out.trans (bb.mono HX.out.size))
    clear bb
    go_wp2_with fail
    refine hK.out _ _ (KEEP.out _ HX.out) (fun hHeld => ?_)
    clear hK K
    try go_frame
    refine th 4 rfl (by kernel_rfl) (by decide) (by kernel_rfl) (fun K hK => ?_)
    go_simp
    refine (HCO.out _ (HS.out.below HX.out)).mono ?_
    rintro e w6 ⟨v6, rfl, hI6, bb⟩
    have HI6 := Lib.hid hI6
    clear hI6
    replace HX := Lib.hid (HX.out.trans (bb.mono HX.out.size))
    clear bb
    go_wp2_with fail
    refine hK.out _ _ (KEEP.out _ HX.out) (fun hHeld => ?_)
    clear hK K
    try go_frame
    refine th 5 rfl (by kernel_rfl) (by decide) (by kernel_rfl) (fun K hK => ?_)
    go_simp
    refine (HM.out _ _ HI6.out).mono ?_
    rintro e w7 ⟨rfl, bb⟩
    replace HX := Lib.hid (HX.out.trans (bb.mono HX.out.size))
    clear bb
    go_wp2_with fail
    refine hK.out _ _ (KEEP.out _ HX.out) (fun hHeld => ?_)
    clear hK K
    try go_frame
    obtain ⟨d0, d1, d2, d3, d4, d5, d6, d7, d8, d9, d10⟩ := (HZ.out.below HX.out).cells
    have f := zeros_at (HZ.out.below HX.out)
    have f0 := f 0
    have f1 := f 1
    have f2 := f 2
    have f3 := f 3
    have f4 := f 4
    have f5 := f 5
    have f6 := f 6
    have f7 := f 7
    have f8 := f 8
    have f9 := f 9
    have f10 := f 10
    clear f
    refine tx rfl (by kernel_rfl) (by kernel_rfl) (by kernel_rfl) (fun K hK => ?_)
    go_simp
    refine hK.out _ _ ?_
    clear hK K hHeld KEEP
    try go_frame
    go_wp2
    refine bodyPost_ret (v := tbV z) (by simp [results, Try.results12, go_sem, d0, d1, d2, d3, d4, d5, d6, d7, d8, d9, d10]) rfl ⟨by rw [HV.out], ?_⟩
    exact (HB3.out.trans (HX.out.mono HB3.out.size)).trans ((putT_below (b := b + 1 + 1) (Nat.le_refl _) z).mono (by have := HBE.out; omega))
  · have HV := Lib.hid (show doT a t = t.put true (lvN a.high) (a.l.take 10) by unfold doT; rw [if_neg (by omega), if_neg (by omega), if_neg (by omega), if_neg (by omega), if_neg (by omega)])
    have t1 : ((a.what : Nat) : Int).tmod 9 = 1 := by rw [Int.tmod_eq_emod_of_nonneg (by omega)]; omega
    have t2 : ((a.what : Nat) : Int) % 9 = 1 := by omega
    clear hk hw9
    have HM := Lib.hid (fun v w (h : IsIn w v (a.l.take 10)) => set_any t HH.out.2 (lvN a.high) (lvN_le _) v (a.l.take 10) w h HL10.out)
    obtain ⟨z, hz⟩ : ∃ z, z = t.put true (lvN a.high) (a.l.take 10) := ⟨_, rfl⟩
    rw [← hz] at HV HM
    clear hz
    go_enter Try.func12, Try.ntmps12
    go_upto_region 1 with (fail)
    rw [← hb, ← e3]
    clear hb e3
    obtain ⟨_, a0, a1, a2, a3⟩ := HA.out
    obtain ⟨c0, c1, c2, c3, c4, c5, c6, c7, c8, c9, c10⟩ := HT.out.cells
    go_upto_region 13 with (fail)
    clear a0 a1 a2 a3 c0 c1 c2 c3 c4 c5 c6 c7 c8 c9 c10
    refine region_but (S := (fun wx => (wx.cell? ⟨b, 0, none⟩ = some (.int .u8 (a.what : Nat)) ∧ wx.cell? ⟨b, 1, none⟩ = some (.bool a.high) ∧ wx.cell? ⟨b, 2, none⟩ = some u ∧ wx.cell? ⟨b, 3, none⟩ = some (.int .i16 a.cols)) ∧ wx.cell? ⟨b + 1, 0, none⟩ = some (wV t.L 0) ∧ wx.cell? ⟨b + 1, 1, none⟩ = some (wV t.L 1) ∧ wx.cell? ⟨b + 1, 2, none⟩ = some (wV t.L 2) ∧ wx.cell? ⟨b + 1, 3, none⟩ = some (wV t.L 3) ∧ wx.cell? ⟨b + 1, 4, none⟩ = some (wV t.L 4) ∧ wx.cell? ⟨b + 1, 5, none⟩ = some (wV t.L 5) ∧ wx.cell? ⟨b + 1, 6, none⟩ = some (wV t.L 6) ∧ wx.cell? ⟨b + 1, 7, none⟩ = some (wV t.L 7) ∧ wx.cell? ⟨b + 1, 8, none⟩ = some (.int .i64 (t.L.length : Nat)) ∧ wx.cell? ⟨b + 1, 9, none⟩ = some (.int .u8 (t.b : Nat)) ∧ wx.cell? ⟨b + 1, 10, none⟩ = some (.int .u8 (t.l : Nat)))) 6 (by kernel_rfl) (KEEP.out _ ((Below.refl _ _).drew)) (fun hHeld => ?_)
    obtain ⟨wz, hwz⟩ : ∃ X, X = w3.drew := ⟨_, rfl⟩
    have HX := Lib.hid (show Below w3.heap.size w3 wz by rw [hwz]; exact (Below.refl _ _).drew)
    replace hHeld := KEEP.out _ HX.out
    rw [← hwz]
    clear hwz
    refine ti 0 rfl (fun w hSw => by (try dsimp only at hSw); go_simp; try with_reducible rfl) ?_
    go_frame
    refine ti 1 rfl (fun w hSw => by (try dsimp only at hSw); go_simp; try with_reducible rfl) ?_
    go_frame
    refine ti 3 rfl (fun w hSw => by (try dsimp only at hSw); go_simp; try with_reducible rfl) ?_
    go_frame
    refine th 2 rfl (by kernel_rfl) (by decide) (by kernel_rfl) (fun K hK => ?_)
    go_simp
    refine (HBY.out _).mono ?_
    rintro e w5 ⟨rfl, bb⟩
    replace HX := Lib.hid (HX.out.trans (bb.mono HX.out.size))
    clear bb
    go_wp2_with fail
    refine hK.out _ _ (KEEP.out _ HX.out) (fun hHeld => ?_)
    clear hK K
    try go_frame
    refine th 4 rfl (by kernel_rfl) (by decide) (by kernel_rfl) (fun K hK => ?_)
    go_simp
    refine (HCO.out _ (HS.out.below HX.out)).mono ?_
    rintro e w6 ⟨v6, rfl, hI6, bb⟩
    have HI6 := Lib.hid hI6
    clear hI6
    replace HX := Lib.hid (HX.out.trans (bb.mono HX.out.size))
    clear bb
    go_wp2_with fail
    refine hK.out _ _ (KEEP.out _ HX.out) (fun hHeld => ?_)
    clear hK K
    try go_frame
    refine th 5 rfl (by kernel_rfl) (by decide) (by kernel_rfl) (fun K hK => ?_)
    go_simp
    refine (HM.out _ _ HI6.out).mono ?_
    rintro e w7 ⟨rfl, bb⟩
    replace HX := Lib.hid (HX.out.trans (bb.mono HX.out.size))
    clear bb
    go_wp2_with fail
    refine hK.out _ _ (KEEP.out _ HX.out) (fun hHeld => ?_)
    clear hK K
    try go_frame
    obtain ⟨d0, d1, d2, d3, d4, d5, d6, d7, d8, d9, d10⟩ := (HZ.out.below HX.out).cells
    have f := zeros_at (HZ.out.below HX.out)
    have f0 := f 0
    have f1 := f 1
    have f2 := f 2
    have f3 := f 3
    have f4 := f 4
    have f5 := f 5
    have f6 := f 6
    have f7 := f 7
    have f8 := f 8
    have f9 := f 9
    have f10 := f 10
    clear f
    refine tx rfl (by kernel_rfl) (by kernel_rfl) (by kernel_rfl) (fun K hK => ?_)
    go_simp
    refine hK.out _ _ ?_
    clear hK K hHeld KEEP
    try go_frame
    go_wp2
    refine bodyPost_ret (v := tbV z) (by simp [results, Try.results12, go_sem, d0, d1, d2, d3, d4, d5, d6, d7, d8, d9, d10]) rfl ⟨by rw [HV.out], ?_⟩
    exact (HB3.out.trans (HX.out.mono HB3.out.size)).trans ((putT_below (b := b + 1 + 1) (Nat.le_refl _) z).mono (by have := HBE.out; omega))
  · have HV := Lib.hid (show doT a t = t.put true (lvN a.high) (a.l.take 10) by unfold doT; rw [if_neg (by omega), if_neg (by omega), if_neg (by omega), if_neg (by omega), if_neg (by omega)])
    have t1 : ((a.what : Nat) : Int).tmod 9 = 2 := by rw [Int.tmod_eq_emod_of_nonneg (by omega)]; omega
    have t2 : ((a.what : Nat) : Int) % 9 = 2 := by omega
    clear hk hw9
    have HM := Lib.hid (fun v w (h : IsIn w v (a.l.take 10)) => set_any t HH.out.2 (lvN a.high) (lvN_le _) v (a.l.take 10) w h HL10.out)
    obtain ⟨z, hz⟩ : ∃ z, z = t.put true (lvN a.high) (a.l.take 10) := ⟨_, rfl⟩
    rw [← hz] at HV HM
    clear hz
    go_enter Try.func12, Try.ntmps12
    go_upto_region 1 with (fail)
    rw [← hb, ← e3]
    clear hb e3
    obtain ⟨_, a0, a1, a2, a3⟩ := HA.out
    obtain ⟨c0, c1, c2, c3, c4, c5, c6, c7, c8, c9, c10⟩ := HT.out.cells
    go_upto_region 13 with (fail)
    clear a0 a1 a2 a3 c0 c1 c2 c3 c4 c5 c6 c7 c8 c9 c10
    refine region_but (S := (fun wx => (wx.cell? ⟨b, 0, none⟩ = some (.int .u8 (a.what : Nat)) ∧ wx.cell? ⟨b, 1, none⟩ = some (.bool a.high) ∧ wx.cell? ⟨b, 2, none⟩ = some u ∧ wx.cell? ⟨b, 3, none⟩ = some (.int .i16 a.cols)) ∧ wx.cell? ⟨b + 1, 0, none⟩ = some (wV t.L 0) ∧ wx.cell? ⟨b + 1, 1, none⟩ = some (wV t.L 1) ∧ wx.cell? ⟨b + 1, 2, none⟩ = some (wV t.L 2) ∧ wx.cell? ⟨b + 1, 3, none⟩ = some (wV t.L 3) ∧ wx.cell? ⟨b + 1, 4, none⟩ = some (wV t.L 4) ∧ wx.cell? ⟨b + 1, 5, none⟩ = some (wV t.L 5) ∧ wx.cell? ⟨b + 1, 6, none⟩ = some (wV t.L 6) ∧ wx.cell? ⟨b + 1, 7, none⟩ = some (wV t.L 7) ∧ wx.cell? ⟨b + 1, 8, none⟩ = some (.int .i64 (t.L.length : Nat)) ∧ wx.cell? ⟨b + 1, 9, none⟩ = some (.int .u8 (t.b : Nat)) ∧ wx.cell? ⟨b + 1, 10, none⟩ = some (.int .u8 (t.l : Nat)))) 6 (by kernel_rfl) (KEEP.out _ ((Below.refl _ _).drew)) (fun hHeld => ?_)
    obtain ⟨wz, hwz⟩ : ∃ X, X = w3.drew := ⟨_, rfl⟩
    have HX := Lib.hid (show Below w3.heap.size w3 wz by rw [hwz]; exact (Below.refl _ _).drew)
    replace hHeld := KEEP.out _ HX.out
    rw [← hwz]
    clear hwz
    refine ti 0 rfl (fun w hSw => by (try dsimp only at hSw); go_simp; try with_reducible rfl) ?_
    go_frame
    refine ti 1 rfl (fun w hSw => by (try dsimp only at hSw); go_simp; try with_reducible rfl) ?_
    go_frame
    refine ti 3 rfl (fun w hSw => by (try dsimp only at hSw); go_simp; try with_reducible rfl) ?_
    go_frame
    refine th 2 rfl (by kernel_rfl) (by decide) (by kernel_rfl) (fun K hK => ?_)
    go_simp
    refine (HBY.out _).mono ?_
    rintro e w5 ⟨rfl, bb⟩
    replace HX := Lib.hid (HX.out.trans (bb.mono HX.out.size))
    clear bb
    go_wp2_with fail
    refine hK.out _ _ (KEEP.out _ HX.out) (fun hHeld => ?_)
    clear hK K
    try go_frame
    refine th 4 rfl (by kernel_rfl) (by decide) (by kernel_rfl) (fun K hK => ?_)
    go_simp
    refine (HCO.out _ (HS.out.below HX.out)).mono ?_
    rintro e w6 ⟨v6, rfl, hI6, bb⟩
    have HI6 := Lib.hid hI6
    clear hI6
    replace HX := Lib.hid (HX.out.trans (bb.mono HX.out.size))
    clear bb
    go_wp2_with fail
    refine hK.out _ _ (KEEP.out _ HX.out) (fun hHeld => ?_)
    clear hK K
    try go_frame
    refine th 5 rfl (by kernel_rfl) (by decide) (by kernel_rfl) (fun K hK => ?_)
    go_simp
    refine (HM.out _ _ HI6.out).mono ?_
    rintro e w7 ⟨rfl, bb⟩
    replace HX := Lib.hid (HX.out.trans (bb.mono HX.out.size))
    clear bb
    go_wp2_with fail
    refine hK.out _ _ (KEEP.out _ HX.out) (fun hHeld => ?_)
    clear hK K
    try go_frame
    obtain ⟨d0, d1, d2, d3, d4, d5, d6, d7, d8, d9, d10⟩ := (HZ.out.below HX.out).cells
    have f := zeros_at (HZ.out.below HX.out)
    have f0 := f 0
    have f1 := f 1
    have f2 := f 2
    have f3 := f 3
    have f4 := f 4
    have f5 := f 5
    have f6 := f 6
    have f7 := f 7
    have f8 := f 8
    have f9 := f 9
    have f10 := f 10
    clear f
    refine tx rfl (by kernel_rfl) (by kernel_rfl) (by kernel_rfl) (fun K hK => ?_)
    go_simp
    refine hK.out _ _ ?_
    clear hK K hHeld KEEP
    try go_frame
    go_wp2
    refine bodyPost_ret (v := tbV z) (by simp [results, Try.results12, go_sem, d0, d1, d2, d3, d4, d5, d6, d7, d8, d9, d10]) rfl ⟨by rw [HV.out], ?_⟩
    exact (HB3.out.trans (HX.out.mono HB3.out.size)).trans ((putT_below (b := b + 1 + 1) (Nat.le_refl _) z).mono (by have := HBE.out; omega))
  · have HV := Lib.hid (show doT a t = t.put false (lvN a.high) (a.l.take 10) by unfold doT; rw [if_pos (by omega)])
    have t1 : ((a.what : Nat) : Int).tmod 9 = 3 := by rw [Int.tmod_eq_emod_of_nonneg (by omega)]; omega
    have t2 : ((a.what : Nat) : Int) % 9 = 3 := by omega
    clear hk hw9
    have HM := Lib.hid (fun v w (h : IsIn w v (a.l.take 10)) => clear_any t HH.out.2 (lvN a.high) (lvN_le _) v (a.l.take 10) w h HL10.out)
    obtain ⟨z, hz⟩ : ∃ z, z = t.put false (lvN a.high) (a.l.take 10) := ⟨_, rfl⟩
    rw [← hz] at HV HM
    clear hz
    go_enter Try.func12, Try.ntmps12
    go_upto_region 1 with (fail)
    rw [← hb, ← e3]
    clear hb e3
    obtain ⟨_, a0, a1, a2, a3⟩ := HA.out
    obtain ⟨c0, c1, c2, c3, c4, c5, c6, c7, c8, c9, c10⟩ := HT.out.cells
    go_upto_region 4 with (fail)
    clear a0 a1 a2 a3 c0 c1 c2 c3 c4 c5 c6 c7 c8 c9 c10
    refine region_but (S := (fun wx => (wx.cell? ⟨b, 0, none⟩ = some (.int .u8 (a.what : Nat)) ∧ wx.cell? ⟨b, 1, none⟩ = some (.bool a.high) ∧ wx.cell? ⟨b, 2, none⟩ = some u ∧ wx.cell? ⟨b, 3, none⟩ = some (.int .i16 a.cols)) ∧ wx.cell? ⟨b + 1, 0, none⟩ = some (wV t.L 0) ∧ wx.cell? ⟨b + 1, 1, none⟩ = some (wV t.L 1) ∧ wx.cell? ⟨b + 1, 2, none⟩ = some (wV t.L 2) ∧ wx.cell? ⟨b + 1, 3, none⟩ = some (wV t.L 3) ∧ wx.cell? ⟨b + 1, 4, none⟩ = some (wV t.L 4) ∧ wx.cell? ⟨b + 1, 5, none⟩ = some (wV t.L 5) ∧ wx.cell? ⟨b + 1, 6, none⟩ = some (wV t.L 6) ∧ wx.cell? ⟨b + 1, 7, none⟩ = some (wV t.L 7) ∧ wx.cell? ⟨b + 1, 8, none⟩ = some (.int .i64 (t.L.length : Nat)) ∧ wx.cell? ⟨b + 1, 9, none⟩ = some (.int .u8 (t.b : Nat)) ∧ wx.cell? ⟨b + 1, 10, none⟩ = some (.int .u8 (t.l : Nat)))) 6 (by kernel_rfl) (KEEP.out _ ((Below.refl _ _).drew)) (fun hHeld => ?_)
    obtain ⟨wz, hwz⟩ : ∃ X, X = w3.drew := ⟨_, rfl⟩
    have HX := Lib.hid (show Below w3.heap.size w3 wz by rw [hwz]; exact (Below.refl _ _).drew)
    replace hHeld := KEEP.out _ HX.out
    rw [← hwz]
    clear hwz
    refine ti 0 rfl (fun w hSw => by (try dsimp only at hSw); go_simp; try with_reducible rfl) ?_
    go_frame
    refine ti 1 rfl (fun w hSw => by (try dsimp only at hSw); go_simp; try with_reducible rfl) ?_
    go_frame
    refine ti 3 rfl (fun w hSw => by (try dsimp only at hSw); go_simp; try with_reducible rfl) ?_
    go_frame
    refine th 2 rfl (by kernel_rfl) (by decide) (by kernel_rfl) (fun K hK => ?_)
    go_simp
    refine (HBY.out _).mono ?_
    rintro e w5 ⟨rfl, bb⟩
    replace HX := Lib.hid (HX.out.trans (bb.mono HX.out.size))
    clear bb
    go_wp2_with fail
    refine hK.out _ _ (KEEP.out _ HX.out) (fun hHeld => ?_)
    clear hK K
    try go_frame
    refine th 4 rfl (by kernel_rfl) (by decide) (by kernel_rfl) (fun K hK => ?_)
    go_simp
    refine (HCO.out _ (HS.out.below HX.out)).mono ?_
    rintro e w6 ⟨v6, rfl, hI6, bb⟩
    have HI6 := Lib.hid hI6
    clear hI6
    replace HX := Lib.hid (HX.out.trans (bb.mono HX.out.size))
    clear bb
    go_wp2_with fail
    refine hK.out _ _ (KEEP.out _ HX.out) (fun hHeld => ?_)
    clear hK K
    try go_frame
    refine th 5 rfl (by kernel_rfl) (by decide) (by kernel_rfl) (fun K hK => ?_)
    go_simp
    refine (HM.out _ _ HI6.out).mono ?_
    rintro e w7 ⟨rfl, bb⟩
    replace HX := Lib.hid (HX.out.trans (bb.mono HX.out.size))
    clear bb
    go_wp2_with fail
    refine hK.out _ _ (KEEP.out _ HX.out) (fun hHeld => ?_)
    clear hK K
    try go_frame
    obtain ⟨d0, d1, d2, d3, d4, d5, d6, d7, d8, d9, d10⟩ := (HZ.out.below HX.out).cells
    have f := zeros_at (HZ.out.below HX.out)
    have f0 := f 0
    have f1 := f 1
    have f2 := f 2
    have f3 := f 3
    have f4 := f 4
    have f5 := f 5
    have f6 := f 6
    have f7 := f 7
    have f8 := f 8
    have f9 := f 9
    have f10 := f 10
    clear f
    refine tx rfl (by kernel_rfl) (by kernel_rfl) (by kernel_rfl) (fun K hK => ?_)
    go_simp
    refine hK.out _ _ ?_
    clear hK K hHeld KEEP
    try go_frame
    go_wp2
    refine bodyPost_ret (v := tbV z) (by simp [results, Try.results12, go_sem, d0, d1, d2, d3, d4, d5, d6, d7, d8, d9, d10]) rfl ⟨by rw [HV.out], ?_⟩
    exact (HB3.out.trans (HX.out.mono HB3.out.size)).trans ((putT_below (b := b + 1 + 1) (Nat.le_refl _) z).mono (by have := HBE.out; omega))
  · have HV := Lib.hid (show doT a t = t.put false (lvN a.high) (a.l.take 10) by unfold doT; rw [if_pos (by omega)])
    have t1 : ((a.what : Nat) : Int).tmod 9 = 4 := by rw [Int.tmod_eq_emod_of_nonneg (by omega)]; omega
    have t2 : ((a.what : Nat) : Int) % 9 = 4 := by omega
    clear hk hw9
    have HM := Lib.hid (fun v w (h : IsIn w v (a.l.take 10)) => clear_any t HH.out.2 (lvN a.high) (lvN_le _) v (a.l.take 10) w h HL10.out)
    obtain ⟨z, hz⟩ : ∃ z, z = t.put false (lvN a.high) (a.l.take 10) := ⟨_, rfl⟩
    rw [← hz] at HV HM
    clear hz
    go_enter Try.func12, Try.ntmps12
    go_upto_region 1 with (fail)
    rw [← hb, ← e3]
    clear hb e3
    obtain ⟨_, a0, a1, a2, a3⟩ := HA.out
    obtain ⟨c0, c1, c2, c3, c4, c5, c6, c7, c8, c9, c10⟩ := HT.out.cells
    go_upto_region 4 with (fail)
    clear a0 a1 a2 a3 c0 c1 c2 c3 c4 c5 c6 c7 c8 c9 c10
    refine region_but (S := (fun wx => (wx.cell? ⟨b, 0, none⟩ = some (.int .u8 (a.what : Nat)) ∧ wx.cell? ⟨b, 1, none⟩ = some (.bool a.high) ∧ wx.cell? ⟨b, 2, none⟩ = some u ∧ wx.cell? ⟨b, 3, none⟩ = some (.int .i16 a.cols)) ∧ wx.cell? ⟨b + 1, 0, none⟩ = some (wV t.L 0) ∧ wx.cell? ⟨b + 1, 1, none⟩ = some (wV t.L 1) ∧ wx.cell? ⟨b + 1, 2, none⟩ = some (wV t.L 2) ∧ wx.cell? ⟨b + 1, 3, none⟩ = some (wV t.L 3) ∧ wx.cell? ⟨b + 1, 4, none⟩ = some (wV t.L 4) ∧ wx.cell? ⟨b + 1, 5, none⟩ = some (wV t.L 5) ∧ wx.cell? ⟨b + 1, 6, none⟩ = some (wV t.L 6) ∧ wx.cell? ⟨b + 1, 7, none⟩ = some (wV t.L 7) ∧ wx.cell? ⟨b + 1, 8, none⟩ = some (.int .i64 (t.L.length : Nat)) ∧ wx.cell? ⟨b + 1, 9, none⟩ = some (.int .u8 (t.b : Nat)) ∧ wx.cell? ⟨b + 1, 10, none⟩ = some (.int .u8 (t.l : Nat)))) 6 (by kernel_rfl) (KEEP.out _ ((Below.refl _ _).drew)) (fun hHeld => ?_)
    obtain ⟨wz, hwz⟩ : ∃ X, X = w3.drew := ⟨_, rfl⟩
    have HX := Lib.hid (show Below w3.heap.size w3 wz by rw [hwz]; exact (Below.refl _ _).drew)
    replace hHeld := KEEP.out _ HX.out
    rw [← hwz]
    clear hwz
    refine ti 0 rfl (fun w hSw => by (try dsimp only at hSw); go_simp; try with_reducible rfl) ?_
    go_frame
    refine ti 1 rfl (fun w hSw => by (try dsimp only at hSw); go_simp; try with_reducible rfl) ?_
    go_frame
    refine ti 3 rfl (fun w hSw => by (try dsimp only at hSw); go_simp; try with_reducible rfl) ?_
    go_frame
    refine th 2 rfl (by kernel_rfl) (by decide) (by kernel_rfl) (fun K hK => ?_)
    go_simp
    refine (HBY.out _).mono ?_
    rintro e w5 ⟨rfl, bb⟩
    replace HX := Lib.hid (HX.out.trans (bb.mono HX.out.size))
    clear bb
    go_wp2_with fail
    refine hK.out _ _ (KEEP.out _ HX.out) (fun hHeld => ?_)
    clear hK K
    try go_frame
    refine th 4 rfl (by kernel_rfl) (by decide) (by kernel_rfl) (fun K hK => ?_)
    go_simp
    refine (HCO.out _ (HS.out.below HX.out)).mono ?_
    rintro e w6 ⟨v6, rfl, hI6, bb⟩
    have HI6 := Lib.hid hI6
    clear hI6
    replace HX := Lib.hid (HX.out.trans (bb.mono HX.out.size))
    clear bb
    go_wp2_with fail
    refine hK.out _ _ (KEEP.out _ HX.out) (fun hHeld => ?_)
    clear hK K
    try go_frame
    refine th 5 rfl (by kernel_rfl) (by decide) (by kernel_rfl) (fun K hK => ?_)
    go_simp
    refine (HM.out _ _ HI6.out).mono ?_
    rintro e w7 ⟨rfl, bb⟩
    replace HX := Lib.hid (HX.out.trans (bb.mono HX.out.size))
    clear bb
    go_wp2_with fail
    refine hK.out _ _ (KEEP.out _ HX.out) (fun hHeld => ?_)
    clear hK K
    try go_frame
    obtain ⟨d0, d1, d2, d3, d4, d5, d6, d7, d8, d9, d10⟩ := (HZ.out.below HX.out).cells
    have f := zeros_at (HZ.out.below HX.out)
    have f0 := f 0
    have f1 := f 1
    have f2 := f 2
    have f3 := f 3
    have f4 := f 4
    have f5 := f 5
    have f6 := f 6
    have f7 := f 7
    have f8 := f 8
    have f9 := f 9
    have f10 := f 10
    clear f
    refine tx rfl (by kernel_rfl) (by kernel_rfl) (by kernel_rfl) (fun K hK => ?_)
    go_simp
    refine hK.out _ _ ?_
    clear hK K hHeld KEEP
    try go_frame
    go_wp2
    refine bodyPost_ret (v := tbV z) (by simp [results, Try.results12, go_sem, d0, d1, d2, d3, d4, d5, d6, d7, d8, d9, d10]) rfl ⟨by rw [HV.out], ?_⟩
    exact (HB3.out.trans (HX.out.mono HB3.out.size)).trans ((putT_below (b := b + 1 + 1) (Nat.le_refl _) z).mono (by have := HBE.out; omega))
  · have HV := Lib.hid (show doT a t = t.none by unfold doT; rw [if_neg (by omega), if_pos (by omega)])
    have t1 : ((a.what : Nat) : Int).tmod 9 = 5 := by rw [Int.tmod_eq_emod_of_nonneg (by omega)]; omega
    have t2 : ((a.what : Nat) : Int) % 9 = 5 := by omega
    clear hk hw9
    have HM := Lib.hid (fun w => none_any t w)
    obtain ⟨z, hz⟩ : ∃ z, z = t.none := ⟨_, rfl⟩
    rw [← hz] at HV HM
    clear hz
    go_enter Try.func12, Try.ntmps12
    go_upto_region 1 with (fail)
    rw [← hb, ← e3]
    clear hb e3
    obtain ⟨_, a0, a1, a2, a3⟩ := HA.out
    obtain ⟨c0, c1, c2, c3, c4, c5, c6, c7, c8, c9, c10⟩ := HT.out.cells
    go_wp2_with fail
    refine (HM.out _).mono ?_
    rintro e w5 ⟨rfl, b5⟩
    have HX := Lib.hid b5
    clear b5 a0 a1 a2 a3 c0 c1 c2 c3 c4 c5 c6 c7 c8 c9 c10
    obtain ⟨d0, d1, d2, d3, d4, d5, d6, d7, d8, d9, d10⟩ := (HZ.out.below HX.out).cells
    have f := zeros_at (HZ.out.below HX.out)
    have f0 := f 0
    have f1 := f 1
    have f2 := f 2
    have f3 := f 3
    have f4 := f 4
    have f5 := f 5
    have f6 := f 6
    have f7 := f 7
    have f8 := f 8
    have f9 := f 9
    have f10 := f 10
    clear f
    go_wp2
    refine bodyPost_ret (v := tbV z) (by simp [results, Try.results12, go_sem, d0, d1, d2, d3, d4, d5, d6, d7, d8, d9, d10]) rfl ⟨by rw [HV.out], ?_⟩
    exact (HB3.out.trans (HX.out.mono HB3.out.size)).trans ((putT_below (b := b + 1 + 1) (Nat.le_refl _) z).mono (by have := HBE.out; omega))
  · have HV := Lib.hid (show doT a t = t.raise (lvN a.high) by unfold doT; rw [if_neg (by omega), if_neg (by omega), if_pos (by omega)])
    have t1 : ((a.what : Nat) : Int).tmod 9 = 6 := by rw [Int.tmod_eq_emod_of_nonneg (by omega)]; omega
    have t2 : ((a.what : Nat) : Int) % 9 = 6 := by omega
    clear hk hw9
    have HM := Lib.hid (fun w => raise_any t HH.out.2 (lvN a.high) (lvN_le _) w)
    obtain ⟨z, hz⟩ : ∃ z, z = t.raise (lvN a.high) := ⟨_, rfl⟩
    rw [← hz] at HV HM
    clear hz
    go_enter Try.func12, Try.ntmps12
    go_upto_region 1 with (fail)
    rw [← hb, ← e3]
    clear hb e3
    obtain ⟨_, a0, a1, a2, a3⟩ := HA.out
    obtain ⟨c0, c1, c2, c3, c4, c5, c6, c7, c8, c9, c10⟩ := HT.out.cells
    go_upto_region 8 with (fail)
    clear a0 a1 a2 a3 c0 c1 c2 c3 c4 c5 c6 c7 c8 c9 c10
    refine region_but (S := (fun wx => (wx.cell? ⟨b, 0, none⟩ = some (.int .u8 (a.what : Nat)) ∧ wx.cell? ⟨b, 1, none⟩ = some (.bool a.high) ∧ wx.cell? ⟨b, 2, none⟩ = some u ∧ wx.cell? ⟨b, 3, none⟩ = some (.int .i16 a.cols)) ∧ wx.cell? ⟨b + 1, 0, none⟩ = some (wV t.L 0) ∧ wx.cell? ⟨b + 1, 1, none⟩ = some (wV t.L 1) ∧ wx.cell? ⟨b + 1, 2, none⟩ = some (wV t.L 2) ∧ wx.cell? ⟨b + 1, 3, none⟩ = some (wV t.L 3) ∧ wx.cell? ⟨b + 1, 4, none⟩ = some (wV t.L 4) ∧ wx.cell? ⟨b + 1, 5, none⟩ = some (wV t.L 5) ∧ wx.cell? ⟨b + 1, 6, none⟩ = some (wV t.L 6) ∧ wx.cell? ⟨b + 1, 7, none⟩ = some (wV t.L 7) ∧ wx.cell? ⟨b + 1, 8, none⟩ = some (.int .i64 (t.L.length : Nat)) ∧ wx.cell? ⟨b + 1, 9, none⟩ = some (.int .u8 (t.b : Nat)) ∧ wx.cell? ⟨b + 1, 10, none⟩ = some (.int .u8 (t.l : Nat)))) 4 (by kernel_rfl) (KEEP.out _ ((Below.refl _ _).drew)) (fun hHeld => ?_)
    obtain ⟨wz, hwz⟩ : ∃ X, X = w3.drew := ⟨_, rfl⟩
    have HX := Lib.hid (show Below w3.heap.size w3 wz by rw [hwz]; exact (Below.refl _ _).drew)
    replace hHeld := KEEP.out _ HX.out
    rw [← hwz]
    clear hwz
    refine ti 0 rfl (fun w hSw => by (try dsimp only at hSw); go_simp; try with_reducible rfl) ?_
    go_frame
    refine ti 1 rfl (fun w hSw => by (try dsimp only at hSw); go_simp; try with_reducible rfl) ?_
    go_frame
    refine th 2 rfl (by kernel_rfl) (by decide) (by kernel_rfl) (fun K hK => ?_)
    go_simp
    refine (HBY.out _).mono ?_
    rintro e w5 ⟨rfl, bb⟩
    replace HX := Lib.hid (HX.out.trans (bb.mono HX.out.size))
    clear bb
    go_wp2_with fail
    refine hK.out _ _ (KEEP.out _ HX.out) (fun hHeld => ?_)
    clear hK K
    try go_frame
    refine th 3 rfl (by kernel_rfl) (by decide) (by kernel_rfl) (fun K hK => ?_)
    go_simp
    refine (HM.out _).mono ?_
    rintro e w6 ⟨rfl, bb⟩
    replace HX := Lib.hid (HX.out.trans (bb.mono HX.out.size))
    clear bb
    go_wp2_with fail
    refine hK.out _ _ (KEEP.out _ HX.out) (fun hHeld => ?_)
    clear hK K
    try go_frame
    obtain ⟨d0, d1, d2, d3, d4, d5, d6, d7, d8, d9, d10⟩ := (HZ.out.below HX.out).cells
    have f := zeros_at (HZ.out.below HX.out)
    have f0 := f 0
    have f1 := f 1
    have f2 := f 2
    have f3 := f 3
    have f4 := f 4
    have f5 := f 5
    have f6 := f 6
    have f7 := f 7
    have f8 := f 8
    have f9 := f 9
    have f10 := f 10
    clear f
    refine tx rfl (by kernel_rfl) (by kernel_rfl) (by kernel_rfl) (fun K hK => ?_)
    go_simp
    refine hK.out _ _ ?_
    clear hK K hHeld KEEP
    try go_frame
    go_wp2
    refine bodyPost_ret (v := tbV z) (by simp [results, Try.results12, go_sem, d0, d1, d2, d3, d4, d5, d6, d7, d8, d9, d10]) rfl ⟨by rw [HV.out], ?_⟩
    exact (HB3.out.trans (HX.out.mono HB3.out.size)).trans ((putT_below (b := b + 1 + 1) (Nat.le_refl _) z).mono (by have := HBE.out; omega))
  · have HV := Lib.hid (show doT a t = t.decl by unfold doT; rw [if_neg (by omega), if_neg (by omega), if_neg (by omega), if_pos (by omega)])
    have t1 : ((a.what : Nat) : Int).tmod 9 = 7 := by rw [Int.tmod_eq_emod_of_nonneg (by omega)]; omega
    have t2 : ((a.what : Nat) : Int) % 9 = 7 := by omega
    clear hk hw9
    have HM := Lib.hid (fun w => decl_any t w)
    obtain ⟨z, hz⟩ : ∃ z, z = t.decl := ⟨_, rfl⟩
    rw [← hz] at HV HM
    clear hz
    go_enter Try.func12, Try.ntmps12
    go_upto_region 1 with (fail)
    rw [← hb, ← e3]
    clear hb e3
    obtain ⟨_, a0, a1, a2, a3⟩ := HA.out
    obtain ⟨c0, c1, c2, c3, c4, c5, c6, c7, c8, c9, c10⟩ := HT.out.cells
    go_wp2_with fail
    refine (HM.out _).mono ?_
    rintro e w5 ⟨rfl, b5⟩
    have HX := Lib.hid b5
    clear b5 a0 a1 a2 a3 c0 c1 c2 c3 c4 c5 c6 c7 c8 c9 c10
    obtain ⟨d0, d1, d2, d3, d4, d5, d6, d7, d8, d9, d10⟩ := (HZ.out.below HX.out).cells
    have f := zeros_at (HZ.out.below HX.out)
    have f0 := f 0
    have f1 := f 1
    have f2 := f 2
    have f3 := f 3
    have f4 := f 4
    have f5 := f 5
    have f6 := f 6
    have f7 := f 7
    have f8 := f 8
    have f9 := f 9
    have f10 := f 10
    clear f
    go_wp2
    refine bodyPost_ret (v := tbV z) (by simp [results, Try.results12, go_sem, d0, d1, d2, d3, d4, d5, d6, d7, d8, d9, d10]) rfl ⟨by rw [HV.out], ?_⟩
    exact (HB3.out.trans (HX.out.mono HB3.out.size)).trans ((putT_below (b := b + 1 + 1) (Nat.le_refl _) z).mono (by have := HBE.out; omega))
  · have HV := Lib.hid (show doT a t = t.res a.cols by unfold doT; rw [if_neg (by omega), if_neg (by omega), if_neg (by omega), if_neg (by omega), if_pos (by omega)])
    have t1 : ((a.what : Nat) : Int).tmod 9 = 8 := by rw [Int.tmod_eq_emod_of_nonneg (by omega)]; omega
    have t2 : ((a.what : Nat) : Int) % 9 = 8 := by omega
    clear hk hw9
    have HM := Lib.hid (fun w => res_any t HH.out.2 a.cols w)
    have u1 : IntKind.i64.wrap a.cols = a.cols := by rw [IntKind.wrap_i64]; have := HH.out.1.2; omega
    obtain ⟨z, hz⟩ : ∃ z, z = t.res a.cols := ⟨_, rfl⟩
    rw [← hz] at HV HM
    clear hz
    go_enter Try.func12, Try.ntmps12
    go_upto_region 1 with (fail)
    rw [← hb, ← e3]
    clear hb e3
    obtain ⟨_, a0, a1, a2, a3⟩ := HA.out
    obtain ⟨c0, c1, c2, c3, c4, c5, c6, c7, c8, c9, c10⟩ := HT.out.cells
    go_wp2_with fail
    refine (HM.out _).mono ?_
    rintro e w5 ⟨rfl, b5⟩
    have HX := Lib.hid b5
    clear b5 a0 a1 a2 a3 c0 c1 c2 c3 c4 c5 c6 c7 c8 c9 c10
    obtain ⟨d0, d1, d2, d3, d4, d5, d6, d7, d8, d9, d10⟩ := (HZ.out.below HX.out).cells
    have f := zeros_at (HZ.out.below HX.out)
    have f0 := f 0
    have f1 := f 1
    have f2 := f 2
    have f3 := f 3
    have f4 := f 4
    have f5 := f 5
    have f6 := f 6
    have f7 := f 7
    have f8 := f 8
    have f9 := f 9
    have f10 := f 10
    clear f
    go_wp2
    refine bodyPost_ret (v := tbV z) (by simp [results, Try.results12, go_sem, d0, d1, d2, d3, d4, d5, d6, d7, d8, d9, d10]) rfl ⟨by rw [HV.out], ?_⟩
    exact (HB3.out.trans (HX.out.mono HB3.out.size)).trans ((putT_below (b := b + 1 + 1) (Nat.le_refl _) z).mono (by have := HBE.out; omega))
end Go.Proofs.Ytmfbknmcmopjnaa.Lab
