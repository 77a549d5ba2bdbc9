/- ModeLast: a mode is as it was put last; no other one changes. -/
import Derived.Test.YtjdfinimbdcmbaaMdSoft
set_option linter.unusedVariables false
namespace Go.Proofs.Ytjdfinimbdcmbaa.Lab
open Go Go.RowKit Go.Shelf

theorem idx2b (i : Nat) (h : i < 2) (w : World) : (Instr.index 52 (.agg #[.bool true, .bool false]) (.int .i64 (i : Nat))).run Try.prog w = .ok (.bool (decide (i = 0))) w := by
  rcases (by omega : i = 0 ∨ i = 1) with rfl | rfl
  · kernel_rfl
  · kernel_rfl
theorem known_one {x : Mo} (h : (bitM x).isSome = true) : knownN [x] = 1 := by unfold knownN; simp [h]
theorem known_no {x : Mo} (h : (bitM x).isSome = false) : knownN [x] = 0 := by unfold knownN; simp [h]
theorem put_no {x : Mo} (on : Bool) (m : Nat) (h : (bitM x).isSome = false) : putM on m x = m := by
  unfold putM
  cases e : bitM x with
  | none => rfl
  | some j => rw [e] at h; cases h
theorem known_two {x : Mo} (y : Mo) (h : (bitM x).isSome = true) : 1 ≤ knownN [x, y] ∧ knownN [x, y] ≤ 2 := by
  unfold knownN
  cases hy : (bitM y).isSome <;> simp [h, hy]
theorem is_back (a : Nat) (on : Bool) (y : Mo) : isM (putM on a y) y = (on && (bitM y).isSome) := by
  rw [isM_put]
  cases e : bitM y with
  | none => simp [isM, e]
  | some j => simp
set_option maxHeartbeats 16000000 in
set_option maxRecDepth 100000 in
theorem last_core (la : Option Addr) (n lc : Nat) (AL : List Ac) (p : Bool) (n1 : Int) (hw : wfM (p, n1)) (p2 : Bool) (n2 : Int) (hw2 : wfM (p2, n2)) (w : World) (h : AcsIn w (.slice la n lc) AL) : Calls Try.prog 4 #[.slice la n lc, .agg #[.bool p, .int .i64 n1], .agg #[.bool p2, .int .i64 n2]] w fun e w' => e = .returned (.bool true) ∧ Below w.heap.size w w' := by
  have HAC := Lib.hid h
  have HWF := Lib.hid (nearN_wf hw)
  have HWF2 := Lib.hid (nearN_wf hw2)
  clear h hw hw2
  obtain ⟨q, hq⟩ : ∃ q, q = nearN n1 := ⟨_, rfl⟩
  have HNR := Lib.hid (fun w => near_any p n1 w)
  rw [← hq] at HNR
  have HW := Lib.hid (show wfM (p, q) by rw [hq]; exact HWF.out)
  clear hq HWF
  obtain ⟨q2, hq⟩ : ∃ q2, q2 = nearN n2 := ⟨_, rfl⟩
  have HNR2 := Lib.hid (fun w => near_any p2 n2 w)
  rw [← hq] at HNR2
  have HW2 := Lib.hid (show wfM (p2, q2) by rw [hq]; exact HWF2.out)
  clear hq HWF2
  obtain ⟨m, hm⟩ : ∃ m, m = playS AL := ⟨_, rfl⟩
  have HML := Lib.hid (show m < 2048 by rw [hm]; exact playS_lt AL)
  have HPL := Lib.hid (fun w (h : AcsIn w (.slice la n lc) AL) => played_any la n lc AL w h)
  rw [← hm] at HPL
  clear hm
  have HB := Lib.hid (Below.refl w.heap.size w)
  go_enter Try.func4, Try.ntmps4
  obtain ⟨bx, hbx⟩ : ∃ b, b = w.heap.size := ⟨_, rfl⟩
  obtain ⟨w0, hw0⟩ : ∃ x, x = w.alloc (.cells #[.bool p, .int .i64 n1] 24) := ⟨_, rfl⟩
  obtain ⟨by2, hby⟩ : ∃ b, b = w.heap.size + 1 := ⟨_, rfl⟩
  obtain ⟨w1, hw1⟩ : ∃ x, x = w0.alloc (.cells #[.bool p2, .int .i64 n2] 24) := ⟨_, rfl⟩
  have k0 : Below w.heap.size w w0 := by rw [hw0]; exact (Below.refl _ _).alloc (Nat.le_refl _) _
  have k1 : Below w0.heap.size w0 w1 := by rw [hw1]; exact (Below.refl _ _).alloc (Nat.le_refl _) _
  have HNbx := Lib.hid (blk_below (show w0.heap[bx]? = some (.cells #[.bool p, .int .i64 n1] 24 (0, 0)) by rw [hw0, hbx]; exact World.alloc_heap_new _ _) k1)
  have HNby2 := Lib.hid (show w1.heap[by2]? = some (.cells #[.bool p2, .int .i64 n2] 24 (0, 0)) by rw [hw1, hby, show w.heap.size + 1 = w0.heap.size by rw [hw0]; simp]; exact World.alloc_heap_new _ _)
  have HLbx := Lib.hid (show w.heap.size ≤ bx by rw [hbx]; exact Nat.le_refl _)
  have HLby2 := Lib.hid (show w.heap.size ≤ by2 by rw [hby]; omega)
  have HNE := Lib.hid (show bx ≠ by2 by rw [hbx, hby]; omega)
  replace HB := Lib.hid (k0.trans (k1.mono k0.size))
  go_upto_region 1 with (fail)
  rw [← hw0, ← hw1, ← hby, ← hbx]
  clear hw0 hw1 hbx hby k0 k1
  have cbx := (two_cells HNbx.out).1
  have dbx := (two_cells HNbx.out).2.1
  have fbx := (two_cells HNbx.out).2.2.1
  have gbx := (two_cells HNbx.out).2.2.2
  have cby2 := (two_cells HNby2.out).1
  have dby2 := (two_cells HNby2.out).2.1
  have fby2 := (two_cells HNby2.out).2.2.1
  have gby2 := (two_cells HNby2.out).2.2.2
  go_wp2_with fail
  refine (works_any _).mono ?_
  rintro e w2 ⟨rfl, bb⟩
  replace HNbx := Lib.hid (blk_below HNbx.out bb)
  replace HNby2 := Lib.hid (blk_below HNby2.out bb)
  replace HB := Lib.hid (HB.out.trans (bb.mono HB.out.size))
  clear bb
  clear cbx dbx fbx gbx cby2 dby2 fby2 gby2
  have cbx := (two_cells HNbx.out).1
  have dbx := (two_cells HNbx.out).2.1
  have fbx := (two_cells HNbx.out).2.2.1
  have gbx := (two_cells HNbx.out).2.2.2
  have cby2 := (two_cells HNby2.out).1
  have dby2 := (two_cells HNby2.out).2.1
  have fby2 := (two_cells HNby2.out).2.2.1
  have gby2 := (two_cells HNby2.out).2.2.2
  go_wp2_with fail
  refine (HPL.out _ (HAC.out.below HB.out)).mono ?_
  rintro e w3 ⟨rfl, bb⟩
  replace HNbx := Lib.hid (blk_below HNbx.out bb)
  replace HNby2 := Lib.hid (blk_below HNby2.out bb)
  replace HB := Lib.hid (HB.out.trans (bb.mono HB.out.size))
  clear bb
  clear cbx dbx fbx gbx cby2 dby2 fby2 gby2
  obtain ⟨b7, hb7⟩ : ∃ b, b = w3.heap.size := ⟨_, rfl⟩
  obtain ⟨w4, hw4⟩ : ∃ x, x = w3.alloc (.cells #[.int .u16 (m : Nat)] 27) := ⟨_, rfl⟩
  have HBo := Lib.hid HB.out.size
  have kk : Below w3.heap.size w3 w4 := by rw [hw4]; exact (Below.refl _ _).alloc (Nat.le_refl _) _
  replace HNbx := Lib.hid (blk_below HNbx.out kk)
  replace HNby2 := Lib.hid (blk_below HNby2.out kk)
  replace HB := Lib.hid (HB.out.trans (kk.mono HB.out.size))
  have HNb7 := Lib.hid (show w4.heap[b7]? = some (.cells #[.int .u16 (m : Nat)] 27 (0, 0)) by rw [hw4, hb7]; exact World.alloc_heap_new _ _)
  have HLb7 := Lib.hid (show w.heap.size ≤ b7 by rw [hb7]; exact HBo.out)
  go_upto_region 4 with (fail)
  rw [← hw4, ← hb7]
  clear hw4 hb7 kk HBo
  have HNE7 := Lib.hid (show bx ≠ b7 ∧ by2 ≠ b7 from ⟨fun e => by subst e; have := HNb7.out.symm.trans HNbx.out; simp at this, fun e => by subst e; have := HNb7.out.symm.trans HNby2.out; simp at this⟩)
  have KEEP := Lib.hid (show ∀ wx, Below w4.heap.size w4 wx → wx.cell? ⟨bx, 0, none⟩ = some (.bool p) ∧ wx.cell? ⟨bx, 1, none⟩ = some (.int .i64 n1) ∧ wx.cell? ⟨by2, 0, none⟩ = some (.bool p2) ∧ wx.cell? ⟨by2, 1, none⟩ = some (.int .i64 n2) ∧ wx.cell? ⟨b7, 0, none⟩ = some (.int .u16 (m : Nat)) from fun wx hx => ⟨(two_cells (blk_below HNbx.out hx)).1, (two_cells (blk_below HNbx.out hx)).2.1, (two_cells (blk_below HNby2.out hx)).1, (two_cells (blk_below HNby2.out hx)).2.1, (one_cell (blk_below HNb7.out hx)).1⟩)
  go_upto_region 4 with (fail)
  refine region_but (S := (fun wx => wx.cell? ⟨bx, 0, none⟩ = some (.bool p) ∧ wx.cell? ⟨bx, 1, none⟩ = some (.int .i64 n1) ∧ wx.cell? ⟨by2, 0, none⟩ = some (.bool p2) ∧ wx.cell? ⟨by2, 1, none⟩ = some (.int .i64 n2) ∧ wx.cell? ⟨b7, 0, none⟩ = some (.int .u16 (m : Nat)))) 4 (by kernel_rfl) (KEEP.out _ ((Below.refl _ _).drew)) (fun hHeld => ?_)
  obtain ⟨z4, hz4⟩ : ∃ X, X = w4.drew := ⟨_, rfl⟩
  have HX := Lib.hid (show Below w4.heap.size w4 z4 by rw [hz4]; exact (Below.refl _ _).drew)
  replace hHeld := KEEP.out _ HX.out
  rw [← hz4]
  clear hz4
  refine ti 0 rfl (fun w hSw => by (try dsimp only at hSw); go_simp; try with_reducible rfl) ?_
  go_frame
  refine ti 2 rfl (fun w hSw => by (try dsimp only at hSw); go_simp; try with_reducible rfl) ?_
  go_frame
  refine th 1 rfl (by kernel_rfl) (by decide) (by kernel_rfl) (fun K hK => ?_)
  go_simp
  refine (HNR.out _).mono ?_
  rintro e y1 ⟨rfl, bb⟩
  replace HX := Lib.hid (HX.out.trans (bb.mono HX.out.size))
  clear bb
  go_wp2_with fail
  refine hK.out _ _ (KEEP.out _ HX.out) (fun hHeld => ?_)
  clear hK K
  try go_frame
  refine th 3 rfl (by kernel_rfl) (by decide) (by kernel_rfl) (fun K hK => ?_)
  go_simp
  refine (HNR2.out _).mono ?_
  rintro e y2 ⟨rfl, bb⟩
  replace HX := Lib.hid (HX.out.trans (bb.mono HX.out.size))
  clear bb
  go_wp2_with fail
  refine hK.out _ _ (KEEP.out _ HX.out) (fun hHeld => ?_)
  clear hK K
  try go_frame
  replace HNbx := Lib.hid (blk_below HNbx.out HX.out)
  replace HNby2 := Lib.hid (blk_below HNby2.out HX.out)
  replace HNb7 := Lib.hid (blk_below HNb7.out HX.out)
  replace HB := Lib.hid (HB.out.trans (HX.out.mono HB.out.size))
  clear HX KEEP hHeld
  have cbx := (two_cells HNbx.out).1
  have dbx := (two_cells HNbx.out).2.1
  have fbx := (two_cells HNbx.out).2.2.1
  have gbx := (two_cells HNbx.out).2.2.2
  have cby2 := (two_cells HNby2.out).1
  have dby2 := (two_cells HNby2.out).2.1
  have fby2 := (two_cells HNby2.out).2.2.1
  have gby2 := (two_cells HNby2.out).2.2.2
  have cb7 := (one_cell HNb7.out).1
  have fb7 := (one_cell HNb7.out).2
  obtain ⟨y3, hy3⟩ : ∃ x, x = (y2.setCell ⟨bx, 0, none⟩ (.bool p)).setCell ⟨bx, 1, none⟩ (.int .i64 q) := ⟨_, rfl⟩
  have kbt : But bx y2 y3 := by rw [hy3]; exact (But.set y2 bx 0 _).trans (But.set _ bx 1 _)
  have HNy := Lib.hid (show y3.heap[bx]? = some (.cells #[.bool p, .int .i64 q] 24 (0, 0)) by
    rw [hy3]
    exact heap_set2 HNbx.out)
  refine dx rfl (by kernel_rfl) (by kernel_rfl) (fun K hK => op_wide 0 ?_)
  go_simp
  rw [← hy3]
  refine hK.out _ _ ?_
  clear hK K
  try go_frame
  clear cbx dbx fbx gbx cby2 dby2 fby2 gby2 cb7 fb7
  have HNbx := HNy
  clear HNy
  replace HNby2 := Lib.hid ((kbt.block by2 (Array.getElem?_eq_some_iff.1 HNby2.out).1 (by have := HNE.out; have := HNE7.out; simp; omega)).trans HNby2.out)
  replace HNb7 := Lib.hid ((kbt.block b7 (Array.getElem?_eq_some_iff.1 HNb7.out).1 (by have := HNE.out; have := HNE7.out; simp; omega)).trans HNb7.out)
  replace HB := Lib.hid (HB.out.trans (kbt.below HLbx.out HB.out.size))
  clear hy3 kbt
  have cbx := (two_cells HNbx.out).1
  have dbx := (two_cells HNbx.out).2.1
  have fbx := (two_cells HNbx.out).2.2.1
  have gbx := (two_cells HNbx.out).2.2.2
  have cby2 := (two_cells HNby2.out).1
  have dby2 := (two_cells HNby2.out).2.1
  have fby2 := (two_cells HNby2.out).2.2.1
  have gby2 := (two_cells HNby2.out).2.2.2
  have cb7 := (one_cell HNb7.out).1
  have fb7 := (one_cell HNb7.out).2
  obtain ⟨y4, hy4⟩ : ∃ x, x = (y3.setCell ⟨by2, 0, none⟩ (.bool p2)).setCell ⟨by2, 1, none⟩ (.int .i64 q2) := ⟨_, rfl⟩
  have kbt : But by2 y3 y4 := by rw [hy4]; exact (But.set y3 by2 0 _).trans (But.set _ by2 1 _)
  have HNy := Lib.hid (show y4.heap[by2]? = some (.cells #[.bool p2, .int .i64 q2] 24 (0, 0)) by
    rw [hy4]
    exact heap_set2 HNby2.out)
  refine d1 (i := 5) rfl (by kernel_rfl) (by kernel_rfl) (fun K hK => op_wide 0 ?_)
  go_simp
  rw [← hy4]
  refine hK.out _ _ ?_
  clear hK K
  try go_frame
  clear cbx dbx fbx gbx cby2 dby2 fby2 gby2 cb7 fb7
  have HNby2 := HNy
  clear HNy
  replace HNbx := Lib.hid ((kbt.block bx (Array.getElem?_eq_some_iff.1 HNbx.out).1 (by have := HNE.out; have := HNE7.out; simp; omega)).trans HNbx.out)
  replace HNb7 := Lib.hid ((kbt.block b7 (Array.getElem?_eq_some_iff.1 HNb7.out).1 (by have := HNE.out; have := HNE7.out; simp; omega)).trans HNb7.out)
  replace HB := Lib.hid (HB.out.trans (kbt.below HLby2.out HB.out.size))
  clear hy4 kbt
  refine ⟨by kernel_rfl, ?_⟩
  have hqm : ∀ w, (Op.equalIn 10000 27 (.agg #[.int .u16 (m : Nat)]) (.agg #[.int .u16 (m : Nat)])).run Try.prog w = .ok true w := fun w => by rw [eqMs, decide_eq_true rfl]
  go_wp2_with fail
  go_loopw [30] (fun v wr => ∃ i : Nat, v = .int .i64 (i : Nat) ∧ Hid (i ≤ 2) ∧ Hid (Below y4.heap.size y4 wr)) (fun v wr => 20 - (intOf v).toNat)
  case atStart => exact ⟨0, rfl, Lib.hid (Nat.zero_le _), Lib.hid (Below.refl _ _)⟩
  case round =>
    obtain ⟨i, rfl, HI, HY⟩ := hrel
    have u1 : IntKind.i64.wrap ((i : Int) + 1) = ((i + 1 : Nat) : Int) := by rw [IntKind.wrap_i64]; have := HI.out; omega
    have HBS := HB
    replace HNbx := Lib.hid (blk_below HNbx.out HY.out)
    replace HNby2 := Lib.hid (blk_below HNby2.out HY.out)
    replace HNb7 := Lib.hid (blk_below HNb7.out HY.out)
    replace HB := Lib.hid (HB.out.trans (HY.out.mono HB.out.size))
    replace HB := Lib.hid (Below.refl wr.heap.size wr)
    by_cases hi : i < 2
    · have g2 : i < 2 := hi
      have g2' : decide (i < 2) = true := decide_eq_true hi
      have HI1 := Lib.hid hi
      obtain ⟨on, hon⟩ : ∃ on, on = decide (i = 0) := ⟨_, rfl⟩
      have hidx := fun w => idx2b i hi w
      rw [← hon] at hidx
      clear hon hi
      have HWX := Lib.hid (show ∀ (l : List Mo), (∀ z ∈ l, z = (p, q) ∨ z = (p2, q2)) → ∀ z ∈ l, wfM z from fun l hl z hz => by rcases hl z hz with rfl | rfl; exact HW.out; exact HW2.out)
      cases hk : (bitM (p, q)).isSome
      · have HKN := Lib.hid (show ∀ w, Calls Try.prog 17 #[.agg #[.bool p, .int .i64 q]] w fun e w' => e = .returned (.bool false) ∧ Below w.heap.size w w' from fun w => by have := known_any p q HW.out w; rw [hk] at this; exact this)
        have HPM := Lib.hid (show putL on m [(p, q)] = m ∧ knownN [(p, q)] = 0 from ⟨put_no on m hk, known_no hk⟩)
        clear hk
        have cbx := (two_cells HNbx.out).1
        have dbx := (two_cells HNbx.out).2.1
        have fbx := (two_cells HNbx.out).2.2.1
        have gbx := (two_cells HNbx.out).2.2.2
        have cby2 := (two_cells HNby2.out).1
        have dby2 := (two_cells HNby2.out).2.1
        have fby2 := (two_cells HNby2.out).2.2.1
        have gby2 := (two_cells HNby2.out).2.2.2
        have cb7 := (one_cell HNb7.out).1
        have fb7 := (one_cell HNb7.out).2
        go_wp2_with fail
        refine (put_c (s := m) (r := m) (k := 0) (K := 0) (on) _ [(p, q)] rfl rfl rfl HML.out HPM.out _ (lit_in wr [(p, q)] 24 (by simp) _ rfl) (HWX.out [(p, q)] (by simp)) (by simp)).mono ?_
        rintro e v1 ⟨rfl, bb⟩
        replace bb := below_al (Below.refl _ _) _ bb
        replace HNbx := Lib.hid (blk_below HNbx.out bb)
        replace HNby2 := Lib.hid (blk_below HNby2.out bb)
        replace HNb7 := Lib.hid (blk_below HNb7.out bb)
        replace HB := Lib.hid (HB.out.trans (bb.mono HB.out.size))
        clear bb
        clear cbx dbx fbx gbx cby2 dby2 fby2 gby2 cb7 fb7
        obtain ⟨b10, hb10⟩ : ∃ b, b = v1.heap.size := ⟨_, rfl⟩
        obtain ⟨v2, hv2⟩ : ∃ x, x = v1.alloc (.cells #[.int .u16 (m : Nat)] 27) := ⟨_, rfl⟩
        have HBo := Lib.hid HB.out.size
        have kk : Below v1.heap.size v1 v2 := by rw [hv2]; exact (Below.refl _ _).alloc (Nat.le_refl _) _
        replace HNbx := Lib.hid (blk_below HNbx.out kk)
        replace HNby2 := Lib.hid (blk_below HNby2.out kk)
        replace HNb7 := Lib.hid (blk_below HNb7.out kk)
        replace HB := Lib.hid (HB.out.trans (kk.mono HB.out.size))
        have HNb10 := Lib.hid (show v2.heap[b10]? = some (.cells #[.int .u16 (m : Nat)] 27 (0, 0)) by rw [hv2, hb10]; exact World.alloc_heap_new _ _)
        have HLb10 := Lib.hid (show wr.heap.size ≤ b10 by rw [hb10]; exact HBo.out)
        go_upto_region 9 with (fail)
        rw [← hv2, ← hb10]
        clear hv2 hb10 kk HBo
        have cbx := (two_cells HNbx.out).1
        have dbx := (two_cells HNbx.out).2.1
        have fbx := (two_cells HNbx.out).2.2.1
        have gbx := (two_cells HNbx.out).2.2.2
        have cby2 := (two_cells HNby2.out).1
        have dby2 := (two_cells HNby2.out).2.1
        have fby2 := (two_cells HNby2.out).2.2.1
        have gby2 := (two_cells HNby2.out).2.2.2
        have cb7 := (one_cell HNb7.out).1
        have fb7 := (one_cell HNb7.out).2
        have cb10 := (one_cell HNb10.out).1
        have fb10 := (one_cell HNb10.out).2
        go_wp2_with fail
        refine (HKN.out _).mono ?_
        rintro e v3 ⟨rfl, bb⟩
        replace HNbx := Lib.hid (blk_below HNbx.out bb)
        replace HNby2 := Lib.hid (blk_below HNby2.out bb)
        replace HNb7 := Lib.hid (blk_below HNb7.out bb)
        replace HNb10 := Lib.hid (blk_below HNb10.out bb)
        replace HB := Lib.hid (HB.out.trans (bb.mono HB.out.size))
        clear bb
        clear cbx dbx fbx gbx cby2 dby2 fby2 gby2 cb7 fb7 cb10 fb10
        have cbx := (two_cells HNbx.out).1
        have dbx := (two_cells HNbx.out).2.1
        have fbx := (two_cells HNbx.out).2.2.1
        have gbx := (two_cells HNbx.out).2.2.2
        have cby2 := (two_cells HNby2.out).1
        have dby2 := (two_cells HNby2.out).2.1
        have fby2 := (two_cells HNby2.out).2.2.1
        have gby2 := (two_cells HNby2.out).2.2.2
        have cb7 := (one_cell HNb7.out).1
        have fb7 := (one_cell HNb7.out).2
        have cb10 := (one_cell HNb10.out).1
        have fb10 := (one_cell HNb10.out).2
        go_wp2
        go_roundw
        case rel => exact ⟨i + 1, by go_num, Lib.hid HI1.out, Lib.hid (HY.out.trans (HB.out.mono HY.out.size))⟩
        case measure => simp only [intOf]; have := HI.out; omega
      · have HKN := Lib.hid (show ∀ w, Calls Try.prog 17 #[.agg #[.bool p, .int .i64 q]] w fun e w' => e = .returned (.bool true) ∧ Below w.heap.size w w' from fun w => by have := known_any p q HW.out w; rw [hk] at this; exact this)
        obtain ⟨a, ha⟩ : ∃ a, a = putM on m (p, q) := ⟨_, rfl⟩
        obtain ⟨c, hc⟩ : ∃ c, c = putM (!on) m (p, q) := ⟨_, rfl⟩
        obtain ⟨bo, hbo⟩ : ∃ bo, bo = putM on a (p2, q2) := ⟨_, rfl⟩
        obtain ⟨ky, hky⟩ : ∃ ky, ky = (bitM (p2, q2)).isSome := ⟨_, rfl⟩
        obtain ⟨kk, hkk⟩ : ∃ kk, kk = knownN [(p, q), (p2, q2)] := ⟨_, rfl⟩
        obtain ⟨k1, hk1⟩ : ∃ k1, k1 = knownN [(p2, q2)] := ⟨_, rfl⟩
        obtain ⟨one, hone⟩ : ∃ one, one = decide (bitM (p, q) = bitM (p2, q2)) := ⟨_, rfl⟩
        obtain ⟨st, hst⟩ : ∃ st, st = stateM m (p2, q2) := ⟨_, rfl⟩
        obtain ⟨zz, hzz⟩ : ∃ zz, zz = (on && ky) := ⟨_, rfl⟩
        have HALT := Lib.hid (show a < 2048 ∧ c < 2048 ∧ bo < 2048 from by
          have h1 : a < 2048 := by rw [ha]; exact putM_lt on _ HML.out
          exact ⟨h1, by rw [hc]; exact putM_lt _ _ HML.out, by rw [hbo]; exact putM_lt on _ h1⟩)
        have HP1 := Lib.hid (show putL on m [(p, q)] = a ∧ knownN [(p, q)] = 1 from ⟨ha.symm, known_one hk⟩)
        have HP2 := Lib.hid (show putL on a [(p, q)] = a ∧ knownN [(p, q)] = 1 from ⟨by show putM on a (p, q) = a; rw [ha]; exact putM_twice m _ on on hk, known_one hk⟩)
        have HP3 := Lib.hid (show putL (!on) m [(p, q)] = c ∧ knownN [(p, q)] = 1 from ⟨hc.symm, known_one hk⟩)
        have HP4 := Lib.hid (show putL on c [(p, q)] = a ∧ knownN [(p, q)] = 1 from ⟨by show putM on c (p, q) = a; rw [hc, ha]; exact putM_twice m _ (!on) on hk, known_one hk⟩)
        have HP5 := Lib.hid (show putL on m [(p, q), (p2, q2)] = bo ∧ knownN [(p, q), (p2, q2)] = kk from ⟨by show putM on (putM on m (p, q)) (p2, q2) = bo; rw [hbo, ha], hkk.symm⟩)
        have HP6 := Lib.hid (show putL on a [(p2, q2)] = bo ∧ knownN [(p2, q2)] = k1 from ⟨hbo.symm, hk1.symm⟩)
        have HONE := Lib.hid (show one = true ↔ ((p, q) = (p2, q2) ∨ (altM (p, q) = true ∧ altM (p2, q2) = true)) by rw [hone, decide_eq_true_iff]; exact one_bit hk)
        have HISX := Lib.hid (show ∀ w, Calls Try.prog 21 #[.agg #[.int .u16 (a : Nat)], .agg #[.bool p, .int .i64 q]] w fun e w' => e = .returned (.bool on) ∧ Below w.heap.size w w' from fun w => by
          have := is_any a HALT.out.1 p q HW.out w
          rw [show isM a (p, q) = on by rw [ha, isM_put, if_pos ⟨rfl, hk⟩]] at this
          exact this)
        have HISY := Lib.hid (show one = true → ∀ w, Calls Try.prog 21 #[.agg #[.int .u16 (a : Nat)], .agg #[.bool p2, .int .i64 q2]] w fun e w' => e = .returned (.bool on) ∧ Below w.heap.size w w' from fun h w => by
          have := is_any a HALT.out.1 p2 q2 HW2.out w
          rw [show isM a (p2, q2) = on by rw [ha, isM_put, if_pos ⟨by rw [hone] at h; exact of_decide_eq_true h, hk⟩]] at this
          exact this)
        have HSTY := Lib.hid (show one = false → ∀ w, Calls Try.prog 23 #[.agg #[.int .u16 (a : Nat)], .agg #[.bool p2, .int .i64 q2]] w fun e w' => e = .returned (.int .i64 (st : Nat)) ∧ Below w.heap.size w w' from fun h w => by
          have := state_any a HALT.out.1 p2 q2 HW2.out w
          rw [show stateM a (p2, q2) = st by rw [ha, hst]; exact stateM_put m on _ _ (by rw [hone] at h; exact of_decide_eq_false h)] at this
          exact this)
        have HSTM := Lib.hid (show ∀ w, Calls Try.prog 23 #[.agg #[.int .u16 (m : Nat)], .agg #[.bool p2, .int .i64 q2]] w fun e w' => e = .returned (.int .i64 (st : Nat)) ∧ Below w.heap.size w w' from fun w => by
          have := state_any m HML.out p2 q2 HW2.out w
          rw [← hst] at this
          exact this)
        have HISB := Lib.hid (show ∀ w, Calls Try.prog 21 #[.agg #[.int .u16 (bo : Nat)], .agg #[.bool p2, .int .i64 q2]] w fun e w' => e = .returned (.bool zz) ∧ Below w.heap.size w w' from fun w => by
          have := is_any bo HALT.out.2.2 p2 q2 HW2.out w
          rw [show isM bo (p2, q2) = zz by rw [hbo, is_back, hzz, hky]] at this
          exact this)
        have HKNY := Lib.hid (show ∀ w, Calls Try.prog 17 #[.agg #[.bool p2, .int .i64 q2]] w fun e w' => e = .returned (.bool ky) ∧ Below w.heap.size w w' from fun w => by have := known_any p2 q2 HW2.out w; rw [← hky] at this; exact this)
        obtain ⟨K, hK⟩ : ∃ K : Int, K = (kk : Nat) := ⟨_, rfl⟩
        have HK := Lib.hid hK
        have HKR := Lib.hid (show 1 ≤ K ∧ K ≤ 2 by have := known_two (p2, q2) hk; rw [← hkk] at this; omega)
        have HZZ := Lib.hid hzz
        clear hk ha hc hbo hky hkk hk1 hone hst hzz hK
        have hqa : ∀ w, (Op.equalIn 10000 27 (.agg #[.int .u16 (a : Nat)]) (.agg #[.int .u16 (a : Nat)])).run Try.prog w = .ok true w := fun w => by rw [eqMs, decide_eq_true rfl]
        have hqb : ∀ w, (Op.equalIn 10000 27 (.agg #[.int .u16 (bo : Nat)]) (.agg #[.int .u16 (bo : Nat)])).run Try.prog w = .ok true w := fun w => by rw [eqMs, decide_eq_true rfl]
        have cbx := (two_cells HNbx.out).1
        have dbx := (two_cells HNbx.out).2.1
        have fbx := (two_cells HNbx.out).2.2.1
        have gbx := (two_cells HNbx.out).2.2.2
        have cby2 := (two_cells HNby2.out).1
        have dby2 := (two_cells HNby2.out).2.1
        have fby2 := (two_cells HNby2.out).2.2.1
        have gby2 := (two_cells HNby2.out).2.2.2
        have cb7 := (one_cell HNb7.out).1
        have fb7 := (one_cell HNb7.out).2
        go_wp2_with fail
        refine (put_c (s := m) (r := a) (k := 1) (K := 1) (on) _ [(p, q)] rfl rfl rfl HML.out HP1.out _ (lit_in wr [(p, q)] 24 (by simp) _ rfl) (HWX.out [(p, q)] (by simp)) (by simp)).mono ?_
        rintro e v1 ⟨rfl, bb⟩
        replace bb := below_al (Below.refl _ _) _ bb
        replace HNbx := Lib.hid (blk_below HNbx.out bb)
        replace HNby2 := Lib.hid (blk_below HNby2.out bb)
        replace HNb7 := Lib.hid (blk_below HNb7.out bb)
        replace HB := Lib.hid (HB.out.trans (bb.mono HB.out.size))
        clear bb
        clear cbx dbx fbx gbx cby2 dby2 fby2 gby2 cb7 fb7
        obtain ⟨b10, hb10⟩ : ∃ b, b = v1.heap.size := ⟨_, rfl⟩
        obtain ⟨v2, hv2⟩ : ∃ x, x = v1.alloc (.cells #[.int .u16 (a : Nat)] 27) := ⟨_, rfl⟩
        have HBo := Lib.hid HB.out.size
        have kk : Below v1.heap.size v1 v2 := by rw [hv2]; exact (Below.refl _ _).alloc (Nat.le_refl _) _
        replace HNbx := Lib.hid (blk_below HNbx.out kk)
        replace HNby2 := Lib.hid (blk_below HNby2.out kk)
        replace HNb7 := Lib.hid (blk_below HNb7.out kk)
        replace HB := Lib.hid (HB.out.trans (kk.mono HB.out.size))
        have HNb10 := Lib.hid (show v2.heap[b10]? = some (.cells #[.int .u16 (a : Nat)] 27 (0, 0)) by rw [hv2, hb10]; exact World.alloc_heap_new _ _)
        have HLb10 := Lib.hid (show wr.heap.size ≤ b10 by rw [hb10]; exact HBo.out)
        go_upto_region 9 with (fail)
        rw [← hv2, ← hb10]
        clear hv2 hb10 kk HBo
        have cbx := (two_cells HNbx.out).1
        have dbx := (two_cells HNbx.out).2.1
        have fbx := (two_cells HNbx.out).2.2.1
        have gbx := (two_cells HNbx.out).2.2.2
        have cby2 := (two_cells HNby2.out).1
        have dby2 := (two_cells HNby2.out).2.1
        have fby2 := (two_cells HNby2.out).2.2.1
        have gby2 := (two_cells HNby2.out).2.2.2
        have cb7 := (one_cell HNb7.out).1
        have fb7 := (one_cell HNb7.out).2
        have cb10 := (one_cell HNb10.out).1
        have fb10 := (one_cell HNb10.out).2
        go_wp2_with fail
        refine (HKN.out _).mono ?_
        rintro e v3 ⟨rfl, bb⟩
        replace HNbx := Lib.hid (blk_below HNbx.out bb)
        replace HNby2 := Lib.hid (blk_below HNby2.out bb)
        replace HNb7 := Lib.hid (blk_below HNb7.out bb)
        replace HNb10 := Lib.hid (blk_below HNb10.out bb)
        replace HB := Lib.hid (HB.out.trans (bb.mono HB.out.size))
        clear bb
        clear cbx dbx fbx gbx cby2 dby2 fby2 gby2 cb7 fb7 cb10 fb10
        have cbx := (two_cells HNbx.out).1
        have dbx := (two_cells HNbx.out).2.1
        have fbx := (two_cells HNbx.out).2.2.1
        have gbx := (two_cells HNbx.out).2.2.2
        have cby2 := (two_cells HNby2.out).1
        have dby2 := (two_cells HNby2.out).2.1
        have fby2 := (two_cells HNby2.out).2.2.1
        have gby2 := (two_cells HNby2.out).2.2.2
        have cb7 := (one_cell HNb7.out).1
        have fb7 := (one_cell HNb7.out).2
        have cb10 := (one_cell HNb10.out).1
        have fb10 := (one_cell HNb10.out).2
        go_upto_region 14 with (fail)
        go_cut [12] (fun v wc => v = .bool one ∧ Hid (Below v3.heap.size v3 wc))
        case first =>
          by_cases hxy : (p, q) = (p2, q2)
          · have hq1 : ∀ w, (Op.equalIn 10000 24 (.agg #[.bool p, .int .i64 q]) (.agg #[.bool p2, .int .i64 q2])).run Try.prog w = .ok true w := fun w => by rw [eqMo, decide_eq_true hxy]
            have HTM := Lib.hid (show one = true from HONE.out.2 (.inl hxy))
            clear hxy
            go_wp2
            go_meet
            case rel => exact ⟨by rw [HTM.out], Lib.hid (Below.refl _ _)⟩
          · have hq1 : ∀ w, (Op.equalIn 10000 24 (.agg #[.bool p, .int .i64 q]) (.agg #[.bool p2, .int .i64 q2])).run Try.prog w = .ok false w := fun w => by rw [eqMo, decide_eq_false hxy]
            obtain ⟨ax, hax⟩ : ∃ b, b = altM (p, q) := ⟨_, rfl⟩
            obtain ⟨ay, hay⟩ : ∃ b, b = altM (p2, q2) := ⟨_, rfl⟩
            have HAX := Lib.hid (fun w => alt_any p q HW.out w)
            have HAY := Lib.hid (fun w => alt_any p2 q2 HW2.out w)
            rw [← hax] at HAX
            rw [← hay] at HAY
            have HTM := Lib.hid (show one = (ax && ay) from Bool.eq_iff_iff.2 (by rw [HONE.out, or_iff_right hxy, ← hax, ← hay, Bool.and_eq_true]))
            clear hxy hax hay
            cases ax
            · have HBC := Lib.hid (Below.refl v3.heap.size v3)
              go_wp2_with fail
              refine (HAX.out _).mono ?_
              rintro e u1 ⟨rfl, bb⟩
              replace HBC := Lib.hid (HBC.out.trans (bb.mono HBC.out.size))
              replace HNbx := Lib.hid (blk_below HNbx.out bb)
              replace HNby2 := Lib.hid (blk_below HNby2.out bb)
              replace HNb7 := Lib.hid (blk_below HNb7.out bb)
              replace HNb10 := Lib.hid (blk_below HNb10.out bb)
              replace HB := Lib.hid (HB.out.trans (bb.mono HB.out.size))
              clear bb
              clear cbx dbx fbx gbx cby2 dby2 fby2 gby2 cb7 fb7 cb10 fb10
              have cbx := (two_cells HNbx.out).1
              have dbx := (two_cells HNbx.out).2.1
              have fbx := (two_cells HNbx.out).2.2.1
              have gbx := (two_cells HNbx.out).2.2.2
              have cby2 := (two_cells HNby2.out).1
              have dby2 := (two_cells HNby2.out).2.1
              have fby2 := (two_cells HNby2.out).2.2.1
              have gby2 := (two_cells HNby2.out).2.2.2
              have cb7 := (one_cell HNb7.out).1
              have fb7 := (one_cell HNb7.out).2
              have cb10 := (one_cell HNb10.out).1
              have fb10 := (one_cell HNb10.out).2
              go_wp2
              go_meet
              case rel => exact ⟨by rw [HTM.out]; rfl, HBC⟩
            · have HBC := Lib.hid (Below.refl v3.heap.size v3)
              go_wp2_with fail
              refine (HAX.out _).mono ?_
              rintro e u1 ⟨rfl, bb⟩
              replace HBC := Lib.hid (HBC.out.trans (bb.mono HBC.out.size))
              replace HNbx := Lib.hid (blk_below HNbx.out bb)
              replace HNby2 := Lib.hid (blk_below HNby2.out bb)
              replace HNb7 := Lib.hid (blk_below HNb7.out bb)
              replace HNb10 := Lib.hid (blk_below HNb10.out bb)
              replace HB := Lib.hid (HB.out.trans (bb.mono HB.out.size))
              clear bb
              clear cbx dbx fbx gbx cby2 dby2 fby2 gby2 cb7 fb7 cb10 fb10
              have cbx := (two_cells HNbx.out).1
              have dbx := (two_cells HNbx.out).2.1
              have fbx := (two_cells HNbx.out).2.2.1
              have gbx := (two_cells HNbx.out).2.2.2
              have cby2 := (two_cells HNby2.out).1
              have dby2 := (two_cells HNby2.out).2.1
              have fby2 := (two_cells HNby2.out).2.2.1
              have gby2 := (two_cells HNby2.out).2.2.2
              have cb7 := (one_cell HNb7.out).1
              have fb7 := (one_cell HNb7.out).2
              have cb10 := (one_cell HNb10.out).1
              have fb10 := (one_cell HNb10.out).2
              go_wp2_with fail
              refine (HAY.out _).mono ?_
              rintro e u2 ⟨rfl, bb⟩
              replace HBC := Lib.hid (HBC.out.trans (bb.mono HBC.out.size))
              replace HNbx := Lib.hid (blk_below HNbx.out bb)
              replace HNby2 := Lib.hid (blk_below HNby2.out bb)
              replace HNb7 := Lib.hid (blk_below HNb7.out bb)
              replace HNb10 := Lib.hid (blk_below HNb10.out bb)
              replace HB := Lib.hid (HB.out.trans (bb.mono HB.out.size))
              clear bb
              clear cbx dbx fbx gbx cby2 dby2 fby2 gby2 cb7 fb7 cb10 fb10
              have cbx := (two_cells HNbx.out).1
              have dbx := (two_cells HNbx.out).2.1
              have fbx := (two_cells HNbx.out).2.2.1
              have gbx := (two_cells HNbx.out).2.2.2
              have cby2 := (two_cells HNby2.out).1
              have dby2 := (two_cells HNby2.out).2.1
              have fby2 := (two_cells HNby2.out).2.2.1
              have gby2 := (two_cells HNby2.out).2.2.2
              have cb7 := (one_cell HNb7.out).1
              have fb7 := (one_cell HNb7.out).2
              have cb10 := (one_cell HNb10.out).1
              have fb10 := (one_cell HNb10.out).2
              go_wp2
              go_meet
              case rel => exact ⟨by rw [HTM.out]; rfl, HBC⟩
        clear cbx dbx fbx gbx cby2 dby2 fby2 gby2 cb7 fb7 cb10 fb10
        obtain ⟨rfl, hcb⟩ := hcut
        rename World => v4
        replace HNbx := Lib.hid (blk_below HNbx.out hcb.out)
        replace HNby2 := Lib.hid (blk_below HNby2.out hcb.out)
        replace HNb7 := Lib.hid (blk_below HNb7.out hcb.out)
        replace HNb10 := Lib.hid (blk_below HNb10.out hcb.out)
        replace HB := Lib.hid (HB.out.trans (hcb.out.mono HB.out.size))
        clear hcb
        go_upto_region 15 with (fail)
        go_cut [12, 93] (fun v u wc => v = .bool one ∧ u = .bool false ∧ Hid (Below v4.heap.size v4 wc))
        case first =>
          cases one
          · have KEEP := Lib.hid (show ∀ wx, Below v4.heap.size v4 wx → wx.cell? ⟨bx, 0, none⟩ = some (.bool p) ∧ wx.cell? ⟨bx, 1, none⟩ = some (.int .i64 q) ∧ wx.cell? ⟨by2, 0, none⟩ = some (.bool p2) ∧ wx.cell? ⟨by2, 1, none⟩ = some (.int .i64 q2) ∧ wx.cell? ⟨b7, 0, none⟩ = some (.int .u16 (m : Nat)) ∧ wx.cell? ⟨b10, 0, none⟩ = some (.int .u16 (a : Nat)) from fun wx hx => ⟨(two_cells (blk_below HNbx.out hx)).1, (two_cells (blk_below HNbx.out hx)).2.1, (two_cells (blk_below HNby2.out hx)).1, (two_cells (blk_below HNby2.out hx)).2.1, (one_cell (blk_below HNb7.out hx)).1, (one_cell (blk_below HNb10.out hx)).1⟩)
            go_upto_region 15 with (fail)
            refine wp_region_held_drew (S := (fun wx => wx.cell? ⟨bx, 0, none⟩ = some (.bool p) ∧ wx.cell? ⟨bx, 1, none⟩ = some (.int .i64 q) ∧ wx.cell? ⟨by2, 0, none⟩ = some (.bool p2) ∧ wx.cell? ⟨by2, 1, none⟩ = some (.int .i64 q2) ∧ wx.cell? ⟨b7, 0, none⟩ = some (.int .u16 (m : Nat)) ∧ wx.cell? ⟨b10, 0, none⟩ = some (.int .u16 (a : Nat)))) (by kernel_rfl) (KEEP.out _ ((Below.refl _ _).drew)) (fun hHeld => ?_)
            obtain ⟨z15, hz15⟩ : ∃ X, X = v4.drew := ⟨_, rfl⟩
            have HX := Lib.hid (show Below v4.heap.size v4 z15 by rw [hz15]; exact (Below.refl _ _).drew)
            replace hHeld := KEEP.out _ HX.out
            rw [← hz15]
            clear hz15
            refine tk 0 rfl (fun w hSw => by (try dsimp only at hSw); go_simp; try with_reducible rfl) ?_
            go_frame
            refine tk 1 rfl (fun w hSw => by (try dsimp only at hSw); go_simp; try with_reducible rfl) ?_
            go_frame
            refine tk 3 rfl (fun w hSw => by (try dsimp only at hSw); go_simp; try with_reducible rfl) ?_
            go_frame
            refine do_at (i := 2) rfl (by kernel_rfl) (by kernel_rfl) (fun K hK => ?_)
            go_simp
            refine (HISX.out _).mono ?_
            rintro e x1 ⟨rfl, bb⟩
            replace HX := Lib.hid (HX.out.trans (bb.mono HX.out.size))
            clear bb
            go_wp2_with fail
            refine hK.out _ _ (KEEP.out _ HX.out) (fun hHeld => ?_)
            clear hK K
            try go_frame
            refine tk 4 rfl (fun w hSw => by (try dsimp only at hSw); go_simp; try with_reducible rfl) ?_
            go_frame
            refine tk 5 rfl (fun w hSw => by (try dsimp only at hSw); go_simp; try with_reducible rfl) ?_
            go_frame
            refine tk 6 rfl (fun w hSw => by (try dsimp only at hSw); go_simp; try with_reducible rfl) ?_
            go_frame
            refine tk 7 rfl (fun w hSw => by (try dsimp only at hSw); go_simp; try with_reducible rfl) ?_
            go_frame
            refine sk 8 rfl ?_
            go_frame
            refine sk 9 rfl ?_
            go_frame
            refine sk 10 rfl ?_
            go_frame
            refine sk 11 rfl ?_
            go_frame
            refine sk 12 rfl ?_
            go_frame
            refine tk 13 rfl (fun w hSw => by (try dsimp only at hSw); go_simp; try with_reducible rfl) ?_
            go_frame
            refine tk 14 rfl (fun w hSw => by (try dsimp only at hSw); go_simp; try with_reducible rfl) ?_
            go_frame
            refine tk 15 rfl (fun w hSw => by (try dsimp only at hSw); go_simp; try with_reducible rfl) ?_
            go_frame
            refine tk 16 rfl (fun w hSw => by (try dsimp only at hSw); go_simp; try with_reducible rfl) ?_
            go_frame
            refine tk 17 rfl (fun w hSw => by (try dsimp only at hSw); go_simp; try with_reducible rfl) ?_
            go_frame
            refine tk 18 rfl (fun w hSw => by (try dsimp only at hSw); go_simp; try with_reducible rfl) ?_
            go_frame
            refine tk 19 rfl (fun w hSw => by (try dsimp only at hSw); go_simp; try with_reducible rfl) ?_
            go_frame
            refine tk 20 rfl (fun w hSw => by (try dsimp only at hSw); go_simp; try with_reducible rfl) ?_
            go_frame
            refine tk 22 rfl (fun w hSw => by (try dsimp only at hSw); go_simp; try with_reducible rfl) ?_
            go_frame
            refine tk 23 rfl (fun w hSw => by (try dsimp only at hSw); go_simp; try with_reducible rfl) ?_
            go_frame
            refine do_at (i := 21) rfl (by kernel_rfl) (by kernel_rfl) (fun K hK => ?_)
            go_simp
            refine (HSTY.out (by first | trivial | rfl) _).mono ?_
            rintro e x2 ⟨rfl, bb⟩
            replace HX := Lib.hid (HX.out.trans (bb.mono HX.out.size))
            clear bb
            go_wp2_with fail
            refine hK.out _ _ (KEEP.out _ HX.out) (fun hHeld => ?_)
            clear hK K
            try go_frame
            refine do_at (i := 24) rfl (by kernel_rfl) (by kernel_rfl) (fun K hK => ?_)
            go_simp
            refine (HSTM.out _).mono ?_
            rintro e x3 ⟨rfl, bb⟩
            replace HX := Lib.hid (HX.out.trans (bb.mono HX.out.size))
            clear bb
            go_wp2_with fail
            refine hK.out _ _ (KEEP.out _ HX.out) (fun hHeld => ?_)
            clear hK K
            try go_frame
            refine tk 25 rfl (fun w hSw => by (try dsimp only at hSw); go_simp; try with_reducible rfl) ?_
            go_frame
            refine tk 26 rfl (fun w hSw => by (try dsimp only at hSw); go_simp; try with_reducible rfl) ?_
            go_frame
            refine tk 27 rfl (fun w hSw => by (try dsimp only at hSw); go_simp; try with_reducible rfl) ?_
            go_frame
            refine wpAnyH_done (by kernel_rfl) ?_ _
            clear hHeld KEEP
            go_wp2
            go_meet
            case rel => exact ⟨rfl, rfl, HX⟩
          · have KEEP := Lib.hid (show ∀ wx, Below v4.heap.size v4 wx → wx.cell? ⟨bx, 0, none⟩ = some (.bool p) ∧ wx.cell? ⟨bx, 1, none⟩ = some (.int .i64 q) ∧ wx.cell? ⟨by2, 0, none⟩ = some (.bool p2) ∧ wx.cell? ⟨by2, 1, none⟩ = some (.int .i64 q2) ∧ wx.cell? ⟨b7, 0, none⟩ = some (.int .u16 (m : Nat)) ∧ wx.cell? ⟨b10, 0, none⟩ = some (.int .u16 (a : Nat)) from fun wx hx => ⟨(two_cells (blk_below HNbx.out hx)).1, (two_cells (blk_below HNbx.out hx)).2.1, (two_cells (blk_below HNby2.out hx)).1, (two_cells (blk_below HNby2.out hx)).2.1, (one_cell (blk_below HNb7.out hx)).1, (one_cell (blk_below HNb10.out hx)).1⟩)
            go_upto_region 15 with (fail)
            refine wp_region_held_drew (S := (fun wx => wx.cell? ⟨bx, 0, none⟩ = some (.bool p) ∧ wx.cell? ⟨bx, 1, none⟩ = some (.int .i64 q) ∧ wx.cell? ⟨by2, 0, none⟩ = some (.bool p2) ∧ wx.cell? ⟨by2, 1, none⟩ = some (.int .i64 q2) ∧ wx.cell? ⟨b7, 0, none⟩ = some (.int .u16 (m : Nat)) ∧ wx.cell? ⟨b10, 0, none⟩ = some (.int .u16 (a : Nat)))) (by kernel_rfl) (KEEP.out _ ((Below.refl _ _).drew)) (fun hHeld => ?_)
            obtain ⟨z15, hz15⟩ : ∃ X, X = v4.drew := ⟨_, rfl⟩
            have HX := Lib.hid (show Below v4.heap.size v4 z15 by rw [hz15]; exact (Below.refl _ _).drew)
            replace hHeld := KEEP.out _ HX.out
            rw [← hz15]
            clear hz15
            refine tk 0 rfl (fun w hSw => by (try dsimp only at hSw); go_simp; try with_reducible rfl) ?_
            go_frame
            refine tk 1 rfl (fun w hSw => by (try dsimp only at hSw); go_simp; try with_reducible rfl) ?_
            go_frame
            refine tk 3 rfl (fun w hSw => by (try dsimp only at hSw); go_simp; try with_reducible rfl) ?_
            go_frame
            refine do_at (i := 2) rfl (by kernel_rfl) (by kernel_rfl) (fun K hK => ?_)
            go_simp
            refine (HISX.out _).mono ?_
            rintro e x1 ⟨rfl, bb⟩
            replace HX := Lib.hid (HX.out.trans (bb.mono HX.out.size))
            clear bb
            go_wp2_with fail
            refine hK.out _ _ (KEEP.out _ HX.out) (fun hHeld => ?_)
            clear hK K
            try go_frame
            refine tk 4 rfl (fun w hSw => by (try dsimp only at hSw); go_simp; try with_reducible rfl) ?_
            go_frame
            refine tk 5 rfl (fun w hSw => by (try dsimp only at hSw); go_simp; try with_reducible rfl) ?_
            go_frame
            refine tk 6 rfl (fun w hSw => by (try dsimp only at hSw); go_simp; try with_reducible rfl) ?_
            go_frame
            refine tk 7 rfl (fun w hSw => by (try dsimp only at hSw); go_simp; try with_reducible rfl) ?_
            go_frame
            refine tk 8 rfl (fun w hSw => by (try dsimp only at hSw); go_simp; try with_reducible rfl) ?_
            go_frame
            refine tk 9 rfl (fun w hSw => by (try dsimp only at hSw); go_simp; try with_reducible rfl) ?_
            go_frame
            refine tk 11 rfl (fun w hSw => by (try dsimp only at hSw); go_simp; try with_reducible rfl) ?_
            go_frame
            refine do_at (i := 10) rfl (by kernel_rfl) (by kernel_rfl) (fun K hK => ?_)
            go_simp
            refine (HISY.out (by first | trivial | rfl) _).mono ?_
            rintro e x2 ⟨rfl, bb⟩
            replace HX := Lib.hid (HX.out.trans (bb.mono HX.out.size))
            clear bb
            go_wp2_with fail
            refine hK.out _ _ (KEEP.out _ HX.out) (fun hHeld => ?_)
            clear hK K
            try go_frame
            refine tk 12 rfl (fun w hSw => by (try dsimp only at hSw); go_simp; try with_reducible rfl) ?_
            go_frame
            refine tk 13 rfl (fun w hSw => by (try dsimp only at hSw); go_simp; try with_reducible rfl) ?_
            go_frame
            refine tk 14 rfl (fun w hSw => by (try dsimp only at hSw); go_simp; try with_reducible rfl) ?_
            go_frame
            refine tk 15 rfl (fun w hSw => by (try dsimp only at hSw); go_simp; try with_reducible rfl) ?_
            go_frame
            refine tk 16 rfl (fun w hSw => by (try dsimp only at hSw); go_simp; try with_reducible rfl) ?_
            go_frame
            refine tk 17 rfl (fun w hSw => by (try dsimp only at hSw); go_simp; try with_reducible rfl) ?_
            go_frame
            refine tk 18 rfl (fun w hSw => by (try dsimp only at hSw); go_simp; try with_reducible rfl) ?_
            go_frame
            refine sk 19 rfl ?_
            go_frame
            refine sk 20 rfl ?_
            go_frame
            refine sk 21 rfl ?_
            go_frame
            refine sk 22 rfl ?_
            go_frame
            refine sk 23 rfl ?_
            go_frame
            refine sk 24 rfl ?_
            go_frame
            refine sk 25 rfl ?_
            go_frame
            refine tk 26 rfl (fun w hSw => by (try dsimp only at hSw); go_simp; try with_reducible rfl) ?_
            go_frame
            refine tk 27 rfl (fun w hSw => by (try dsimp only at hSw); go_simp; try with_reducible rfl) ?_
            go_frame
            refine wpAnyH_done (by kernel_rfl) ?_ _
            clear hHeld KEEP
            go_wp2
            go_meet
            case rel => exact ⟨rfl, rfl, HX⟩
        obtain ⟨rfl, rfl, hcb⟩ := hcut
        rename World => v5
        replace HNbx := Lib.hid (blk_below HNbx.out hcb.out)
        replace HNby2 := Lib.hid (blk_below HNby2.out hcb.out)
        replace HNb7 := Lib.hid (blk_below HNb7.out hcb.out)
        replace HNb10 := Lib.hid (blk_below HNb10.out hcb.out)
        replace HB := Lib.hid (HB.out.trans (hcb.out.mono HB.out.size))
        clear hcb
        have cbx := (two_cells HNbx.out).1
        have dbx := (two_cells HNbx.out).2.1
        have fbx := (two_cells HNbx.out).2.2.1
        have gbx := (two_cells HNbx.out).2.2.2
        have cby2 := (two_cells HNby2.out).1
        have dby2 := (two_cells HNby2.out).2.1
        have fby2 := (two_cells HNby2.out).2.2.1
        have gby2 := (two_cells HNby2.out).2.2.2
        have cb7 := (one_cell HNb7.out).1
        have fb7 := (one_cell HNb7.out).2
        have cb10 := (one_cell HNb10.out).1
        have fb10 := (one_cell HNb10.out).2
        go_wp2_with fail
        refine (put_c (s := a) (r := a) (k := 1) (K := 1) (on) _ [(p, q)] rfl rfl rfl HALT.out.1 HP2.out _ (lit_in v5 [(p, q)] 24 (by simp) _ rfl) (HWX.out [(p, q)] (by simp)) (by simp)).mono ?_
        rintro e v6 ⟨rfl, bb⟩
        replace bb := below_al (Below.refl _ _) _ bb
        replace HNbx := Lib.hid (blk_below HNbx.out bb)
        replace HNby2 := Lib.hid (blk_below HNby2.out bb)
        replace HNb7 := Lib.hid (blk_below HNb7.out bb)
        replace HNb10 := Lib.hid (blk_below HNb10.out bb)
        replace HB := Lib.hid (HB.out.trans (bb.mono HB.out.size))
        clear bb
        clear cbx dbx fbx gbx cby2 dby2 fby2 gby2 cb7 fb7 cb10 fb10
        obtain ⟨b13, hb13⟩ : ∃ b, b = v6.heap.size := ⟨_, rfl⟩
        obtain ⟨v7, hv7⟩ : ∃ x, x = v6.alloc (.cells #[.int .u16 (a : Nat)] 27) := ⟨_, rfl⟩
        have HBo := Lib.hid HB.out.size
        have kk : Below v6.heap.size v6 v7 := by rw [hv7]; exact (Below.refl _ _).alloc (Nat.le_refl _) _
        replace HNbx := Lib.hid (blk_below HNbx.out kk)
        replace HNby2 := Lib.hid (blk_below HNby2.out kk)
        replace HNb7 := Lib.hid (blk_below HNb7.out kk)
        replace HNb10 := Lib.hid (blk_below HNb10.out kk)
        replace HB := Lib.hid (HB.out.trans (kk.mono HB.out.size))
        have HNb13 := Lib.hid (show v7.heap[b13]? = some (.cells #[.int .u16 (a : Nat)] 27 (0, 0)) by rw [hv7, hb13]; exact World.alloc_heap_new _ _)
        have HLb13 := Lib.hid (show wr.heap.size ≤ b13 by rw [hb13]; exact HBo.out)
        go_upto_region 18 with (fail)
        rw [← hv7, ← hb13]
        clear hv7 hb13 kk HBo
        have cbx := (two_cells HNbx.out).1
        have dbx := (two_cells HNbx.out).2.1
        have fbx := (two_cells HNbx.out).2.2.1
        have gbx := (two_cells HNbx.out).2.2.2
        have cby2 := (two_cells HNby2.out).1
        have dby2 := (two_cells HNby2.out).2.1
        have fby2 := (two_cells HNby2.out).2.2.1
        have gby2 := (two_cells HNby2.out).2.2.2
        have cb7 := (one_cell HNb7.out).1
        have fb7 := (one_cell HNb7.out).2
        have cb10 := (one_cell HNb10.out).1
        have fb10 := (one_cell HNb10.out).2
        have cb13 := (one_cell HNb13.out).1
        have fb13 := (one_cell HNb13.out).2
        go_wp2_with fail
        refine (put_c (s := m) (r := c) (k := 1) (K := 1) (!on) _ [(p, q)] rfl rfl rfl HML.out HP3.out _ (lit_in v7 [(p, q)] 24 (by simp) _ rfl) (HWX.out [(p, q)] (by simp)) (by simp)).mono ?_
        rintro e v8 ⟨rfl, bb⟩
        replace bb := below_al (Below.refl _ _) _ bb
        replace HNbx := Lib.hid (blk_below HNbx.out bb)
        replace HNby2 := Lib.hid (blk_below HNby2.out bb)
        replace HNb7 := Lib.hid (blk_below HNb7.out bb)
        replace HNb10 := Lib.hid (blk_below HNb10.out bb)
        replace HNb13 := Lib.hid (blk_below HNb13.out bb)
        replace HB := Lib.hid (HB.out.trans (bb.mono HB.out.size))
        clear bb
        clear cbx dbx fbx gbx cby2 dby2 fby2 gby2 cb7 fb7 cb10 fb10 cb13 fb13
        obtain ⟨b15, hb15⟩ : ∃ b, b = v8.heap.size := ⟨_, rfl⟩
        have HNEQ := Lib.hid (show b15 ≠ bx ∧ b15 ≠ by2 ∧ b15 ≠ b7 ∧ b15 ≠ b10 ∧ b15 ≠ b13 by rw [hb15]; exact ⟨(show v8.heap.size ≠ bx from fun e => by have := (Array.getElem?_eq_some_iff.1 HNbx.out).1; omega), (show v8.heap.size ≠ by2 from fun e => by have := (Array.getElem?_eq_some_iff.1 HNby2.out).1; omega), (show v8.heap.size ≠ b7 from fun e => by have := (Array.getElem?_eq_some_iff.1 HNb7.out).1; omega), (show v8.heap.size ≠ b10 from fun e => by have := (Array.getElem?_eq_some_iff.1 HNb10.out).1; omega), (show v8.heap.size ≠ b13 from fun e => by have := (Array.getElem?_eq_some_iff.1 HNb13.out).1; omega)⟩)
        obtain ⟨v9, hv9⟩ : ∃ x, x = v8.alloc (.cells #[.int .u16 (c : Nat)] 27) := ⟨_, rfl⟩
        have HBo := Lib.hid HB.out.size
        have kk : Below v8.heap.size v8 v9 := by rw [hv9]; exact (Below.refl _ _).alloc (Nat.le_refl _) _
        replace HNbx := Lib.hid (blk_below HNbx.out kk)
        replace HNby2 := Lib.hid (blk_below HNby2.out kk)
        replace HNb7 := Lib.hid (blk_below HNb7.out kk)
        replace HNb10 := Lib.hid (blk_below HNb10.out kk)
        replace HNb13 := Lib.hid (blk_below HNb13.out kk)
        replace HB := Lib.hid (HB.out.trans (kk.mono HB.out.size))
        have HNb15 := Lib.hid (show v9.heap[b15]? = some (.cells #[.int .u16 (c : Nat)] 27 (0, 0)) by rw [hv9, hb15]; exact World.alloc_heap_new _ _)
        have HLb15 := Lib.hid (show wr.heap.size ≤ b15 by rw [hb15]; exact HBo.out)
        go_upto_region 19 with (fail)
        rw [← hv9, ← hb15]
        clear hv9 hb15 kk HBo
        have cbx := (two_cells HNbx.out).1
        have dbx := (two_cells HNbx.out).2.1
        have fbx := (two_cells HNbx.out).2.2.1
        have gbx := (two_cells HNbx.out).2.2.2
        have cby2 := (two_cells HNby2.out).1
        have dby2 := (two_cells HNby2.out).2.1
        have fby2 := (two_cells HNby2.out).2.2.1
        have gby2 := (two_cells HNby2.out).2.2.2
        have cb7 := (one_cell HNb7.out).1
        have fb7 := (one_cell HNb7.out).2
        have cb10 := (one_cell HNb10.out).1
        have fb10 := (one_cell HNb10.out).2
        have cb13 := (one_cell HNb13.out).1
        have fb13 := (one_cell HNb13.out).2
        have cb15 := (one_cell HNb15.out).1
        have fb15 := (one_cell HNb15.out).2
        go_wp2_with fail
        refine (put_c (s := c) (r := a) (k := 1) (K := 1) (on) _ [(p, q)] rfl rfl rfl HALT.out.2.1 HP4.out _ (lit_in v9 [(p, q)] 24 (by simp) _ rfl) (HWX.out [(p, q)] (by simp)) (by simp)).mono ?_
        rintro e v10 ⟨rfl, bb⟩
        replace bb := below_al (Below.refl _ _) _ bb
        replace HNbx := Lib.hid (blk_below HNbx.out bb)
        replace HNby2 := Lib.hid (blk_below HNby2.out bb)
        replace HNb7 := Lib.hid (blk_below HNb7.out bb)
        replace HNb10 := Lib.hid (blk_below HNb10.out bb)
        replace HNb13 := Lib.hid (blk_below HNb13.out bb)
        replace HNb15 := Lib.hid (blk_below HNb15.out bb)
        replace HB := Lib.hid (HB.out.trans (bb.mono HB.out.size))
        clear bb
        clear cbx dbx fbx gbx cby2 dby2 fby2 gby2 cb7 fb7 cb10 fb10 cb13 fb13 cb15 fb15
        have cbx := (two_cells HNbx.out).1
        have dbx := (two_cells HNbx.out).2.1
        have fbx := (two_cells HNbx.out).2.2.1
        have gbx := (two_cells HNbx.out).2.2.2
        have cby2 := (two_cells HNby2.out).1
        have dby2 := (two_cells HNby2.out).2.1
        have fby2 := (two_cells HNby2.out).2.2.1
        have gby2 := (two_cells HNby2.out).2.2.2
        have cb7 := (one_cell HNb7.out).1
        have fb7 := (one_cell HNb7.out).2
        have cb10 := (one_cell HNb10.out).1
        have fb10 := (one_cell HNb10.out).2
        have cb13 := (one_cell HNb13.out).1
        have fb13 := (one_cell HNb13.out).2
        have cb15 := (one_cell HNb15.out).1
        have fb15 := (one_cell HNb15.out).2
        obtain ⟨v11, hv11⟩ : ∃ x, x = v10.setCell ⟨b15, 0, none⟩ (.int .u16 (a : Nat)) := ⟨_, rfl⟩
        have kbt : But b15 v10 v11 := by rw [hv11]; exact But.set v10 b15 0 _
        have HNy := Lib.hid (show v11.heap[b15]? = some (.cells #[.int .u16 (a : Nat)] 27 (0, 0)) by rw [hv11]; exact one_setCell HNb15.out)
        have HNE15 := Lib.hid (show b15 ≠ bx ∧ b15 ≠ by2 ∧ b15 ≠ b7 ∧ b15 ≠ b10 ∧ b15 ≠ b13 from HNEQ.out)
        go_upto_region 20 with (fail)
        rw [← hv11]
        clear cbx dbx fbx gbx cby2 dby2 fby2 gby2 cb7 fb7 cb10 fb10 cb13 fb13 cb15 fb15
        have HNb15 := HNy
        clear HNy
        replace HNbx := Lib.hid ((kbt.block bx (Array.getElem?_eq_some_iff.1 HNbx.out).1 (by have := HNE15.out; simp; omega)).trans HNbx.out)
        replace HNby2 := Lib.hid ((kbt.block by2 (Array.getElem?_eq_some_iff.1 HNby2.out).1 (by have := HNE15.out; simp; omega)).trans HNby2.out)
        replace HNb7 := Lib.hid ((kbt.block b7 (Array.getElem?_eq_some_iff.1 HNb7.out).1 (by have := HNE15.out; simp; omega)).trans HNb7.out)
        replace HNb10 := Lib.hid ((kbt.block b10 (Array.getElem?_eq_some_iff.1 HNb10.out).1 (by have := HNE15.out; simp; omega)).trans HNb10.out)
        replace HNb13 := Lib.hid ((kbt.block b13 (Array.getElem?_eq_some_iff.1 HNb13.out).1 (by have := HNE15.out; simp; omega)).trans HNb13.out)
        replace HB := Lib.hid (HB.out.trans (kbt.below HLb15.out HB.out.size))
        clear hv11 kbt
        have cbx := (two_cells HNbx.out).1
        have dbx := (two_cells HNbx.out).2.1
        have fbx := (two_cells HNbx.out).2.2.1
        have gbx := (two_cells HNbx.out).2.2.2
        have cby2 := (two_cells HNby2.out).1
        have dby2 := (two_cells HNby2.out).2.1
        have fby2 := (two_cells HNby2.out).2.2.1
        have gby2 := (two_cells HNby2.out).2.2.2
        have cb7 := (one_cell HNb7.out).1
        have fb7 := (one_cell HNb7.out).2
        have cb10 := (one_cell HNb10.out).1
        have fb10 := (one_cell HNb10.out).2
        have cb13 := (one_cell HNb13.out).1
        have fb13 := (one_cell HNb13.out).2
        have cb15 := (one_cell HNb15.out).1
        have fb15 := (one_cell HNb15.out).2
        go_wp2_with fail
        refine (put_c (s := m) (r := bo) (k := kk) (K := K) (on) _ [(p, q), (p2, q2)] rfl rfl HK.out HML.out HP5.out _ (lit_in v11 [(p, q), (p2, q2)] 24 (by simp) _ rfl) (HWX.out [(p, q), (p2, q2)] (by simp)) (by simp)).mono ?_
        rintro e v12 ⟨rfl, bb⟩
        replace bb := below_al (Below.refl _ _) _ bb
        replace HNbx := Lib.hid (blk_below HNbx.out bb)
        replace HNby2 := Lib.hid (blk_below HNby2.out bb)
        replace HNb7 := Lib.hid (blk_below HNb7.out bb)
        replace HNb10 := Lib.hid (blk_below HNb10.out bb)
        replace HNb13 := Lib.hid (blk_below HNb13.out bb)
        replace HNb15 := Lib.hid (blk_below HNb15.out bb)
        replace HB := Lib.hid (HB.out.trans (bb.mono HB.out.size))
        clear bb
        clear cbx dbx fbx gbx cby2 dby2 fby2 gby2 cb7 fb7 cb10 fb10 cb13 fb13 cb15 fb15
        obtain ⟨b17, hb17⟩ : ∃ b, b = v12.heap.size := ⟨_, rfl⟩
        obtain ⟨v13, hv13⟩ : ∃ x, x = v12.alloc (.cells #[.int .u16 (bo : Nat)] 27) := ⟨_, rfl⟩
        have HBo := Lib.hid HB.out.size
        have kk : Below v12.heap.size v12 v13 := by rw [hv13]; exact (Below.refl _ _).alloc (Nat.le_refl _) _
        replace HNbx := Lib.hid (blk_below HNbx.out kk)
        replace HNby2 := Lib.hid (blk_below HNby2.out kk)
        replace HNb7 := Lib.hid (blk_below HNb7.out kk)
        replace HNb10 := Lib.hid (blk_below HNb10.out kk)
        replace HNb13 := Lib.hid (blk_below HNb13.out kk)
        replace HNb15 := Lib.hid (blk_below HNb15.out kk)
        replace HB := Lib.hid (HB.out.trans (kk.mono HB.out.size))
        have HNb17 := Lib.hid (show v13.heap[b17]? = some (.cells #[.int .u16 (bo : Nat)] 27 (0, 0)) by rw [hv13, hb17]; exact World.alloc_heap_new _ _)
        have HLb17 := Lib.hid (show wr.heap.size ≤ b17 by rw [hb17]; exact HBo.out)
        go_upto_region 21 with (fail)
        rw [← hv13, ← hb17]
        clear hv13 hb17 kk HBo
        have cbx := (two_cells HNbx.out).1
        have dbx := (two_cells HNbx.out).2.1
        have fbx := (two_cells HNbx.out).2.2.1
        have gbx := (two_cells HNbx.out).2.2.2
        have cby2 := (two_cells HNby2.out).1
        have dby2 := (two_cells HNby2.out).2.1
        have fby2 := (two_cells HNby2.out).2.2.1
        have gby2 := (two_cells HNby2.out).2.2.2
        have cb7 := (one_cell HNb7.out).1
        have fb7 := (one_cell HNb7.out).2
        have cb10 := (one_cell HNb10.out).1
        have fb10 := (one_cell HNb10.out).2
        have cb13 := (one_cell HNb13.out).1
        have fb13 := (one_cell HNb13.out).2
        have cb15 := (one_cell HNb15.out).1
        have fb15 := (one_cell HNb15.out).2
        have cb17 := (one_cell HNb17.out).1
        have fb17 := (one_cell HNb17.out).2
        go_wp2_with fail
        refine (put_c (s := a) (r := bo) (k := k1) (K := (k1 : Nat)) (on) _ [(p2, q2)] rfl rfl rfl HALT.out.1 HP6.out _ (lit_in v13 [(p2, q2)] 24 (by simp) _ rfl) (HWX.out [(p2, q2)] (by simp)) (by simp)).mono ?_
        rintro e v14 ⟨rfl, bb⟩
        replace bb := below_al (Below.refl _ _) _ bb
        replace HNbx := Lib.hid (blk_below HNbx.out bb)
        replace HNby2 := Lib.hid (blk_below HNby2.out bb)
        replace HNb7 := Lib.hid (blk_below HNb7.out bb)
        replace HNb10 := Lib.hid (blk_below HNb10.out bb)
        replace HNb13 := Lib.hid (blk_below HNb13.out bb)
        replace HNb15 := Lib.hid (blk_below HNb15.out bb)
        replace HNb17 := Lib.hid (blk_below HNb17.out bb)
        replace HB := Lib.hid (HB.out.trans (bb.mono HB.out.size))
        clear bb
        clear cbx dbx fbx gbx cby2 dby2 fby2 gby2 cb7 fb7 cb10 fb10 cb13 fb13 cb15 fb15 cb17 fb17
        obtain ⟨b19, hb19⟩ : ∃ b, b = v14.heap.size := ⟨_, rfl⟩
        obtain ⟨v15, hv15⟩ : ∃ x, x = v14.alloc (.cells #[.int .u16 (bo : Nat)] 27) := ⟨_, rfl⟩
        have HBo := Lib.hid HB.out.size
        have kk : Below v14.heap.size v14 v15 := by rw [hv15]; exact (Below.refl _ _).alloc (Nat.le_refl _) _
        replace HNbx := Lib.hid (blk_below HNbx.out kk)
        replace HNby2 := Lib.hid (blk_below HNby2.out kk)
        replace HNb7 := Lib.hid (blk_below HNb7.out kk)
        replace HNb10 := Lib.hid (blk_below HNb10.out kk)
        replace HNb13 := Lib.hid (blk_below HNb13.out kk)
        replace HNb15 := Lib.hid (blk_below HNb15.out kk)
        replace HNb17 := Lib.hid (blk_below HNb17.out kk)
        replace HB := Lib.hid (HB.out.trans (kk.mono HB.out.size))
        have HNb19 := Lib.hid (show v15.heap[b19]? = some (.cells #[.int .u16 (bo : Nat)] 27 (0, 0)) by rw [hv15, hb19]; exact World.alloc_heap_new _ _)
        have HLb19 := Lib.hid (show wr.heap.size ≤ b19 by rw [hb19]; exact HBo.out)
        go_upto_region 22 with (fail)
        rw [← hv15, ← hb19]
        clear hv15 hb19 kk HBo
        have t1 : ¬ K < 1 := by have := HKR.out; omega
        have t2 : decide (K < 1) = false := decide_eq_false t1
        have t3 : ¬ 2 < K := by have := HKR.out; omega
        have t4 : decide (2 < K) = false := decide_eq_false t3
        have t5 : decide (K > 2) = false := decide_eq_false t3
        cases on
        · have hz : zz = false := HZZ.out
          subst hz
          have cbx := (two_cells HNbx.out).1
          have dbx := (two_cells HNbx.out).2.1
          have fbx := (two_cells HNbx.out).2.2.1
          have gbx := (two_cells HNbx.out).2.2.2
          have cby2 := (two_cells HNby2.out).1
          have dby2 := (two_cells HNby2.out).2.1
          have fby2 := (two_cells HNby2.out).2.2.1
          have gby2 := (two_cells HNby2.out).2.2.2
          have cb7 := (one_cell HNb7.out).1
          have fb7 := (one_cell HNb7.out).2
          have cb10 := (one_cell HNb10.out).1
          have fb10 := (one_cell HNb10.out).2
          have cb13 := (one_cell HNb13.out).1
          have fb13 := (one_cell HNb13.out).2
          have cb15 := (one_cell HNb15.out).1
          have fb15 := (one_cell HNb15.out).2
          have cb17 := (one_cell HNb17.out).1
          have fb17 := (one_cell HNb17.out).2
          have cb19 := (one_cell HNb19.out).1
          have fb19 := (one_cell HNb19.out).2
          go_wp2_with fail
          refine (HISB.out _).mono ?_
          rintro e v16 ⟨rfl, bb⟩
          replace HNbx := Lib.hid (blk_below HNbx.out bb)
          replace HNby2 := Lib.hid (blk_below HNby2.out bb)
          replace HNb7 := Lib.hid (blk_below HNb7.out bb)
          replace HNb10 := Lib.hid (blk_below HNb10.out bb)
          replace HNb13 := Lib.hid (blk_below HNb13.out bb)
          replace HNb15 := Lib.hid (blk_below HNb15.out bb)
          replace HNb17 := Lib.hid (blk_below HNb17.out bb)
          replace HNb19 := Lib.hid (blk_below HNb19.out bb)
          replace HB := Lib.hid (HB.out.trans (bb.mono HB.out.size))
          clear bb
          clear cbx dbx fbx gbx cby2 dby2 fby2 gby2 cb7 fb7 cb10 fb10 cb13 fb13 cb15 fb15 cb17 fb17 cb19 fb19
          have cbx := (two_cells HNbx.out).1
          have dbx := (two_cells HNbx.out).2.1
          have fbx := (two_cells HNbx.out).2.2.1
          have gbx := (two_cells HNbx.out).2.2.2
          have cby2 := (two_cells HNby2.out).1
          have dby2 := (two_cells HNby2.out).2.1
          have fby2 := (two_cells HNby2.out).2.2.1
          have gby2 := (two_cells HNby2.out).2.2.2
          have cb7 := (one_cell HNb7.out).1
          have fb7 := (one_cell HNb7.out).2
          have cb10 := (one_cell HNb10.out).1
          have fb10 := (one_cell HNb10.out).2
          have cb13 := (one_cell HNb13.out).1
          have fb13 := (one_cell HNb13.out).2
          have cb15 := (one_cell HNb15.out).1
          have fb15 := (one_cell HNb15.out).2
          have cb17 := (one_cell HNb17.out).1
          have fb17 := (one_cell HNb17.out).2
          have cb19 := (one_cell HNb19.out).1
          have fb19 := (one_cell HNb19.out).2
          go_wp2
          go_roundw
          case rel => exact ⟨i + 1, by go_num, Lib.hid HI1.out, Lib.hid (HY.out.trans (HB.out.mono HY.out.size))⟩
          case measure => simp only [intOf]; have := HI.out; omega
        · have hz : zz = ky := HZZ.out
          subst hz
          have cbx := (two_cells HNbx.out).1
          have dbx := (two_cells HNbx.out).2.1
          have fbx := (two_cells HNbx.out).2.2.1
          have gbx := (two_cells HNbx.out).2.2.2
          have cby2 := (two_cells HNby2.out).1
          have dby2 := (two_cells HNby2.out).2.1
          have fby2 := (two_cells HNby2.out).2.2.1
          have gby2 := (two_cells HNby2.out).2.2.2
          have cb7 := (one_cell HNb7.out).1
          have fb7 := (one_cell HNb7.out).2
          have cb10 := (one_cell HNb10.out).1
          have fb10 := (one_cell HNb10.out).2
          have cb13 := (one_cell HNb13.out).1
          have fb13 := (one_cell HNb13.out).2
          have cb15 := (one_cell HNb15.out).1
          have fb15 := (one_cell HNb15.out).2
          have cb17 := (one_cell HNb17.out).1
          have fb17 := (one_cell HNb17.out).2
          have cb19 := (one_cell HNb19.out).1
          have fb19 := (one_cell HNb19.out).2
          go_wp2_with fail
          refine (HISB.out _).mono ?_
          rintro e v16 ⟨rfl, bb⟩
          replace HNbx := Lib.hid (blk_below HNbx.out bb)
          replace HNby2 := Lib.hid (blk_below HNby2.out bb)
          replace HNb7 := Lib.hid (blk_below HNb7.out bb)
          replace HNb10 := Lib.hid (blk_below HNb10.out bb)
          replace HNb13 := Lib.hid (blk_below HNb13.out bb)
          replace HNb15 := Lib.hid (blk_below HNb15.out bb)
          replace HNb17 := Lib.hid (blk_below HNb17.out bb)
          replace HNb19 := Lib.hid (blk_below HNb19.out bb)
          replace HB := Lib.hid (HB.out.trans (bb.mono HB.out.size))
          clear bb
          clear cbx dbx fbx gbx cby2 dby2 fby2 gby2 cb7 fb7 cb10 fb10 cb13 fb13 cb15 fb15 cb17 fb17 cb19 fb19
          have cbx := (two_cells HNbx.out).1
          have dbx := (two_cells HNbx.out).2.1
          have fbx := (two_cells HNbx.out).2.2.1
          have gbx := (two_cells HNbx.out).2.2.2
          have cby2 := (two_cells HNby2.out).1
          have dby2 := (two_cells HNby2.out).2.1
          have fby2 := (two_cells HNby2.out).2.2.1
          have gby2 := (two_cells HNby2.out).2.2.2
          have cb7 := (one_cell HNb7.out).1
          have fb7 := (one_cell HNb7.out).2
          have cb10 := (one_cell HNb10.out).1
          have fb10 := (one_cell HNb10.out).2
          have cb13 := (one_cell HNb13.out).1
          have fb13 := (one_cell HNb13.out).2
          have cb15 := (one_cell HNb15.out).1
          have fb15 := (one_cell HNb15.out).2
          have cb17 := (one_cell HNb17.out).1
          have fb17 := (one_cell HNb17.out).2
          have cb19 := (one_cell HNb19.out).1
          have fb19 := (one_cell HNb19.out).2
          go_wp2_with fail
          refine (HKNY.out _).mono ?_
          rintro e v17 ⟨rfl, bb⟩
          replace HNbx := Lib.hid (blk_below HNbx.out bb)
          replace HNby2 := Lib.hid (blk_below HNby2.out bb)
          replace HNb7 := Lib.hid (blk_below HNb7.out bb)
          replace HNb10 := Lib.hid (blk_below HNb10.out bb)
          replace HNb13 := Lib.hid (blk_below HNb13.out bb)
          replace HNb15 := Lib.hid (blk_below HNb15.out bb)
          replace HNb17 := Lib.hid (blk_below HNb17.out bb)
          replace HNb19 := Lib.hid (blk_below HNb19.out bb)
          replace HB := Lib.hid (HB.out.trans (bb.mono HB.out.size))
          clear bb
          clear cbx dbx fbx gbx cby2 dby2 fby2 gby2 cb7 fb7 cb10 fb10 cb13 fb13 cb15 fb15 cb17 fb17 cb19 fb19
          have cbx := (two_cells HNbx.out).1
          have dbx := (two_cells HNbx.out).2.1
          have fbx := (two_cells HNbx.out).2.2.1
          have gbx := (two_cells HNbx.out).2.2.2
          have cby2 := (two_cells HNby2.out).1
          have dby2 := (two_cells HNby2.out).2.1
          have fby2 := (two_cells HNby2.out).2.2.1
          have gby2 := (two_cells HNby2.out).2.2.2
          have cb7 := (one_cell HNb7.out).1
          have fb7 := (one_cell HNb7.out).2
          have cb10 := (one_cell HNb10.out).1
          have fb10 := (one_cell HNb10.out).2
          have cb13 := (one_cell HNb13.out).1
          have fb13 := (one_cell HNb13.out).2
          have cb15 := (one_cell HNb15.out).1
          have fb15 := (one_cell HNb15.out).2
          have cb17 := (one_cell HNb17.out).1
          have fb17 := (one_cell HNb17.out).2
          have cb19 := (one_cell HNb19.out).1
          have fb19 := (one_cell HNb19.out).2
          go_wp2
          go_roundw
          case rel => exact ⟨i + 1, by go_num, Lib.hid HI1.out, Lib.hid (HY.out.trans (HB.out.mono HY.out.size))⟩
          case measure => simp only [intOf]; have := HI.out; omega
    · have hik : ¬ i < 2 := hi
      have hik' : decide (i < 2) = false := decide_eq_false hi
      clear hi
      go_wp2
      go_ret
      exact ⟨rfl, HBS.out.trans (HY.out.mono HBS.out.size)⟩
end Go.Proofs.Ytjdfinimbdcmbaa.Lab
