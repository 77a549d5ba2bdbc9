/- ModeSoft: what a soft reset changes, and nothing else. -/
import Derived.Test.YtjdfinimbdcmbaaMdPlayed
set_option linter.unusedVariables false
namespace Go.Proofs.Ytjdfinimbdcmbaa.Lab
open Go Go.RowKit Go.Shelf

theorem blk_below {w w' : World} {b : Nat} {o : Obj} (h : w.heap[b]? = some o) (k : Below w.heap.size w w') : w'.heap[b]? = some o := (k.block b (Array.getElem?_eq_some_iff.1 h).1).trans h
theorem heap_set2 {w : World} {b : Nat} {u v u' v' : Value} {T : TypeId} (h : w.heap[b]? = some (.cells #[u, v] T (0, 0))) : ((w.setCell ⟨b, 0, none⟩ u').setCell ⟨b, 1, none⟩ v').heap[b]? = some (.cells #[u', v'] T (0, 0)) := by
  have a0 := heap_setCell_same w b 0 _ _ u' h
  have a1 := heap_setCell_same _ b 1 _ _ v' a0
  exact a1
def touchM (x : Mo) : Bool := decide (x = (false, 4)) || (decide (x = (true, 6)) || (decide (x = (true, 7)) || decide (x = (true, 25))))
theorem soft_facts {m : Nat} (h : m < 2048) : isM (softM m) (false, 4) = false ∧ isM (softM m) (true, 6) = false ∧ isM (softM m) (true, 7) = true ∧ isM (softM m) (true, 25) = true ∧ softM (softM m) = softM m := by
  have := under2048 (p := fun m => decide (isM (softM m) (false, 4) = false ∧ isM (softM m) (true, 6) = false ∧ isM (softM m) (true, 7) = true ∧ isM (softM m) (true, 25) = true ∧ softM (softM m) = softM m)) (by decide +kernel) h
  exact of_decide_eq_true this
theorem soft_state {m : Nat} (h : m < 2048) (x : Mo) (ht : touchM x = false) : stateM (softM m) x = stateM m x := by
  cases e : bitM x with
  | none => unfold stateM; rw [e]
  | some j =>
    have hx := findM_some e
    have := under2048 (p := fun m => tabM.all fun e => touchM e.1 || decide (stateM (softM m) e.1 = stateM m e.1)) (by decide +kernel) h
    have h2 := List.all_eq_true.1 this _ hx
    simp only [ht, Bool.false_or] at h2
    exact of_decide_eq_true h2
set_option maxHeartbeats 8000000 in
set_option maxRecDepth 100000 in
theorem soft_core (la : Option Addr) (n lc : Nat) (AL : List Ac) (p : Bool) (n0 : Int) (hw : wfM (p, n0)) (w : World) (h : AcsIn w (.slice la n lc) AL) : Calls Try.prog 6 #[.slice la n lc, .agg #[.bool p, .int .i64 n0]] w fun e w' => e = .returned (.bool true) ∧ Below w.heap.size w w' := by
  have HAC := Lib.hid h
  have HWF := Lib.hid (nearN_wf hw)
  clear h hw
  obtain ⟨q, hq⟩ : ∃ q, q = nearN n0 := ⟨_, rfl⟩
  have HNR := Lib.hid (fun w => near_any p n0 w)
  rw [← hq] at HNR
  have HW := Lib.hid (show wfM (p, q) by rw [hq]; exact HWF.out)
  clear hq HWF
  obtain ⟨m, hm⟩ : ∃ m, m = playS AL := ⟨_, rfl⟩
  have HML := Lib.hid (show m < 2048 by rw [hm]; exact playS_lt AL)
  have HPL := Lib.hid (fun w (h : AcsIn w (.slice la n lc) AL) => played_any la n lc AL w h)
  rw [← hm] at HPL
  clear hm
  obtain ⟨s, hs⟩ : ∃ s, s = softM m := ⟨_, rfl⟩
  have HSL := Lib.hid (show s < 2048 by rw [hs]; exact softM_lt HML.out)
  have HSO := Lib.hid (fun w => soft_any m HML.out w)
  have HSF := Lib.hid (soft_facts HML.out)
  have HST := Lib.hid (fun x ht => soft_state HML.out x ht)
  rw [← hs] at HSO HSF HST
  clear hs
  have HB := Lib.hid (Below.refl w.heap.size w)
  go_enter Try.func6, Try.ntmps6
  obtain ⟨bx, hbx⟩ : ∃ b, b = w.heap.size := ⟨_, rfl⟩
  obtain ⟨w1, hw1⟩ : ∃ x, x = w.alloc (.cells #[.bool p, .int .i64 n0] 24) := ⟨_, rfl⟩
  have HBo := Lib.hid HB.out.size
  have kk : Below w.heap.size w w1 := by rw [hw1]; exact (Below.refl _ _).alloc (Nat.le_refl _) _
  replace HB := Lib.hid (HB.out.trans (kk.mono HB.out.size))
  have HNbx := Lib.hid (show w1.heap[bx]? = some (.cells #[.bool p, .int .i64 n0] 24 (0, 0)) by rw [hw1, hbx]; exact World.alloc_heap_new _ _)
  have HLbx := Lib.hid (show w.heap.size ≤ bx by rw [hbx]; exact HBo.out)
  go_upto_region 1 with (fail)
  rw [← hw1, ← hbx]
  clear hw1 hbx kk HBo
  have cbx := (two_cells HNbx.out).1
  have dbx := (two_cells HNbx.out).2.1
  have fbx := (two_cells HNbx.out).2.2.1
  have gbx := (two_cells HNbx.out).2.2.2
  go_wp2_with fail
  refine (works_any _).mono ?_
  rintro e w2 ⟨rfl, bb⟩
  replace HNbx := Lib.hid (blk_below HNbx.out bb)
  replace HB := Lib.hid (HB.out.trans (bb.mono HB.out.size))
  clear bb
  clear cbx dbx fbx gbx
  have cbx := (two_cells HNbx.out).1
  have dbx := (two_cells HNbx.out).2.1
  have fbx := (two_cells HNbx.out).2.2.1
  have gbx := (two_cells HNbx.out).2.2.2
  go_wp2_with fail
  refine (HPL.out _ (HAC.out.below HB.out)).mono ?_
  rintro e w3 ⟨rfl, bb⟩
  replace HNbx := Lib.hid (blk_below HNbx.out bb)
  replace HB := Lib.hid (HB.out.trans (bb.mono HB.out.size))
  clear bb
  clear cbx dbx fbx gbx
  obtain ⟨b5, hb5⟩ : ∃ b, b = w3.heap.size := ⟨_, rfl⟩
  obtain ⟨w4, hw4⟩ : ∃ x, x = w3.alloc (.cells #[.int .u16 (m : Nat)] 27) := ⟨_, rfl⟩
  have HBo := Lib.hid HB.out.size
  have kk : Below w3.heap.size w3 w4 := by rw [hw4]; exact (Below.refl _ _).alloc (Nat.le_refl _) _
  replace HNbx := Lib.hid (blk_below HNbx.out kk)
  replace HB := Lib.hid (HB.out.trans (kk.mono HB.out.size))
  have HNb5 := Lib.hid (show w4.heap[b5]? = some (.cells #[.int .u16 (m : Nat)] 27 (0, 0)) by rw [hw4, hb5]; exact World.alloc_heap_new _ _)
  have HLb5 := Lib.hid (show w.heap.size ≤ b5 by rw [hb5]; exact HBo.out)
  go_upto_region 4 with (fail)
  rw [← hw4, ← hb5]
  clear hw4 hb5 kk HBo
  have cbx := (two_cells HNbx.out).1
  have dbx := (two_cells HNbx.out).2.1
  have fbx := (two_cells HNbx.out).2.2.1
  have gbx := (two_cells HNbx.out).2.2.2
  have cb5 := (one_cell HNb5.out).1
  have fb5 := (one_cell HNb5.out).2
  go_wp2_with fail
  refine (HSO.out _).mono ?_
  rintro e w5 ⟨rfl, bb⟩
  replace HNbx := Lib.hid (blk_below HNbx.out bb)
  replace HNb5 := Lib.hid (blk_below HNb5.out bb)
  replace HB := Lib.hid (HB.out.trans (bb.mono HB.out.size))
  clear bb
  clear cbx dbx fbx gbx cb5 fb5
  obtain ⟨b6, hb6⟩ : ∃ b, b = w5.heap.size := ⟨_, rfl⟩
  obtain ⟨w6, hw6⟩ : ∃ x, x = w5.alloc (.cells #[.int .u16 (s : Nat)] 27) := ⟨_, rfl⟩
  have HBo := Lib.hid HB.out.size
  have kk : Below w5.heap.size w5 w6 := by rw [hw6]; exact (Below.refl _ _).alloc (Nat.le_refl _) _
  replace HNbx := Lib.hid (blk_below HNbx.out kk)
  replace HNb5 := Lib.hid (blk_below HNb5.out kk)
  replace HB := Lib.hid (HB.out.trans (kk.mono HB.out.size))
  have HNb6 := Lib.hid (show w6.heap[b6]? = some (.cells #[.int .u16 (s : Nat)] 27 (0, 0)) by rw [hw6, hb6]; exact World.alloc_heap_new _ _)
  have HLb6 := Lib.hid (show w.heap.size ≤ b6 by rw [hb6]; exact HBo.out)
  go_upto_region 5 with (fail)
  rw [← hw6, ← hb6]
  clear hw6 hb6 kk HBo
  have cbx := (two_cells HNbx.out).1
  have dbx := (two_cells HNbx.out).2.1
  have fbx := (two_cells HNbx.out).2.2.1
  have gbx := (two_cells HNbx.out).2.2.2
  have cb5 := (one_cell HNb5.out).1
  have fb5 := (one_cell HNb5.out).2
  have cb6 := (one_cell HNb6.out).1
  have fb6 := (one_cell HNb6.out).2
  go_wp2_with fail
  refine (HNR.out _).mono ?_
  rintro e w7 ⟨rfl, bb⟩
  replace HNbx := Lib.hid (blk_below HNbx.out bb)
  replace HNb5 := Lib.hid (blk_below HNb5.out bb)
  replace HNb6 := Lib.hid (blk_below HNb6.out bb)
  replace HB := Lib.hid (HB.out.trans (bb.mono HB.out.size))
  clear bb
  clear cbx dbx fbx gbx cb5 fb5 cb6 fb6
  have cbx := (two_cells HNbx.out).1
  have dbx := (two_cells HNbx.out).2.1
  have fbx := (two_cells HNbx.out).2.2.1
  have gbx := (two_cells HNbx.out).2.2.2
  have cb5 := (one_cell HNb5.out).1
  have fb5 := (one_cell HNb5.out).2
  have cb6 := (one_cell HNb6.out).1
  have fb6 := (one_cell HNb6.out).2
  have HLo := Lib.hid (show bx ≠ b5 ∧ bx ≠ b6 from ⟨fun e => by subst e; have := HNb5.out.symm.trans HNbx.out; simp at this, fun e => by subst e; have := HNb6.out.symm.trans HNbx.out; simp at this⟩)
  obtain ⟨w8, hw8⟩ : ∃ x, x = (w7.setCell ⟨bx, 0, none⟩ (.bool p)).setCell ⟨bx, 1, none⟩ (.int .i64 q) := ⟨_, rfl⟩
  have kbt : But bx w7 w8 := by rw [hw8]; exact (But.set w7 bx 0 _).trans (But.set _ bx 1 _)
  have HNy := Lib.hid (show w8.heap[bx]? = some (.cells #[.bool p, .int .i64 q] 24 (0, 0)) by
    rw [hw8]
    exact heap_set2 HNbx.out)
  go_upto_region 6 with (fail)
  rw [← hw8]
  clear cbx dbx fbx gbx cb5 fb5 cb6 fb6
  have HNbx := HNy
  clear HNy
  replace HNb5 := Lib.hid ((kbt.block b5 (Array.getElem?_eq_some_iff.1 HNb5.out).1 (by have := HLo.out; simp; omega)).trans HNb5.out)
  replace HNb6 := Lib.hid ((kbt.block b6 (Array.getElem?_eq_some_iff.1 HNb6.out).1 (by have := HLo.out; simp; omega)).trans HNb6.out)
  replace HB := Lib.hid (HB.out.trans (kbt.below HLbx.out HB.out.size))
  clear hw8 kbt
  go_cut [7] (fun v wc => v = .bool (touchM (p, q)) ∧ Hid (Below w8.heap.size w8 wc))
  case first =>
    by_cases h0 : (p, q) = (false, 4)
    · have HTM := Lib.hid (show touchM (p, q) = true by unfold touchM; rw [decide_eq_true h0]; simp)
      have hq0 : ∀ w, (Op.equalIn 10000 24 (.agg #[.bool p, .int .i64 q]) (.agg #[.bool false, .int .i64 4])).run Try.prog w = .ok true w := fun w => by rw [eqMo, decide_eq_true h0]
      have KEEP := Lib.hid (show ∀ wx, Below w8.heap.size w8 wx → wx.cell? ⟨bx, 0, none⟩ = some (.bool p) ∧ wx.cell? ⟨bx, 1, none⟩ = some (.int .i64 q) ∧ wx.cell? ⟨b5, 0, none⟩ = some (.int .u16 (m : Nat)) ∧ wx.cell? ⟨b6, 0, none⟩ = some (.int .u16 (s : Nat)) from fun wx hx => ⟨(two_cells (blk_below HNbx.out hx)).1, (two_cells (blk_below HNbx.out hx)).2.1, (one_cell (blk_below HNb5.out hx)).1, (one_cell (blk_below HNb6.out hx)).1⟩)
      go_upto_region 6 with (fail)
      refine wp_region_held_drew (S := (fun wx => wx.cell? ⟨bx, 0, none⟩ = some (.bool p) ∧ wx.cell? ⟨bx, 1, none⟩ = some (.int .i64 q) ∧ wx.cell? ⟨b5, 0, none⟩ = some (.int .u16 (m : Nat)) ∧ wx.cell? ⟨b6, 0, none⟩ = some (.int .u16 (s : Nat)))) (by kernel_rfl) (KEEP.out _ ((Below.refl _ _).drew)) (fun hHeld => ?_)
      obtain ⟨z6, hz6⟩ : ∃ X, X = w8.drew := ⟨_, rfl⟩
      have HX := Lib.hid (show Below w8.heap.size w8 z6 by rw [hz6]; exact (Below.refl _ _).drew)
      replace hHeld := KEEP.out _ HX.out
      rw [← hz6]
      clear hz6
      refine tk 0 rfl (fun w hSw => by (try dsimp only at hSw); go_simp; try with_reducible rfl) ?_
      go_frame
      refine do_at (i := 1) rfl (by kernel_rfl) (by kernel_rfl) (fun K hK => ?_)
      go_simp
      refine (ansi_any 4 _).mono ?_
      rintro e y1 ⟨rfl, bb⟩
      replace HX := Lib.hid (HX.out.trans (bb.mono HX.out.size))
      clear bb
      go_wp2_with fail
      refine hK.out _ _ (KEEP.out _ HX.out) (fun hHeld => ?_)
      clear hK K
      try go_frame
      refine tk 2 rfl (fun w hSw => by (try dsimp only at hSw); go_simp; try with_reducible rfl) ?_
      go_frame
      refine tk 3 rfl (fun w hSw => by (try dsimp only at hSw); go_simp; try with_reducible rfl) ?_
      go_frame
      refine sk 4 rfl ?_
      go_frame
      refine sk 5 rfl ?_
      go_frame
      refine sk 6 rfl ?_
      go_frame
      refine tk 7 rfl (fun w hSw => by (try dsimp only at hSw); go_simp; try with_reducible rfl) ?_
      go_frame
      refine tk 8 rfl (fun w hSw => by (try dsimp only at hSw); go_simp; try with_reducible rfl) ?_
      go_frame
      refine sk 9 rfl ?_
      go_frame
      refine sk 10 rfl ?_
      go_frame
      refine sk 11 rfl ?_
      go_frame
      refine tk 12 rfl (fun w hSw => by (try dsimp only at hSw); go_simp; try with_reducible rfl) ?_
      go_frame
      refine tk 13 rfl (fun w hSw => by (try dsimp only at hSw); go_simp; try with_reducible rfl) ?_
      go_frame
      refine sk 14 rfl ?_
      go_frame
      refine sk 15 rfl ?_
      go_frame
      refine sk 16 rfl ?_
      go_frame
      refine tk 17 rfl (fun w hSw => by (try dsimp only at hSw); go_simp; try with_reducible rfl) ?_
      go_frame
      refine tk 18 rfl (fun w hSw => by (try dsimp only at hSw); go_simp; try with_reducible rfl) ?_
      go_frame
      refine wpAnyH_done (by kernel_rfl) ?_ _
      clear hHeld KEEP
      go_wp2
      go_meet
      case rel => exact ⟨by rw [HTM.out], Lib.hid HX.out⟩
    · by_cases h1 : (p, q) = (true, 6)
      · have HTM := Lib.hid (show touchM (p, q) = true by unfold touchM; rw [decide_eq_true h1]; simp)
        have hq0 : ∀ w, (Op.equalIn 10000 24 (.agg #[.bool p, .int .i64 q]) (.agg #[.bool false, .int .i64 4])).run Try.prog w = .ok false w := fun w => by rw [eqMo, decide_eq_false h0]
        have hq1 : ∀ w, (Op.equalIn 10000 24 (.agg #[.bool p, .int .i64 q]) (.agg #[.bool true, .int .i64 6])).run Try.prog w = .ok true w := fun w => by rw [eqMo, decide_eq_true h1]
        have KEEP := Lib.hid (show ∀ wx, Below w8.heap.size w8 wx → wx.cell? ⟨bx, 0, none⟩ = some (.bool p) ∧ wx.cell? ⟨bx, 1, none⟩ = some (.int .i64 q) ∧ wx.cell? ⟨b5, 0, none⟩ = some (.int .u16 (m : Nat)) ∧ wx.cell? ⟨b6, 0, none⟩ = some (.int .u16 (s : Nat)) from fun wx hx => ⟨(two_cells (blk_below HNbx.out hx)).1, (two_cells (blk_below HNbx.out hx)).2.1, (one_cell (blk_below HNb5.out hx)).1, (one_cell (blk_below HNb6.out hx)).1⟩)
        go_upto_region 6 with (fail)
        refine wp_region_held_drew (S := (fun wx => wx.cell? ⟨bx, 0, none⟩ = some (.bool p) ∧ wx.cell? ⟨bx, 1, none⟩ = some (.int .i64 q) ∧ wx.cell? ⟨b5, 0, none⟩ = some (.int .u16 (m : Nat)) ∧ wx.cell? ⟨b6, 0, none⟩ = some (.int .u16 (s : Nat)))) (by kernel_rfl) (KEEP.out _ ((Below.refl _ _).drew)) (fun hHeld => ?_)
        obtain ⟨z6, hz6⟩ : ∃ X, X = w8.drew := ⟨_, rfl⟩
        have HX := Lib.hid (show Below w8.heap.size w8 z6 by rw [hz6]; exact (Below.refl _ _).drew)
        replace hHeld := KEEP.out _ HX.out
        rw [← hz6]
        clear hz6
        refine tk 0 rfl (fun w hSw => by (try dsimp only at hSw); go_simp; try with_reducible rfl) ?_
        go_frame
        refine do_at (i := 1) rfl (by kernel_rfl) (by kernel_rfl) (fun K hK => ?_)
        go_simp
        refine (ansi_any 4 _).mono ?_
        rintro e y1 ⟨rfl, bb⟩
        replace HX := Lib.hid (HX.out.trans (bb.mono HX.out.size))
        clear bb
        go_wp2_with fail
        refine hK.out _ _ (KEEP.out _ HX.out) (fun hHeld => ?_)
        clear hK K
        try go_frame
        refine tk 2 rfl (fun w hSw => by (try dsimp only at hSw); go_simp; try with_reducible rfl) ?_
        go_frame
        refine tk 3 rfl (fun w hSw => by (try dsimp only at hSw); go_simp; try with_reducible rfl) ?_
        go_frame
        refine tk 4 rfl (fun w hSw => by (try dsimp only at hSw); go_simp; try with_reducible rfl) ?_
        go_frame
        refine do_at (i := 5) rfl (by kernel_rfl) (by kernel_rfl) (fun K hK => ?_)
        go_simp
        refine (priv_any 6 _).mono ?_
        rintro e y2 ⟨rfl, bb⟩
        replace HX := Lib.hid (HX.out.trans (bb.mono HX.out.size))
        clear bb
        go_wp2_with fail
        refine hK.out _ _ (KEEP.out _ HX.out) (fun hHeld => ?_)
        clear hK K
        try go_frame
        refine tk 6 rfl (fun w hSw => by (try dsimp only at hSw); go_simp; try with_reducible rfl) ?_
        go_frame
        refine tk 7 rfl (fun w hSw => by (try dsimp only at hSw); go_simp; try with_reducible rfl) ?_
        go_frame
        refine tk 8 rfl (fun w hSw => by (try dsimp only at hSw); go_simp; try with_reducible rfl) ?_
        go_frame
        refine sk 9 rfl ?_
        go_frame
        refine sk 10 rfl ?_
        go_frame
        refine sk 11 rfl ?_
        go_frame
        refine tk 12 rfl (fun w hSw => by (try dsimp only at hSw); go_simp; try with_reducible rfl) ?_
        go_frame
        refine tk 13 rfl (fun w hSw => by (try dsimp only at hSw); go_simp; try with_reducible rfl) ?_
        go_frame
        refine sk 14 rfl ?_
        go_frame
        refine sk 15 rfl ?_
        go_frame
        refine sk 16 rfl ?_
        go_frame
        refine tk 17 rfl (fun w hSw => by (try dsimp only at hSw); go_simp; try with_reducible rfl) ?_
        go_frame
        refine tk 18 rfl (fun w hSw => by (try dsimp only at hSw); go_simp; try with_reducible rfl) ?_
        go_frame
        refine wpAnyH_done (by kernel_rfl) ?_ _
        clear hHeld KEEP
        go_wp2
        go_meet
        case rel => exact ⟨by rw [HTM.out], Lib.hid HX.out⟩
      · by_cases h2 : (p, q) = (true, 7)
        · have HTM := Lib.hid (show touchM (p, q) = true by unfold touchM; rw [decide_eq_true h2]; simp)
          have hq0 : ∀ w, (Op.equalIn 10000 24 (.agg #[.bool p, .int .i64 q]) (.agg #[.bool false, .int .i64 4])).run Try.prog w = .ok false w := fun w => by rw [eqMo, decide_eq_false h0]
          have hq1 : ∀ w, (Op.equalIn 10000 24 (.agg #[.bool p, .int .i64 q]) (.agg #[.bool true, .int .i64 6])).run Try.prog w = .ok false w := fun w => by rw [eqMo, decide_eq_false h1]
          have hq2 : ∀ w, (Op.equalIn 10000 24 (.agg #[.bool p, .int .i64 q]) (.agg #[.bool true, .int .i64 7])).run Try.prog w = .ok true w := fun w => by rw [eqMo, decide_eq_true h2]
          have KEEP := Lib.hid (show ∀ wx, Below w8.heap.size w8 wx → wx.cell? ⟨bx, 0, none⟩ = some (.bool p) ∧ wx.cell? ⟨bx, 1, none⟩ = some (.int .i64 q) ∧ wx.cell? ⟨b5, 0, none⟩ = some (.int .u16 (m : Nat)) ∧ wx.cell? ⟨b6, 0, none⟩ = some (.int .u16 (s : Nat)) from fun wx hx => ⟨(two_cells (blk_below HNbx.out hx)).1, (two_cells (blk_below HNbx.out hx)).2.1, (one_cell (blk_below HNb5.out hx)).1, (one_cell (blk_below HNb6.out hx)).1⟩)
          go_upto_region 6 with (fail)
          refine wp_region_held_drew (S := (fun wx => wx.cell? ⟨bx, 0, none⟩ = some (.bool p) ∧ wx.cell? ⟨bx, 1, none⟩ = some (.int .i64 q) ∧ wx.cell? ⟨b5, 0, none⟩ = some (.int .u16 (m : Nat)) ∧ wx.cell? ⟨b6, 0, none⟩ = some (.int .u16 (s : Nat)))) (by kernel_rfl) (KEEP.out _ ((Below.refl _ _).drew)) (fun hHeld => ?_)
          obtain ⟨z6, hz6⟩ : ∃ X, X = w8.drew := ⟨_, rfl⟩
          have HX := Lib.hid (show Below w8.heap.size w8 z6 by rw [hz6]; exact (Below.refl _ _).drew)
          replace hHeld := KEEP.out _ HX.out
          rw [← hz6]
          clear hz6
          refine tk 0 rfl (fun w hSw => by (try dsimp only at hSw); go_simp; try with_reducible rfl) ?_
          go_frame
          refine do_at (i := 1) rfl (by kernel_rfl) (by kernel_rfl) (fun K hK => ?_)
          go_simp
          refine (ansi_any 4 _).mono ?_
          rintro e y1 ⟨rfl, bb⟩
          replace HX := Lib.hid (HX.out.trans (bb.mono HX.out.size))
          clear bb
          go_wp2_with fail
          refine hK.out _ _ (KEEP.out _ HX.out) (fun hHeld => ?_)
          clear hK K
          try go_frame
          refine tk 2 rfl (fun w hSw => by (try dsimp only at hSw); go_simp; try with_reducible rfl) ?_
          go_frame
          refine tk 3 rfl (fun w hSw => by (try dsimp only at hSw); go_simp; try with_reducible rfl) ?_
          go_frame
          refine tk 4 rfl (fun w hSw => by (try dsimp only at hSw); go_simp; try with_reducible rfl) ?_
          go_frame
          refine do_at (i := 5) rfl (by kernel_rfl) (by kernel_rfl) (fun K hK => ?_)
          go_simp
          refine (priv_any 6 _).mono ?_
          rintro e y2 ⟨rfl, bb⟩
          replace HX := Lib.hid (HX.out.trans (bb.mono HX.out.size))
          clear bb
          go_wp2_with fail
          refine hK.out _ _ (KEEP.out _ HX.out) (fun hHeld => ?_)
          clear hK K
          try go_frame
          refine tk 6 rfl (fun w hSw => by (try dsimp only at hSw); go_simp; try with_reducible rfl) ?_
          go_frame
          refine tk 7 rfl (fun w hSw => by (try dsimp only at hSw); go_simp; try with_reducible rfl) ?_
          go_frame
          refine tk 8 rfl (fun w hSw => by (try dsimp only at hSw); go_simp; try with_reducible rfl) ?_
          go_frame
          refine tk 9 rfl (fun w hSw => by (try dsimp only at hSw); go_simp; try with_reducible rfl) ?_
          go_frame
          refine do_at (i := 10) rfl (by kernel_rfl) (by kernel_rfl) (fun K hK => ?_)
          go_simp
          refine (priv_any 7 _).mono ?_
          rintro e y3 ⟨rfl, bb⟩
          replace HX := Lib.hid (HX.out.trans (bb.mono HX.out.size))
          clear bb
          go_wp2_with fail
          refine hK.out _ _ (KEEP.out _ HX.out) (fun hHeld => ?_)
          clear hK K
          try go_frame
          refine tk 11 rfl (fun w hSw => by (try dsimp only at hSw); go_simp; try with_reducible rfl) ?_
          go_frame
          refine tk 12 rfl (fun w hSw => by (try dsimp only at hSw); go_simp; try with_reducible rfl) ?_
          go_frame
          refine tk 13 rfl (fun w hSw => by (try dsimp only at hSw); go_simp; try with_reducible rfl) ?_
          go_frame
          refine sk 14 rfl ?_
          go_frame
          refine sk 15 rfl ?_
          go_frame
          refine sk 16 rfl ?_
          go_frame
          refine tk 17 rfl (fun w hSw => by (try dsimp only at hSw); go_simp; try with_reducible rfl) ?_
          go_frame
          refine tk 18 rfl (fun w hSw => by (try dsimp only at hSw); go_simp; try with_reducible rfl) ?_
          go_frame
          refine wpAnyH_done (by kernel_rfl) ?_ _
          clear hHeld KEEP
          go_wp2
          go_meet
          case rel => exact ⟨by rw [HTM.out], Lib.hid HX.out⟩
        · by_cases h3 : (p, q) = (true, 25)
          · have HTM := Lib.hid (show touchM (p, q) = true by unfold touchM; rw [decide_eq_true h3]; simp)
            have hq0 : ∀ w, (Op.equalIn 10000 24 (.agg #[.bool p, .int .i64 q]) (.agg #[.bool false, .int .i64 4])).run Try.prog w = .ok false w := fun w => by rw [eqMo, decide_eq_false h0]
            have hq1 : ∀ w, (Op.equalIn 10000 24 (.agg #[.bool p, .int .i64 q]) (.agg #[.bool true, .int .i64 6])).run Try.prog w = .ok false w := fun w => by rw [eqMo, decide_eq_false h1]
            have hq2 : ∀ w, (Op.equalIn 10000 24 (.agg #[.bool p, .int .i64 q]) (.agg #[.bool true, .int .i64 7])).run Try.prog w = .ok false w := fun w => by rw [eqMo, decide_eq_false h2]
            have hq3 : ∀ w, (Op.equalIn 10000 24 (.agg #[.bool p, .int .i64 q]) (.agg #[.bool true, .int .i64 25])).run Try.prog w = .ok true w := fun w => by rw [eqMo, decide_eq_true h3]
            have KEEP := Lib.hid (show ∀ wx, Below w8.heap.size w8 wx → wx.cell? ⟨bx, 0, none⟩ = some (.bool p) ∧ wx.cell? ⟨bx, 1, none⟩ = some (.int .i64 q) ∧ wx.cell? ⟨b5, 0, none⟩ = some (.int .u16 (m : Nat)) ∧ wx.cell? ⟨b6, 0, none⟩ = some (.int .u16 (s : Nat)) from fun wx hx => ⟨(two_cells (blk_below HNbx.out hx)).1, (two_cells (blk_below HNbx.out hx)).2.1, (one_cell (blk_below HNb5.out hx)).1, (one_cell (blk_below HNb6.out hx)).1⟩)
            go_upto_region 6 with (fail)
            refine wp_region_held_drew (S := (fun wx => wx.cell? ⟨bx, 0, none⟩ = some (.bool p) ∧ wx.cell? ⟨bx, 1, none⟩ = some (.int .i64 q) ∧ wx.cell? ⟨b5, 0, none⟩ = some (.int .u16 (m : Nat)) ∧ wx.cell? ⟨b6, 0, none⟩ = some (.int .u16 (s : Nat)))) (by kernel_rfl) (KEEP.out _ ((Below.refl _ _).drew)) (fun hHeld => ?_)
            obtain ⟨z6, hz6⟩ : ∃ X, X = w8.drew := ⟨_, rfl⟩
            have HX := Lib.hid (show Below w8.heap.size w8 z6 by rw [hz6]; exact (Below.refl _ _).drew)
            replace hHeld := KEEP.out _ HX.out
            rw [← hz6]
            clear hz6
            refine tk 0 rfl (fun w hSw => by (try dsimp only at hSw); go_simp; try with_reducible rfl) ?_
            go_frame
            refine do_at (i := 1) rfl (by kernel_rfl) (by kernel_rfl) (fun K hK => ?_)
            go_simp
            refine (ansi_any 4 _).mono ?_
            rintro e y1 ⟨rfl, bb⟩
            replace HX := Lib.hid (HX.out.trans (bb.mono HX.out.size))
            clear bb
            go_wp2_with fail
            refine hK.out _ _ (KEEP.out _ HX.out) (fun hHeld => ?_)
            clear hK K
            try go_frame
            refine tk 2 rfl (fun w hSw => by (try dsimp only at hSw); go_simp; try with_reducible rfl) ?_
            go_frame
            refine tk 3 rfl (fun w hSw => by (try dsimp only at hSw); go_simp; try with_reducible rfl) ?_
            go_frame
            refine tk 4 rfl (fun w hSw => by (try dsimp only at hSw); go_simp; try with_reducible rfl) ?_
            go_frame
            refine do_at (i := 5) rfl (by kernel_rfl) (by kernel_rfl) (fun K hK => ?_)
            go_simp
            refine (priv_any 6 _).mono ?_
            rintro e y2 ⟨rfl, bb⟩
            replace HX := Lib.hid (HX.out.trans (bb.mono HX.out.size))
            clear bb
            go_wp2_with fail
            refine hK.out _ _ (KEEP.out _ HX.out) (fun hHeld => ?_)
            clear hK K
            try go_frame
            refine tk 6 rfl (fun w hSw => by (try dsimp only at hSw); go_simp; try with_reducible rfl) ?_
            go_frame
            refine tk 7 rfl (fun w hSw => by (try dsimp only at hSw); go_simp; try with_reducible rfl) ?_
            go_frame
            refine tk 8 rfl (fun w hSw => by (try dsimp only at hSw); go_simp; try with_reducible rfl) ?_
            go_frame
            refine tk 9 rfl (fun w hSw => by (try dsimp only at hSw); go_simp; try with_reducible rfl) ?_
            go_frame
            refine do_at (i := 10) rfl (by kernel_rfl) (by kernel_rfl) (fun K hK => ?_)
            go_simp
            refine (priv_any 7 _).mono ?_
            rintro e y3 ⟨rfl, bb⟩
            replace HX := Lib.hid (HX.out.trans (bb.mono HX.out.size))
            clear bb
            go_wp2_with fail
            refine hK.out _ _ (KEEP.out _ HX.out) (fun hHeld => ?_)
            clear hK K
            try go_frame
            refine tk 11 rfl (fun w hSw => by (try dsimp only at hSw); go_simp; try with_reducible rfl) ?_
            go_frame
            refine tk 12 rfl (fun w hSw => by (try dsimp only at hSw); go_simp; try with_reducible rfl) ?_
            go_frame
            refine tk 13 rfl (fun w hSw => by (try dsimp only at hSw); go_simp; try with_reducible rfl) ?_
            go_frame
            refine tk 14 rfl (fun w hSw => by (try dsimp only at hSw); go_simp; try with_reducible rfl) ?_
            go_frame
            refine do_at (i := 15) rfl (by kernel_rfl) (by kernel_rfl) (fun K hK => ?_)
            go_simp
            refine (priv_any 25 _).mono ?_
            rintro e y4 ⟨rfl, bb⟩
            replace HX := Lib.hid (HX.out.trans (bb.mono HX.out.size))
            clear bb
            go_wp2_with fail
            refine hK.out _ _ (KEEP.out _ HX.out) (fun hHeld => ?_)
            clear hK K
            try go_frame
            refine tk 16 rfl (fun w hSw => by (try dsimp only at hSw); go_simp; try with_reducible rfl) ?_
            go_frame
            refine tk 17 rfl (fun w hSw => by (try dsimp only at hSw); go_simp; try with_reducible rfl) ?_
            go_frame
            refine tk 18 rfl (fun w hSw => by (try dsimp only at hSw); go_simp; try with_reducible rfl) ?_
            go_frame
            refine wpAnyH_done (by kernel_rfl) ?_ _
            clear hHeld KEEP
            go_wp2
            go_meet
            case rel => exact ⟨by rw [HTM.out], Lib.hid HX.out⟩
          · have HTM := Lib.hid (show touchM (p, q) = false by unfold touchM; rw [decide_eq_false h0, decide_eq_false h1, decide_eq_false h2, decide_eq_false h3]; rfl)
            have hq0 : ∀ w, (Op.equalIn 10000 24 (.agg #[.bool p, .int .i64 q]) (.agg #[.bool false, .int .i64 4])).run Try.prog w = .ok false w := fun w => by rw [eqMo, decide_eq_false h0]
            have hq1 : ∀ w, (Op.equalIn 10000 24 (.agg #[.bool p, .int .i64 q]) (.agg #[.bool true, .int .i64 6])).run Try.prog w = .ok false w := fun w => by rw [eqMo, decide_eq_false h1]
            have hq2 : ∀ w, (Op.equalIn 10000 24 (.agg #[.bool p, .int .i64 q]) (.agg #[.bool true, .int .i64 7])).run Try.prog w = .ok false w := fun w => by rw [eqMo, decide_eq_false h2]
            have hq3 : ∀ w, (Op.equalIn 10000 24 (.agg #[.bool p, .int .i64 q]) (.agg #[.bool true, .int .i64 25])).run Try.prog w = .ok false w := fun w => by rw [eqMo, decide_eq_false h3]
            have KEEP := Lib.hid (show ∀ wx, Below w8.heap.size w8 wx → wx.cell? ⟨bx, 0, none⟩ = some (.bool p) ∧ wx.cell? ⟨bx, 1, none⟩ = some (.int .i64 q) ∧ wx.cell? ⟨b5, 0, none⟩ = some (.int .u16 (m : Nat)) ∧ wx.cell? ⟨b6, 0, none⟩ = some (.int .u16 (s : Nat)) from fun wx hx => ⟨(two_cells (blk_below HNbx.out hx)).1, (two_cells (blk_below HNbx.out hx)).2.1, (one_cell (blk_below HNb5.out hx)).1, (one_cell (blk_below HNb6.out hx)).1⟩)
            go_upto_region 6 with (fail)
            refine wp_region_held_drew (S := (fun wx => wx.cell? ⟨bx, 0, none⟩ = some (.bool p) ∧ wx.cell? ⟨bx, 1, none⟩ = some (.int .i64 q) ∧ wx.cell? ⟨b5, 0, none⟩ = some (.int .u16 (m : Nat)) ∧ wx.cell? ⟨b6, 0, none⟩ = some (.int .u16 (s : Nat)))) (by kernel_rfl) (KEEP.out _ ((Below.refl _ _).drew)) (fun hHeld => ?_)
            obtain ⟨z6, hz6⟩ : ∃ X, X = w8.drew := ⟨_, rfl⟩
            have HX := Lib.hid (show Below w8.heap.size w8 z6 by rw [hz6]; exact (Below.refl _ _).drew)
            replace hHeld := KEEP.out _ HX.out
            rw [← hz6]
            clear hz6
            refine tk 0 rfl (fun w hSw => by (try dsimp only at hSw); go_simp; try with_reducible rfl) ?_
            go_frame
            refine do_at (i := 1) rfl (by kernel_rfl) (by kernel_rfl) (fun K hK => ?_)
            go_simp
            refine (ansi_any 4 _).mono ?_
            rintro e y1 ⟨rfl, bb⟩
            replace HX := Lib.hid (HX.out.trans (bb.mono HX.out.size))
            clear bb
            go_wp2_with fail
            refine hK.out _ _ (KEEP.out _ HX.out) (fun hHeld => ?_)
            clear hK K
            try go_frame
            refine tk 2 rfl (fun w hSw => by (try dsimp only at hSw); go_simp; try with_reducible rfl) ?_
            go_frame
            refine tk 3 rfl (fun w hSw => by (try dsimp only at hSw); go_simp; try with_reducible rfl) ?_
            go_frame
            refine tk 4 rfl (fun w hSw => by (try dsimp only at hSw); go_simp; try with_reducible rfl) ?_
            go_frame
            refine do_at (i := 5) rfl (by kernel_rfl) (by kernel_rfl) (fun K hK => ?_)
            go_simp
            refine (priv_any 6 _).mono ?_
            rintro e y2 ⟨rfl, bb⟩
            replace HX := Lib.hid (HX.out.trans (bb.mono HX.out.size))
            clear bb
            go_wp2_with fail
            refine hK.out _ _ (KEEP.out _ HX.out) (fun hHeld => ?_)
            clear hK K
            try go_frame
            refine tk 6 rfl (fun w hSw => by (try dsimp only at hSw); go_simp; try with_reducible rfl) ?_
            go_frame
            refine tk 7 rfl (fun w hSw => by (try dsimp only at hSw); go_simp; try with_reducible rfl) ?_
            go_frame
            refine tk 8 rfl (fun w hSw => by (try dsimp only at hSw); go_simp; try with_reducible rfl) ?_
            go_frame
            refine tk 9 rfl (fun w hSw => by (try dsimp only at hSw); go_simp; try with_reducible rfl) ?_
            go_frame
            refine do_at (i := 10) rfl (by kernel_rfl) (by kernel_rfl) (fun K hK => ?_)
            go_simp
            refine (priv_any 7 _).mono ?_
            rintro e y3 ⟨rfl, bb⟩
            replace HX := Lib.hid (HX.out.trans (bb.mono HX.out.size))
            clear bb
            go_wp2_with fail
            refine hK.out _ _ (KEEP.out _ HX.out) (fun hHeld => ?_)
            clear hK K
            try go_frame
            refine tk 11 rfl (fun w hSw => by (try dsimp only at hSw); go_simp; try with_reducible rfl) ?_
            go_frame
            refine tk 12 rfl (fun w hSw => by (try dsimp only at hSw); go_simp; try with_reducible rfl) ?_
            go_frame
            refine tk 13 rfl (fun w hSw => by (try dsimp only at hSw); go_simp; try with_reducible rfl) ?_
            go_frame
            refine tk 14 rfl (fun w hSw => by (try dsimp only at hSw); go_simp; try with_reducible rfl) ?_
            go_frame
            refine do_at (i := 15) rfl (by kernel_rfl) (by kernel_rfl) (fun K hK => ?_)
            go_simp
            refine (priv_any 25 _).mono ?_
            rintro e y4 ⟨rfl, bb⟩
            replace HX := Lib.hid (HX.out.trans (bb.mono HX.out.size))
            clear bb
            go_wp2_with fail
            refine hK.out _ _ (KEEP.out _ HX.out) (fun hHeld => ?_)
            clear hK K
            try go_frame
            refine tk 16 rfl (fun w hSw => by (try dsimp only at hSw); go_simp; try with_reducible rfl) ?_
            go_frame
            refine tk 17 rfl (fun w hSw => by (try dsimp only at hSw); go_simp; try with_reducible rfl) ?_
            go_frame
            refine tk 18 rfl (fun w hSw => by (try dsimp only at hSw); go_simp; try with_reducible rfl) ?_
            go_frame
            refine wpAnyH_done (by kernel_rfl) ?_ _
            clear hHeld KEEP
            go_wp2
            go_meet
            case rel => exact ⟨by rw [HTM.out], Lib.hid HX.out⟩
  obtain ⟨rfl, hcb⟩ := hcut
  rename World => w9
  replace HNbx := Lib.hid (blk_below HNbx.out hcb.out)
  replace HNb5 := Lib.hid (blk_below HNb5.out hcb.out)
  replace HNb6 := Lib.hid (blk_below HNb6.out hcb.out)
  replace HB := Lib.hid (HB.out.trans (hcb.out.mono HB.out.size))
  clear hcb
  obtain ⟨tch, htch⟩ : ∃ b, b = touchM (p, q) := ⟨_, rfl⟩
  have HTC := Lib.hid htch
  rw [← htch]
  clear htch
  have HI1 := Lib.hid (show ∀ w, Calls Try.prog 21 #[.agg #[.int .u16 (s : Nat)], .agg #[.bool false, .int .i64 4]] w fun e w' => e = .returned (.bool false) ∧ Below w.heap.size w w' from fun w => by have := is_any s HSL.out false 4 (by decide) w; rw [HSF.out.1] at this; exact this)
  have HI2 := Lib.hid (show ∀ w, Calls Try.prog 21 #[.agg #[.int .u16 (s : Nat)], .agg #[.bool true, .int .i64 6]] w fun e w' => e = .returned (.bool false) ∧ Below w.heap.size w w' from fun w => by have := is_any s HSL.out true 6 (by decide) w; rw [HSF.out.2.1] at this; exact this)
  have HI3 := Lib.hid (show ∀ w, Calls Try.prog 21 #[.agg #[.int .u16 (s : Nat)], .agg #[.bool true, .int .i64 7]] w fun e w' => e = .returned (.bool true) ∧ Below w.heap.size w w' from fun w => by have := is_any s HSL.out true 7 (by decide) w; rw [HSF.out.2.2.1] at this; exact this)
  have HI4 := Lib.hid (show ∀ w, Calls Try.prog 21 #[.agg #[.int .u16 (s : Nat)], .agg #[.bool true, .int .i64 25]] w fun e w' => e = .returned (.bool true) ∧ Below w.heap.size w w' from fun w => by have := is_any s HSL.out true 25 (by decide) w; rw [HSF.out.2.2.2.1] at this; exact this)
  have HI5 := Lib.hid (show ∀ w, Calls Try.prog 11 #[.agg #[.int .u16 (s : Nat)]] w fun e w' => e = .returned (.agg #[.int .u16 (s : Nat)]) ∧ Below w.heap.size w w' from fun w => by have := soft_any s HSL.out w; rw [HSF.out.2.2.2.2] at this; exact this)
  have hq9 : ∀ w, (Op.equalIn 10000 27 (.agg #[.int .u16 (s : Nat)]) (.agg #[.int .u16 (s : Nat)])).run Try.prog w = .ok true w := fun w => by rw [eqMs, decide_eq_true rfl]
  obtain ⟨st, hst⟩ : ∃ st, st = stateM s (p, q) := ⟨_, rfl⟩
  have HS1 := Lib.hid (fun w => state_any s HSL.out p q HW.out w)
  have HS2 := Lib.hid (show tch = false → ∀ w, Calls Try.prog 23 #[.agg #[.int .u16 (m : Nat)], .agg #[.bool p, .int .i64 q]] w fun e w' => e = .returned (.int .i64 (stateM s (p, q) : Nat)) ∧ Below w.heap.size w w' from fun h w => by
    have := state_any m HML.out p q HW.out w
    rw [← HST.out (p, q) (HTC.out.symm.trans h)] at this
    exact this)
  rw [← hst] at HS1 HS2
  clear hst
  cases tch
  · have KEEP := Lib.hid (show ∀ wx, Below w9.heap.size w9 wx → wx.cell? ⟨bx, 0, none⟩ = some (.bool p) ∧ wx.cell? ⟨bx, 1, none⟩ = some (.int .i64 q) ∧ wx.cell? ⟨b5, 0, none⟩ = some (.int .u16 (m : Nat)) ∧ wx.cell? ⟨b6, 0, none⟩ = some (.int .u16 (s : Nat)) from fun wx hx => ⟨(two_cells (blk_below HNbx.out hx)).1, (two_cells (blk_below HNbx.out hx)).2.1, (one_cell (blk_below HNb5.out hx)).1, (one_cell (blk_below HNb6.out hx)).1⟩)
    go_upto_region 7 with (fail)
    refine wp_region_held_drew (S := (fun wx => wx.cell? ⟨bx, 0, none⟩ = some (.bool p) ∧ wx.cell? ⟨bx, 1, none⟩ = some (.int .i64 q) ∧ wx.cell? ⟨b5, 0, none⟩ = some (.int .u16 (m : Nat)) ∧ wx.cell? ⟨b6, 0, none⟩ = some (.int .u16 (s : Nat)))) (by kernel_rfl) (KEEP.out _ ((Below.refl _ _).drew)) (fun hHeld => ?_)
    obtain ⟨z7, hz7⟩ : ∃ X, X = w9.drew := ⟨_, rfl⟩
    have HX := Lib.hid (show Below w9.heap.size w9 z7 by rw [hz7]; exact (Below.refl _ _).drew)
    replace hHeld := KEEP.out _ HX.out
    rw [← hz7]
    clear hz7
    refine tk 0 rfl (fun w hSw => by (try dsimp only at hSw); go_simp; try with_reducible rfl) ?_
    go_frame
    refine do_at (i := 1) rfl (by kernel_rfl) (by kernel_rfl) (fun K hK => ?_)
    go_simp
    refine (ansi_any 4 _).mono ?_
    rintro e x1 ⟨rfl, bb⟩
    replace HX := Lib.hid (HX.out.trans (bb.mono HX.out.size))
    clear bb
    go_wp2_with fail
    refine hK.out _ _ (KEEP.out _ HX.out) (fun hHeld => ?_)
    clear hK K
    try go_frame
    refine do_at (i := 2) rfl (by kernel_rfl) (by kernel_rfl) (fun K hK => ?_)
    go_simp
    refine (HI1.out _).mono ?_
    rintro e x2 ⟨rfl, bb⟩
    replace HX := Lib.hid (HX.out.trans (bb.mono HX.out.size))
    clear bb
    go_wp2_with fail
    refine hK.out _ _ (KEEP.out _ HX.out) (fun hHeld => ?_)
    clear hK K
    try go_frame
    refine tk 3 rfl (fun w hSw => by (try dsimp only at hSw); go_simp; try with_reducible rfl) ?_
    go_frame
    refine tk 4 rfl (fun w hSw => by (try dsimp only at hSw); go_simp; try with_reducible rfl) ?_
    go_frame
    refine tk 5 rfl (fun w hSw => by (try dsimp only at hSw); go_simp; try with_reducible rfl) ?_
    go_frame
    refine do_at (i := 6) rfl (by kernel_rfl) (by kernel_rfl) (fun K hK => ?_)
    go_simp
    refine (priv_any 6 _).mono ?_
    rintro e x3 ⟨rfl, bb⟩
    replace HX := Lib.hid (HX.out.trans (bb.mono HX.out.size))
    clear bb
    go_wp2_with fail
    refine hK.out _ _ (KEEP.out _ HX.out) (fun hHeld => ?_)
    clear hK K
    try go_frame
    refine do_at (i := 7) rfl (by kernel_rfl) (by kernel_rfl) (fun K hK => ?_)
    go_simp
    refine (HI2.out _).mono ?_
    rintro e x4 ⟨rfl, bb⟩
    replace HX := Lib.hid (HX.out.trans (bb.mono HX.out.size))
    clear bb
    go_wp2_with fail
    refine hK.out _ _ (KEEP.out _ HX.out) (fun hHeld => ?_)
    clear hK K
    try go_frame
    refine tk 8 rfl (fun w hSw => by (try dsimp only at hSw); go_simp; try with_reducible rfl) ?_
    go_frame
    refine tk 9 rfl (fun w hSw => by (try dsimp only at hSw); go_simp; try with_reducible rfl) ?_
    go_frame
    refine tk 10 rfl (fun w hSw => by (try dsimp only at hSw); go_simp; try with_reducible rfl) ?_
    go_frame
    refine tk 11 rfl (fun w hSw => by (try dsimp only at hSw); go_simp; try with_reducible rfl) ?_
    go_frame
    refine do_at (i := 12) rfl (by kernel_rfl) (by kernel_rfl) (fun K hK => ?_)
    go_simp
    refine (priv_any 7 _).mono ?_
    rintro e x5 ⟨rfl, bb⟩
    replace HX := Lib.hid (HX.out.trans (bb.mono HX.out.size))
    clear bb
    go_wp2_with fail
    refine hK.out _ _ (KEEP.out _ HX.out) (fun hHeld => ?_)
    clear hK K
    try go_frame
    refine do_at (i := 13) rfl (by kernel_rfl) (by kernel_rfl) (fun K hK => ?_)
    go_simp
    refine (HI3.out _).mono ?_
    rintro e x6 ⟨rfl, bb⟩
    replace HX := Lib.hid (HX.out.trans (bb.mono HX.out.size))
    clear bb
    go_wp2_with fail
    refine hK.out _ _ (KEEP.out _ HX.out) (fun hHeld => ?_)
    clear hK K
    try go_frame
    refine tk 14 rfl (fun w hSw => by (try dsimp only at hSw); go_simp; try with_reducible rfl) ?_
    go_frame
    refine tk 15 rfl (fun w hSw => by (try dsimp only at hSw); go_simp; try with_reducible rfl) ?_
    go_frame
    refine tk 16 rfl (fun w hSw => by (try dsimp only at hSw); go_simp; try with_reducible rfl) ?_
    go_frame
    refine do_at (i := 17) rfl (by kernel_rfl) (by kernel_rfl) (fun K hK => ?_)
    go_simp
    refine (priv_any 25 _).mono ?_
    rintro e x7 ⟨rfl, bb⟩
    replace HX := Lib.hid (HX.out.trans (bb.mono HX.out.size))
    clear bb
    go_wp2_with fail
    refine hK.out _ _ (KEEP.out _ HX.out) (fun hHeld => ?_)
    clear hK K
    try go_frame
    refine do_at (i := 18) rfl (by kernel_rfl) (by kernel_rfl) (fun K hK => ?_)
    go_simp
    refine (HI4.out _).mono ?_
    rintro e x8 ⟨rfl, bb⟩
    replace HX := Lib.hid (HX.out.trans (bb.mono HX.out.size))
    clear bb
    go_wp2_with fail
    refine hK.out _ _ (KEEP.out _ HX.out) (fun hHeld => ?_)
    clear hK K
    try go_frame
    refine tk 19 rfl (fun w hSw => by (try dsimp only at hSw); go_simp; try with_reducible rfl) ?_
    go_frame
    refine tk 20 rfl (fun w hSw => by (try dsimp only at hSw); go_simp; try with_reducible rfl) ?_
    go_frame
    refine tk 21 rfl (fun w hSw => by (try dsimp only at hSw); go_simp; try with_reducible rfl) ?_
    go_frame
    refine tk 23 rfl (fun w hSw => by (try dsimp only at hSw); go_simp; try with_reducible rfl) ?_
    go_frame
    refine do_at (i := 22) rfl (by kernel_rfl) (by kernel_rfl) (fun K hK => ?_)
    go_simp
    refine (HI5.out _).mono ?_
    rintro e x9 ⟨rfl, bb⟩
    replace HX := Lib.hid (HX.out.trans (bb.mono HX.out.size))
    clear bb
    go_wp2_with fail
    refine hK.out _ _ (KEEP.out _ HX.out) (fun hHeld => ?_)
    clear hK K
    try go_frame
    refine tk 24 rfl (fun w hSw => by (try dsimp only at hSw); go_simp; try with_reducible rfl) ?_
    go_frame
    refine tk 25 rfl (fun w hSw => by (try dsimp only at hSw); go_simp; try with_reducible rfl) ?_
    go_frame
    refine tk 26 rfl (fun w hSw => by (try dsimp only at hSw); go_simp; try with_reducible rfl) ?_
    go_frame
    refine tk 27 rfl (fun w hSw => by (try dsimp only at hSw); go_simp; try with_reducible rfl) ?_
    go_frame
    refine tk 28 rfl (fun w hSw => by (try dsimp only at hSw); go_simp; try with_reducible rfl) ?_
    go_frame
    refine tk 29 rfl (fun w hSw => by (try dsimp only at hSw); go_simp; try with_reducible rfl) ?_
    go_frame
    refine tk 30 rfl (fun w hSw => by (try dsimp only at hSw); go_simp; try with_reducible rfl) ?_
    go_frame
    refine tk 32 rfl (fun w hSw => by (try dsimp only at hSw); go_simp; try with_reducible rfl) ?_
    go_frame
    refine tk 33 rfl (fun w hSw => by (try dsimp only at hSw); go_simp; try with_reducible rfl) ?_
    go_frame
    refine do_at (i := 31) rfl (by kernel_rfl) (by kernel_rfl) (fun K hK => ?_)
    go_simp
    refine (HS1.out _).mono ?_
    rintro e x10 ⟨rfl, bb⟩
    replace HX := Lib.hid (HX.out.trans (bb.mono HX.out.size))
    clear bb
    go_wp2_with fail
    refine hK.out _ _ (KEEP.out _ HX.out) (fun hHeld => ?_)
    clear hK K
    try go_frame
    refine do_at (i := 34) rfl (by kernel_rfl) (by kernel_rfl) (fun K hK => ?_)
    go_simp
    refine (HS2.out (by first | trivial | rfl) _).mono ?_
    rintro e x11 ⟨rfl, bb⟩
    replace HX := Lib.hid (HX.out.trans (bb.mono HX.out.size))
    clear bb
    go_wp2_with fail
    refine hK.out _ _ (KEEP.out _ HX.out) (fun hHeld => ?_)
    clear hK K
    try go_frame
    refine tk 35 rfl (fun w hSw => by (try dsimp only at hSw); go_simp; try with_reducible rfl) ?_
    go_frame
    refine tk 36 rfl (fun w hSw => by (try dsimp only at hSw); go_simp; try with_reducible rfl) ?_
    go_frame
    refine tk 37 rfl (fun w hSw => by (try dsimp only at hSw); go_simp; try with_reducible rfl) ?_
    go_frame
    refine tk 38 rfl (fun w hSw => by (try dsimp only at hSw); go_simp; try with_reducible rfl) ?_
    go_frame
    refine wpAnyH_done (by kernel_rfl) ?_ _
    clear hHeld KEEP
    go_wp2
    go_ret
    exact ⟨by first | rfl | (show Ending.returned (.bool (((st : Nat) : Int) == ((st : Nat) : Int))) = Ending.returned (.bool true); rw [beq_self_eq_true]), HB.out.trans (HX.out.mono HB.out.size)⟩
  · have KEEP := Lib.hid (show ∀ wx, Below w9.heap.size w9 wx → wx.cell? ⟨bx, 0, none⟩ = some (.bool p) ∧ wx.cell? ⟨bx, 1, none⟩ = some (.int .i64 q) ∧ wx.cell? ⟨b5, 0, none⟩ = some (.int .u16 (m : Nat)) ∧ wx.cell? ⟨b6, 0, none⟩ = some (.int .u16 (s : Nat)) from fun wx hx => ⟨(two_cells (blk_below HNbx.out hx)).1, (two_cells (blk_below HNbx.out hx)).2.1, (one_cell (blk_below HNb5.out hx)).1, (one_cell (blk_below HNb6.out hx)).1⟩)
    go_upto_region 7 with (fail)
    refine wp_region_held_drew (S := (fun wx => wx.cell? ⟨bx, 0, none⟩ = some (.bool p) ∧ wx.cell? ⟨bx, 1, none⟩ = some (.int .i64 q) ∧ wx.cell? ⟨b5, 0, none⟩ = some (.int .u16 (m : Nat)) ∧ wx.cell? ⟨b6, 0, none⟩ = some (.int .u16 (s : Nat)))) (by kernel_rfl) (KEEP.out _ ((Below.refl _ _).drew)) (fun hHeld => ?_)
    obtain ⟨z7, hz7⟩ : ∃ X, X = w9.drew := ⟨_, rfl⟩
    have HX := Lib.hid (show Below w9.heap.size w9 z7 by rw [hz7]; exact (Below.refl _ _).drew)
    replace hHeld := KEEP.out _ HX.out
    rw [← hz7]
    clear hz7
    refine tk 0 rfl (fun w hSw => by (try dsimp only at hSw); go_simp; try with_reducible rfl) ?_
    go_frame
    refine do_at (i := 1) rfl (by kernel_rfl) (by kernel_rfl) (fun K hK => ?_)
    go_simp
    refine (ansi_any 4 _).mono ?_
    rintro e x1 ⟨rfl, bb⟩
    replace HX := Lib.hid (HX.out.trans (bb.mono HX.out.size))
    clear bb
    go_wp2_with fail
    refine hK.out _ _ (KEEP.out _ HX.out) (fun hHeld => ?_)
    clear hK K
    try go_frame
    refine do_at (i := 2) rfl (by kernel_rfl) (by kernel_rfl) (fun K hK => ?_)
    go_simp
    refine (HI1.out _).mono ?_
    rintro e x2 ⟨rfl, bb⟩
    replace HX := Lib.hid (HX.out.trans (bb.mono HX.out.size))
    clear bb
    go_wp2_with fail
    refine hK.out _ _ (KEEP.out _ HX.out) (fun hHeld => ?_)
    clear hK K
    try go_frame
    refine tk 3 rfl (fun w hSw => by (try dsimp only at hSw); go_simp; try with_reducible rfl) ?_
    go_frame
    refine tk 4 rfl (fun w hSw => by (try dsimp only at hSw); go_simp; try with_reducible rfl) ?_
    go_frame
    refine tk 5 rfl (fun w hSw => by (try dsimp only at hSw); go_simp; try with_reducible rfl) ?_
    go_frame
    refine do_at (i := 6) rfl (by kernel_rfl) (by kernel_rfl) (fun K hK => ?_)
    go_simp
    refine (priv_any 6 _).mono ?_
    rintro e x3 ⟨rfl, bb⟩
    replace HX := Lib.hid (HX.out.trans (bb.mono HX.out.size))
    clear bb
    go_wp2_with fail
    refine hK.out _ _ (KEEP.out _ HX.out) (fun hHeld => ?_)
    clear hK K
    try go_frame
    refine do_at (i := 7) rfl (by kernel_rfl) (by kernel_rfl) (fun K hK => ?_)
    go_simp
    refine (HI2.out _).mono ?_
    rintro e x4 ⟨rfl, bb⟩
    replace HX := Lib.hid (HX.out.trans (bb.mono HX.out.size))
    clear bb
    go_wp2_with fail
    refine hK.out _ _ (KEEP.out _ HX.out) (fun hHeld => ?_)
    clear hK K
    try go_frame
    refine tk 8 rfl (fun w hSw => by (try dsimp only at hSw); go_simp; try with_reducible rfl) ?_
    go_frame
    refine tk 9 rfl (fun w hSw => by (try dsimp only at hSw); go_simp; try with_reducible rfl) ?_
    go_frame
    refine tk 10 rfl (fun w hSw => by (try dsimp only at hSw); go_simp; try with_reducible rfl) ?_
    go_frame
    refine tk 11 rfl (fun w hSw => by (try dsimp only at hSw); go_simp; try with_reducible rfl) ?_
    go_frame
    refine do_at (i := 12) rfl (by kernel_rfl) (by kernel_rfl) (fun K hK => ?_)
    go_simp
    refine (priv_any 7 _).mono ?_
    rintro e x5 ⟨rfl, bb⟩
    replace HX := Lib.hid (HX.out.trans (bb.mono HX.out.size))
    clear bb
    go_wp2_with fail
    refine hK.out _ _ (KEEP.out _ HX.out) (fun hHeld => ?_)
    clear hK K
    try go_frame
    refine do_at (i := 13) rfl (by kernel_rfl) (by kernel_rfl) (fun K hK => ?_)
    go_simp
    refine (HI3.out _).mono ?_
    rintro e x6 ⟨rfl, bb⟩
    replace HX := Lib.hid (HX.out.trans (bb.mono HX.out.size))
    clear bb
    go_wp2_with fail
    refine hK.out _ _ (KEEP.out _ HX.out) (fun hHeld => ?_)
    clear hK K
    try go_frame
    refine tk 14 rfl (fun w hSw => by (try dsimp only at hSw); go_simp; try with_reducible rfl) ?_
    go_frame
    refine tk 15 rfl (fun w hSw => by (try dsimp only at hSw); go_simp; try with_reducible rfl) ?_
    go_frame
    refine tk 16 rfl (fun w hSw => by (try dsimp only at hSw); go_simp; try with_reducible rfl) ?_
    go_frame
    refine do_at (i := 17) rfl (by kernel_rfl) (by kernel_rfl) (fun K hK => ?_)
    go_simp
    refine (priv_any 25 _).mono ?_
    rintro e x7 ⟨rfl, bb⟩
    replace HX := Lib.hid (HX.out.trans (bb.mono HX.out.size))
    clear bb
    go_wp2_with fail
    refine hK.out _ _ (KEEP.out _ HX.out) (fun hHeld => ?_)
    clear hK K
    try go_frame
    refine do_at (i := 18) rfl (by kernel_rfl) (by kernel_rfl) (fun K hK => ?_)
    go_simp
    refine (HI4.out _).mono ?_
    rintro e x8 ⟨rfl, bb⟩
    replace HX := Lib.hid (HX.out.trans (bb.mono HX.out.size))
    clear bb
    go_wp2_with fail
    refine hK.out _ _ (KEEP.out _ HX.out) (fun hHeld => ?_)
    clear hK K
    try go_frame
    refine tk 19 rfl (fun w hSw => by (try dsimp only at hSw); go_simp; try with_reducible rfl) ?_
    go_frame
    refine tk 20 rfl (fun w hSw => by (try dsimp only at hSw); go_simp; try with_reducible rfl) ?_
    go_frame
    refine tk 21 rfl (fun w hSw => by (try dsimp only at hSw); go_simp; try with_reducible rfl) ?_
    go_frame
    refine tk 23 rfl (fun w hSw => by (try dsimp only at hSw); go_simp; try with_reducible rfl) ?_
    go_frame
    refine do_at (i := 22) rfl (by kernel_rfl) (by kernel_rfl) (fun K hK => ?_)
    go_simp
    refine (HI5.out _).mono ?_
    rintro e x9 ⟨rfl, bb⟩
    replace HX := Lib.hid (HX.out.trans (bb.mono HX.out.size))
    clear bb
    go_wp2_with fail
    refine hK.out _ _ (KEEP.out _ HX.out) (fun hHeld => ?_)
    clear hK K
    try go_frame
    refine tk 24 rfl (fun w hSw => by (try dsimp only at hSw); go_simp; try with_reducible rfl) ?_
    go_frame
    refine tk 25 rfl (fun w hSw => by (try dsimp only at hSw); go_simp; try with_reducible rfl) ?_
    go_frame
    refine tk 26 rfl (fun w hSw => by (try dsimp only at hSw); go_simp; try with_reducible rfl) ?_
    go_frame
    refine tk 27 rfl (fun w hSw => by (try dsimp only at hSw); go_simp; try with_reducible rfl) ?_
    go_frame
    refine tk 28 rfl (fun w hSw => by (try dsimp only at hSw); go_simp; try with_reducible rfl) ?_
    go_frame
    refine sk 29 rfl ?_
    go_frame
    refine sk 30 rfl ?_
    go_frame
    refine sk 31 rfl ?_
    go_frame
    refine sk 32 rfl ?_
    go_frame
    refine sk 33 rfl ?_
    go_frame
    refine sk 34 rfl ?_
    go_frame
    refine sk 35 rfl ?_
    go_frame
    refine tk 36 rfl (fun w hSw => by (try dsimp only at hSw); go_simp; try with_reducible rfl) ?_
    go_frame
    refine tk 37 rfl (fun w hSw => by (try dsimp only at hSw); go_simp; try with_reducible rfl) ?_
    go_frame
    refine tk 38 rfl (fun w hSw => by (try dsimp only at hSw); go_simp; try with_reducible rfl) ?_
    go_frame
    refine wpAnyH_done (by kernel_rfl) ?_ _
    clear hHeld KEEP
    go_wp2
    go_ret
    exact ⟨by first | rfl | (show Ending.returned (.bool (((st : Nat) : Int) == ((st : Nat) : Int))) = Ending.returned (.bool true); rw [beq_self_eq_true]), HB.out.trans (HX.out.mono HB.out.size)⟩
end Go.Proofs.Ytjdfinimbdcmbaa.Lab
