/- ModeKnown: the chapter's examples; what is no mode; ends. -/
import Derived.Test.YtjdfinimbdcmbaaMdWorks
set_option linter.unusedVariables false
namespace Go.Proofs.Ytjdfinimbdcmbaa.Lab
open Go Go.RowKit

set_option maxHeartbeats 8000000 in
set_option maxRecDepth 100000 in
theorem modeKnown_walk (w : World) : Calls Try.prog 7 #[] w fun e w' => e = .returned (.bool true) ∧ Below w.heap.size w w' := by
  go_enter Try.func7, Try.ntmps7
  go_upto_region 1 with (fail)
  have HB := Lib.hid (Below.refl w.heap.size w)
  have KEEP := Lib.hid (show ∀ wx, Below w.heap.size w wx → True from fun _ _ => trivial)
  have HX := Lib.hid (Below.refl w.heap.size w)
  obtain ⟨k1, hk1⟩ : ∃ b, b = w.heap.size := ⟨_, rfl⟩
  obtain ⟨w1, hw1⟩ : ∃ x, x = w.alloc (.cells #[.int .u16 0] 27) := ⟨_, rfl⟩
  have HNk1 := Lib.hid (show w1.heap[k1]? = some (.cells #[.int .u16 0] 27 (0, 0)) by rw [hw1, hk1]; exact World.alloc_heap_new _ _)
  have HXA := Lib.hid (show Below w.heap.size w w1 by rw [hw1]; exact HX.out.alloc HX.out.size _)
  replace HB := Lib.hid (HB.out.trans (HXA.out.mono HB.out.size))
  replace KEEP := Lib.hid (show ∀ wx, Below w1.heap.size w1 wx → wx.cell? ⟨k1, 0, none⟩ = some (.int .u16 0) from fun wx hx => (hx.cell (World.block_lt_of_cell? w1 _ (one_cell HNk1.out).1)).trans (one_cell HNk1.out).1)
  go_upto_region 2 with (fail)
  rw [← hw1, ← hk1]
  clear hw1 hk1 HX HXA HNk1
  have HX := Lib.hid (Below.refl w1.heap.size w1)
  have hcc := KEEP.out _ (Below.refl _ _)
  have cc0 := hcc
  clear hcc
  go_wp2_with fail
  refine (put_c (s := 0) (r := 0) (k := 0) (S := 0) (R := 0) (K := 0) true _ [] rfl rfl rfl (by decide) (by decide +kernel) _ (moIn_nil _) (by decide) (by decide)).mono ?_
  rintro e w2 ⟨rfl, bb⟩
  replace HX := Lib.hid (HX.out.trans (bb.mono HX.out.size))
  clear bb
  obtain ⟨k2, hk2⟩ : ∃ b, b = w2.heap.size := ⟨_, rfl⟩
  obtain ⟨w3, hw3⟩ : ∃ x, x = w2.alloc (.cells #[.int .u16 0] 27) := ⟨_, rfl⟩
  have HNk2 := Lib.hid (show w3.heap[k2]? = some (.cells #[.int .u16 0] 27 (0, 0)) by rw [hw3, hk2]; exact World.alloc_heap_new _ _)
  have HXA := Lib.hid (show Below w1.heap.size w1 w3 by rw [hw3]; exact HX.out.alloc HX.out.size _)
  replace HB := Lib.hid (HB.out.trans (HXA.out.mono HB.out.size))
  replace KEEP := Lib.hid (show ∀ wx, Below w3.heap.size w3 wx → wx.cell? ⟨k1, 0, none⟩ = some (.int .u16 0) ∧ wx.cell? ⟨k2, 0, none⟩ = some (.int .u16 0) from fun wx hx => ⟨(KEEP.out wx (HXA.out.trans (hx.mono HXA.out.size))), (hx.cell (World.block_lt_of_cell? w3 _ (one_cell HNk2.out).1)).trans (one_cell HNk2.out).1⟩)
  go_upto_region 3 with (fail)
  rw [← hw3, ← hk2]
  clear hw3 hk2 HX HXA HNk2
  clear cc0
  have HX := Lib.hid (Below.refl w3.heap.size w3)
  have hcc := KEEP.out _ (Below.refl _ _)
  obtain ⟨cc0, cc1⟩ := hcc
  go_wp2_with fail
  refine (mnew_any _).mono ?_
  rintro e w4 ⟨rfl, bb⟩
  replace HX := Lib.hid (HX.out.trans (bb.mono HX.out.size))
  clear bb
  go_wp2_with fail
  refine (ansi_any 1 _).mono ?_
  rintro e w5 ⟨rfl, bb⟩
  replace HX := Lib.hid (HX.out.trans (bb.mono HX.out.size))
  clear bb
  go_wp2_with fail
  refine (ansi_any 7 _).mono ?_
  rintro e w6 ⟨rfl, bb⟩
  replace HX := Lib.hid (HX.out.trans (bb.mono HX.out.size))
  clear bb
  go_wp2_with fail
  refine (ansi_any 25 _).mono ?_
  rintro e w7 ⟨rfl, bb⟩
  replace HX := Lib.hid (HX.out.trans (bb.mono HX.out.size))
  clear bb
  go_wp2_with fail
  refine (priv_any 4 _).mono ?_
  rintro e w8 ⟨rfl, bb⟩
  replace HX := Lib.hid (HX.out.trans (bb.mono HX.out.size))
  clear bb
  go_wp2_with fail
  refine (priv_any 20 _).mono ?_
  rintro e w9 ⟨rfl, bb⟩
  replace HX := Lib.hid (HX.out.trans (bb.mono HX.out.size))
  clear bb
  go_wp2_with fail
  refine (priv_any 0 _).mono ?_
  rintro e w10 ⟨rfl, bb⟩
  replace HX := Lib.hid (HX.out.trans (bb.mono HX.out.size))
  clear bb
  go_wp2_with fail
  refine (ansi_any (-1) _).mono ?_
  rintro e w11 ⟨rfl, bb⟩
  replace HX := Lib.hid (HX.out.trans (bb.mono HX.out.size))
  clear bb
  go_wp2_with fail
  refine (priv_any 1006 _).mono ?_
  rintro e w12 ⟨rfl, bb⟩
  replace HX := Lib.hid (HX.out.trans (bb.mono HX.out.size))
  clear bb
  go_wp2_with fail
  refine (put_c (s := 96) (r := 96) (k := 0) (S := 96) (R := 96) (K := 0) true _ [(false, 1), (false, 7), (false, 25), (true, 4), (true, 20), (true, 0), (false, -1), (true, 1006)] rfl rfl rfl (by decide) (by decide +kernel) _ (lit_in w12 [(false, 1), (false, 7), (false, 25), (true, 4), (true, 20), (true, 0), (false, -1), (true, 1006)] 24 (by decide) _ rfl) (by decide) (by decide)).mono ?_
  rintro e w13 ⟨rfl, bb⟩
  replace HX := Lib.hid (below_al HX.out _ bb)
  clear bb
  obtain ⟨k3, hk3⟩ : ∃ b, b = w13.heap.size := ⟨_, rfl⟩
  obtain ⟨w14, hw14⟩ : ∃ x, x = w13.alloc (.cells #[.int .u16 96] 27) := ⟨_, rfl⟩
  have HNk3 := Lib.hid (show w14.heap[k3]? = some (.cells #[.int .u16 96] 27 (0, 0)) by rw [hw14, hk3]; exact World.alloc_heap_new _ _)
  have HXA := Lib.hid (show Below w3.heap.size w3 w14 by rw [hw14]; exact HX.out.alloc HX.out.size _)
  replace HB := Lib.hid (HB.out.trans (HXA.out.mono HB.out.size))
  replace KEEP := Lib.hid (show ∀ wx, Below w14.heap.size w14 wx → wx.cell? ⟨k1, 0, none⟩ = some (.int .u16 0) ∧ wx.cell? ⟨k2, 0, none⟩ = some (.int .u16 0) ∧ wx.cell? ⟨k3, 0, none⟩ = some (.int .u16 96) from fun wx hx => ⟨(KEEP.out wx (HXA.out.trans (hx.mono HXA.out.size))).1, (KEEP.out wx (HXA.out.trans (hx.mono HXA.out.size))).2, (hx.cell (World.block_lt_of_cell? w14 _ (one_cell HNk3.out).1)).trans (one_cell HNk3.out).1⟩)
  go_upto_region 4 with (fail)
  rw [← hw14, ← hk3]
  clear hw14 hk3 HX HXA HNk3
  clear cc0 cc1
  have HX := Lib.hid (Below.refl w14.heap.size w14)
  have hcc := KEEP.out _ (Below.refl _ _)
  obtain ⟨cc0, cc1, cc2⟩ := hcc
  go_wp2_with fail
  refine (mnew_any _).mono ?_
  rintro e w15 ⟨rfl, bb⟩
  replace HX := Lib.hid (HX.out.trans (bb.mono HX.out.size))
  clear bb
  go_wp2_with fail
  refine (priv_any 1047 _).mono ?_
  rintro e w16 ⟨rfl, bb⟩
  replace HX := Lib.hid (HX.out.trans (bb.mono HX.out.size))
  clear bb
  go_wp2_with fail
  refine (put_c (s := 96) (r := 224) (k := 1) (S := 96) (R := 224) (K := 1) true _ [(true, 1047)] rfl rfl rfl (by decide) (by decide +kernel) _ (lit_in w16 [(true, 1047)] 24 (by decide) _ rfl) (by decide) (by decide)).mono ?_
  rintro e w17 ⟨rfl, bb⟩
  replace HX := Lib.hid (below_al HX.out _ bb)
  clear bb
  obtain ⟨k4, hk4⟩ : ∃ b, b = w17.heap.size := ⟨_, rfl⟩
  obtain ⟨w18, hw18⟩ : ∃ x, x = w17.alloc (.cells #[.int .u16 224] 27) := ⟨_, rfl⟩
  have HNk4 := Lib.hid (show w18.heap[k4]? = some (.cells #[.int .u16 224] 27 (0, 0)) by rw [hw18, hk4]; exact World.alloc_heap_new _ _)
  have HXA := Lib.hid (show Below w14.heap.size w14 w18 by rw [hw18]; exact HX.out.alloc HX.out.size _)
  replace HB := Lib.hid (HB.out.trans (HXA.out.mono HB.out.size))
  replace KEEP := Lib.hid (show ∀ wx, Below w18.heap.size w18 wx → wx.cell? ⟨k1, 0, none⟩ = some (.int .u16 0) ∧ wx.cell? ⟨k2, 0, none⟩ = some (.int .u16 0) ∧ wx.cell? ⟨k3, 0, none⟩ = some (.int .u16 96) ∧ wx.cell? ⟨k4, 0, none⟩ = some (.int .u16 224) from fun wx hx => ⟨(KEEP.out wx (HXA.out.trans (hx.mono HXA.out.size))).1, (KEEP.out wx (HXA.out.trans (hx.mono HXA.out.size))).2.1, (KEEP.out wx (HXA.out.trans (hx.mono HXA.out.size))).2.2, (hx.cell (World.block_lt_of_cell? w18 _ (one_cell HNk4.out).1)).trans (one_cell HNk4.out).1⟩)
  go_upto_region 5 with (fail)
  rw [← hw18, ← hk4]
  clear hw18 hk4 HX HXA HNk4
  clear cc0 cc1 cc2
  go_upto_region 5 with (fail)
  refine wp_region_held_drew (S := (fun wx => wx.cell? ⟨k1, 0, none⟩ = some (.int .u16 0) ∧ wx.cell? ⟨k2, 0, none⟩ = some (.int .u16 0) ∧ wx.cell? ⟨k3, 0, none⟩ = some (.int .u16 96) ∧ wx.cell? ⟨k4, 0, none⟩ = some (.int .u16 224))) (by kernel_rfl) (KEEP.out _ ((Below.refl _ _).drew)) (fun hHeld => ?_)
  obtain ⟨z19, hz19⟩ : ∃ X, X = w18.drew := ⟨_, rfl⟩
  have HX := Lib.hid (show Below w18.heap.size w18 z19 by rw [hz19]; exact (Below.refl _ _).drew)
  replace hHeld := KEEP.out _ HX.out
  rw [← hz19]
  clear hz19
  refine tk 0 rfl (fun w hSw => by (try dsimp only at hSw); go_simp; try with_reducible rfl) ?_
  go_frame
  refine many_at (I := [(1, some 38), (2, some 39), (3, some 40), (4, some 41), (5, some 42), (6, some 43), (7, some 44), (8, some 45), (9, some 36), (10, some 46), (11, some 47), (12, some 8), (13, none)]) (fun i => if i = 2 then [1] else if i = 3 then [2] else if i = 4 then [3] else if i = 5 then [4] else if i = 6 then [5] else if i = 7 then [1, 2, 3, 4, 5, 6] else if i = 8 then [6, 7] else if i = 9 then [8] else if i = 10 then [9] else if i = 11 then [9] else if i = 13 then [1, 2, 3, 4, 5, 6, 7, 8, 9, 10, 12] else []) [true, false, false, false, false, false, false, false, false, false, false, false, false, false, false] (listed' := #[true, true, true, true, true, true, true, true, true, true, true, true, true, true, false]) (fun f y w => Below w18.heap.size w18 w ∧ (f 1 = true → y 1 = .agg #[.bool true, .int .i64 1048]) ∧ (f 2 = true → y 2 = .agg #[.bool false, .int .i64 20]) ∧ (f 3 = true → y 3 = .agg #[.bool true, .int .i64 2004]) ∧ (f 4 = true → y 4 = .agg #[.bool true, .int .i64 1004]) ∧ (f 5 = true → y 5 = .agg #[.bool true, .int .i64 5]) ∧ (f 6 = true → y 6 = .agg #[.bool true, .int .i64 1]) ∧ (f 7 = true → f 8 = false → ∃ g, y 7 = .slice (some ⟨g, 0, none⟩) 6 6 ∧ MoIn w (.slice (some ⟨g, 0, none⟩) 6 6) [(true, 1048), (false, 20), (true, 2004), (true, 1004), (true, 5), (true, 1)]) ∧ (f 8 = true → y 8 = .tuple #[.agg #[.int .u16 2030], .int .i64 6]) ∧ (f 9 = true → y 9 = .tuple #[.agg #[.int .u16 2030], .int .i64 6]) ∧ (f 10 = true → y 10 = .agg #[.int .u16 2030]) ∧ (f 11 = true → y 11 = .int .i64 6) ∧ (f 12 = true → f 13 = false → ∃ b, y 12 = .pointer (some ⟨b, 0, none⟩) ∧ w.heap[b]? = some (.cells #[.int .u16 0] 27 (0, 0)) ∧ w18.heap.size ≤ b) ∧ (f 13 = true → f 12 = true ∧ ∃ b, y 12 = .pointer (some ⟨b, 0, none⟩) ∧ w.heap[b]? = some (.cells #[.int .u16 2030] 27 (0, 0)) ∧ w18.heap.size ≤ b)) rfl (by rfl) (by decide) (by kernel_rfl) (by kernel_rfl) (fun _ => ⟨HX.out, fun h => (by cases h), fun h => (by cases h), fun h => (by cases h), fun h => (by cases h), fun h => (by cases h), fun h => (by cases h), fun h => (by cases h), fun h => (by cases h), fun h => (by cases h), fun h => (by cases h), fun h => (by cases h), fun h => (by cases h), fun h => (by cases h)⟩) hHeld ?_ ?_
  · clear HX hHeld
    refine List.forall_mem_cons.2 ⟨?_, List.forall_mem_cons.2 ⟨?_, List.forall_mem_cons.2 ⟨?_, List.forall_mem_cons.2 ⟨?_, List.forall_mem_cons.2 ⟨?_, List.forall_mem_cons.2 ⟨?_, List.forall_mem_cons.2 ⟨?_, List.forall_mem_cons.2 ⟨?_, List.forall_mem_cons.2 ⟨?_, List.forall_mem_cons.2 ⟨?_, List.forall_mem_cons.2 ⟨?_, List.forall_mem_cons.2 ⟨?_, List.forall_mem_cons.2 ⟨?_, fun _ h => by cases h⟩⟩⟩⟩⟩⟩⟩⟩⟩⟩⟩⟩⟩
    · refine StepM.mk rfl rfl (fun y => by kernel_rfl) (fun f y u hf hdp hI hHeld K hK => ?_)
      have HI := Lib.hid hI
      clear hI hf hdp
      simp only [actM, List.foldl_cons, List.foldl_nil, Act.put, List.setIfInBounds_toArray, List.set_cons_zero, List.set_cons_succ]
      go_simp
      refine (priv_any 1048 _).mono ?_
      rintro e u' ⟨rfl, bb⟩
      have BB := Lib.hid bb
      clear bb
      go_wp2_with fail
      exact hK.out (.agg #[.bool true, .int .i64 1048]) _ _ (by kernel_rfl) ⟨HI.out.1.trans (BB.out.mono HI.out.1.size), fun _ => updM_eq _ _ _, fun h => (updM_ne _ _ (by decide)).trans (HI.out.2.2.1 (or_ne (by decide) h)), fun h => (updM_ne _ _ (by decide)).trans (HI.out.2.2.2.1 (or_ne (by decide) h)), fun h => (updM_ne _ _ (by decide)).trans (HI.out.2.2.2.2.1 (or_ne (by decide) h)), fun h => (updM_ne _ _ (by decide)).trans (HI.out.2.2.2.2.2.1 (or_ne (by decide) h)), fun h => (updM_ne _ _ (by decide)).trans (HI.out.2.2.2.2.2.2.1 (or_ne (by decide) h)), fun h h' => (by obtain ⟨g, e1, e2⟩ := HI.out.2.2.2.2.2.2.2.1 (or_ne (by decide) h) (or_nf h'); exact ⟨g, (updM_ne _ _ (by decide)).trans e1, e2.below BB.out⟩), fun h => (updM_ne _ _ (by decide)).trans (HI.out.2.2.2.2.2.2.2.2.1 (or_ne (by decide) h)), fun h => (updM_ne _ _ (by decide)).trans (HI.out.2.2.2.2.2.2.2.2.2.1 (or_ne (by decide) h)), fun h => (updM_ne _ _ (by decide)).trans (HI.out.2.2.2.2.2.2.2.2.2.2.1 (or_ne (by decide) h)), fun h => (updM_ne _ _ (by decide)).trans (HI.out.2.2.2.2.2.2.2.2.2.2.2.1 (or_ne (by decide) h)), fun h h' => (by obtain ⟨b, e1, e2, e3⟩ := HI.out.2.2.2.2.2.2.2.2.2.2.2.2.1 (or_ne (by decide) h) (or_nf h'); exact ⟨b, (updM_ne _ _ (by decide)).trans e1, (BB.out.block b (Array.getElem?_eq_some_iff.1 e2).1).trans e2, e3⟩), fun h => (by obtain ⟨h0, b, e1, e2, e3⟩ := HI.out.2.2.2.2.2.2.2.2.2.2.2.2.2 (or_ne (by decide) h); exact ⟨or_t h0, b, (updM_ne _ _ (by decide)).trans e1, (BB.out.block b (Array.getElem?_eq_some_iff.1 e2).1).trans e2, e3⟩)⟩ (KEEP.out _ (HI.out.1.trans (BB.out.mono HI.out.1.size)))
    · refine StepM.mk rfl rfl (fun y => by kernel_rfl) (fun f y u hf hdp hI hHeld K hK => ?_)
      have HI := Lib.hid hI
      clear hI hf hdp
      simp only [actM, List.foldl_cons, List.foldl_nil, Act.put, List.setIfInBounds_toArray, List.set_cons_zero, List.set_cons_succ]
      go_simp
      refine (ansi_any 20 _).mono ?_
      rintro e u' ⟨rfl, bb⟩
      have BB := Lib.hid bb
      clear bb
      go_wp2_with fail
      exact hK.out (.agg #[.bool false, .int .i64 20]) _ _ (by kernel_rfl) ⟨HI.out.1.trans (BB.out.mono HI.out.1.size), fun h => (updM_ne _ _ (by decide)).trans (HI.out.2.1 (or_ne (by decide) h)), fun _ => updM_eq _ _ _, fun h => (updM_ne _ _ (by decide)).trans (HI.out.2.2.2.1 (or_ne (by decide) h)), fun h => (updM_ne _ _ (by decide)).trans (HI.out.2.2.2.2.1 (or_ne (by decide) h)), fun h => (updM_ne _ _ (by decide)).trans (HI.out.2.2.2.2.2.1 (or_ne (by decide) h)), fun h => (updM_ne _ _ (by decide)).trans (HI.out.2.2.2.2.2.2.1 (or_ne (by decide) h)), fun h h' => (by obtain ⟨g, e1, e2⟩ := HI.out.2.2.2.2.2.2.2.1 (or_ne (by decide) h) (or_nf h'); exact ⟨g, (updM_ne _ _ (by decide)).trans e1, e2.below BB.out⟩), fun h => (updM_ne _ _ (by decide)).trans (HI.out.2.2.2.2.2.2.2.2.1 (or_ne (by decide) h)), fun h => (updM_ne _ _ (by decide)).trans (HI.out.2.2.2.2.2.2.2.2.2.1 (or_ne (by decide) h)), fun h => (updM_ne _ _ (by decide)).trans (HI.out.2.2.2.2.2.2.2.2.2.2.1 (or_ne (by decide) h)), fun h => (updM_ne _ _ (by decide)).trans (HI.out.2.2.2.2.2.2.2.2.2.2.2.1 (or_ne (by decide) h)), fun h h' => (by obtain ⟨b, e1, e2, e3⟩ := HI.out.2.2.2.2.2.2.2.2.2.2.2.2.1 (or_ne (by decide) h) (or_nf h'); exact ⟨b, (updM_ne _ _ (by decide)).trans e1, (BB.out.block b (Array.getElem?_eq_some_iff.1 e2).1).trans e2, e3⟩), fun h => (by obtain ⟨h0, b, e1, e2, e3⟩ := HI.out.2.2.2.2.2.2.2.2.2.2.2.2.2 (or_ne (by decide) h); exact ⟨or_t h0, b, (updM_ne _ _ (by decide)).trans e1, (BB.out.block b (Array.getElem?_eq_some_iff.1 e2).1).trans e2, e3⟩)⟩ (KEEP.out _ (HI.out.1.trans (BB.out.mono HI.out.1.size)))
    · refine StepM.mk rfl rfl (fun y => by kernel_rfl) (fun f y u hf hdp hI hHeld K hK => ?_)
      have HI := Lib.hid hI
      clear hI hf hdp
      simp only [actM, List.foldl_cons, List.foldl_nil, Act.put, List.setIfInBounds_toArray, List.set_cons_zero, List.set_cons_succ]
      go_simp
      refine (priv_any 2004 _).mono ?_
      rintro e u' ⟨rfl, bb⟩
      have BB := Lib.hid bb
      clear bb
      go_wp2_with fail
      exact hK.out (.agg #[.bool true, .int .i64 2004]) _ _ (by kernel_rfl) ⟨HI.out.1.trans (BB.out.mono HI.out.1.size), fun h => (updM_ne _ _ (by decide)).trans (HI.out.2.1 (or_ne (by decide) h)), fun h => (updM_ne _ _ (by decide)).trans (HI.out.2.2.1 (or_ne (by decide) h)), fun _ => updM_eq _ _ _, fun h => (updM_ne _ _ (by decide)).trans (HI.out.2.2.2.2.1 (or_ne (by decide) h)), fun h => (updM_ne _ _ (by decide)).trans (HI.out.2.2.2.2.2.1 (or_ne (by decide) h)), fun h => (updM_ne _ _ (by decide)).trans (HI.out.2.2.2.2.2.2.1 (or_ne (by decide) h)), fun h h' => (by obtain ⟨g, e1, e2⟩ := HI.out.2.2.2.2.2.2.2.1 (or_ne (by decide) h) (or_nf h'); exact ⟨g, (updM_ne _ _ (by decide)).trans e1, e2.below BB.out⟩), fun h => (updM_ne _ _ (by decide)).trans (HI.out.2.2.2.2.2.2.2.2.1 (or_ne (by decide) h)), fun h => (updM_ne _ _ (by decide)).trans (HI.out.2.2.2.2.2.2.2.2.2.1 (or_ne (by decide) h)), fun h => (updM_ne _ _ (by decide)).trans (HI.out.2.2.2.2.2.2.2.2.2.2.1 (or_ne (by decide) h)), fun h => (updM_ne _ _ (by decide)).trans (HI.out.2.2.2.2.2.2.2.2.2.2.2.1 (or_ne (by decide) h)), fun h h' => (by obtain ⟨b, e1, e2, e3⟩ := HI.out.2.2.2.2.2.2.2.2.2.2.2.2.1 (or_ne (by decide) h) (or_nf h'); exact ⟨b, (updM_ne _ _ (by decide)).trans e1, (BB.out.block b (Array.getElem?_eq_some_iff.1 e2).1).trans e2, e3⟩), fun h => (by obtain ⟨h0, b, e1, e2, e3⟩ := HI.out.2.2.2.2.2.2.2.2.2.2.2.2.2 (or_ne (by decide) h); exact ⟨or_t h0, b, (updM_ne _ _ (by decide)).trans e1, (BB.out.block b (Array.getElem?_eq_some_iff.1 e2).1).trans e2, e3⟩)⟩ (KEEP.out _ (HI.out.1.trans (BB.out.mono HI.out.1.size)))
    · refine StepM.mk rfl rfl (fun y => by kernel_rfl) (fun f y u hf hdp hI hHeld K hK => ?_)
      have HI := Lib.hid hI
      clear hI hf hdp
      simp only [actM, List.foldl_cons, List.foldl_nil, Act.put, List.setIfInBounds_toArray, List.set_cons_zero, List.set_cons_succ]
      go_simp
      refine (priv_any 1004 _).mono ?_
      rintro e u' ⟨rfl, bb⟩
      have BB := Lib.hid bb
      clear bb
      go_wp2_with fail
      exact hK.out (.agg #[.bool true, .int .i64 1004]) _ _ (by kernel_rfl) ⟨HI.out.1.trans (BB.out.mono HI.out.1.size), fun h => (updM_ne _ _ (by decide)).trans (HI.out.2.1 (or_ne (by decide) h)), fun h => (updM_ne _ _ (by decide)).trans (HI.out.2.2.1 (or_ne (by decide) h)), fun h => (updM_ne _ _ (by decide)).trans (HI.out.2.2.2.1 (or_ne (by decide) h)), fun _ => updM_eq _ _ _, fun h => (updM_ne _ _ (by decide)).trans (HI.out.2.2.2.2.2.1 (or_ne (by decide) h)), fun h => (updM_ne _ _ (by decide)).trans (HI.out.2.2.2.2.2.2.1 (or_ne (by decide) h)), fun h h' => (by obtain ⟨g, e1, e2⟩ := HI.out.2.2.2.2.2.2.2.1 (or_ne (by decide) h) (or_nf h'); exact ⟨g, (updM_ne _ _ (by decide)).trans e1, e2.below BB.out⟩), fun h => (updM_ne _ _ (by decide)).trans (HI.out.2.2.2.2.2.2.2.2.1 (or_ne (by decide) h)), fun h => (updM_ne _ _ (by decide)).trans (HI.out.2.2.2.2.2.2.2.2.2.1 (or_ne (by decide) h)), fun h => (updM_ne _ _ (by decide)).trans (HI.out.2.2.2.2.2.2.2.2.2.2.1 (or_ne (by decide) h)), fun h => (updM_ne _ _ (by decide)).trans (HI.out.2.2.2.2.2.2.2.2.2.2.2.1 (or_ne (by decide) h)), fun h h' => (by obtain ⟨b, e1, e2, e3⟩ := HI.out.2.2.2.2.2.2.2.2.2.2.2.2.1 (or_ne (by decide) h) (or_nf h'); exact ⟨b, (updM_ne _ _ (by decide)).trans e1, (BB.out.block b (Array.getElem?_eq_some_iff.1 e2).1).trans e2, e3⟩), fun h => (by obtain ⟨h0, b, e1, e2, e3⟩ := HI.out.2.2.2.2.2.2.2.2.2.2.2.2.2 (or_ne (by decide) h); exact ⟨or_t h0, b, (updM_ne _ _ (by decide)).trans e1, (BB.out.block b (Array.getElem?_eq_some_iff.1 e2).1).trans e2, e3⟩)⟩ (KEEP.out _ (HI.out.1.trans (BB.out.mono HI.out.1.size)))
    · refine StepM.mk rfl rfl (fun y => by kernel_rfl) (fun f y u hf hdp hI hHeld K hK => ?_)
      have HI := Lib.hid hI
      clear hI hf hdp
      simp only [actM, List.foldl_cons, List.foldl_nil, Act.put, List.setIfInBounds_toArray, List.set_cons_zero, List.set_cons_succ]
      go_simp
      refine (priv_any 5 _).mono ?_
      rintro e u' ⟨rfl, bb⟩
      have BB := Lib.hid bb
      clear bb
      go_wp2_with fail
      exact hK.out (.agg #[.bool true, .int .i64 5]) _ _ (by kernel_rfl) ⟨HI.out.1.trans (BB.out.mono HI.out.1.size), fun h => (updM_ne _ _ (by decide)).trans (HI.out.2.1 (or_ne (by decide) h)), fun h => (updM_ne _ _ (by decide)).trans (HI.out.2.2.1 (or_ne (by decide) h)), fun h => (updM_ne _ _ (by decide)).trans (HI.out.2.2.2.1 (or_ne (by decide) h)), fun h => (updM_ne _ _ (by decide)).trans (HI.out.2.2.2.2.1 (or_ne (by decide) h)), fun _ => updM_eq _ _ _, fun h => (updM_ne _ _ (by decide)).trans (HI.out.2.2.2.2.2.2.1 (or_ne (by decide) h)), fun h h' => (by obtain ⟨g, e1, e2⟩ := HI.out.2.2.2.2.2.2.2.1 (or_ne (by decide) h) (or_nf h'); exact ⟨g, (updM_ne _ _ (by decide)).trans e1, e2.below BB.out⟩), fun h => (updM_ne _ _ (by decide)).trans (HI.out.2.2.2.2.2.2.2.2.1 (or_ne (by decide) h)), fun h => (updM_ne _ _ (by decide)).trans (HI.out.2.2.2.2.2.2.2.2.2.1 (or_ne (by decide) h)), fun h => (updM_ne _ _ (by decide)).trans (HI.out.2.2.2.2.2.2.2.2.2.2.1 (or_ne (by decide) h)), fun h => (updM_ne _ _ (by decide)).trans (HI.out.2.2.2.2.2.2.2.2.2.2.2.1 (or_ne (by decide) h)), fun h h' => (by obtain ⟨b, e1, e2, e3⟩ := HI.out.2.2.2.2.2.2.2.2.2.2.2.2.1 (or_ne (by decide) h) (or_nf h'); exact ⟨b, (updM_ne _ _ (by decide)).trans e1, (BB.out.block b (Array.getElem?_eq_some_iff.1 e2).1).trans e2, e3⟩), fun h => (by obtain ⟨h0, b, e1, e2, e3⟩ := HI.out.2.2.2.2.2.2.2.2.2.2.2.2.2 (or_ne (by decide) h); exact ⟨or_t h0, b, (updM_ne _ _ (by decide)).trans e1, (BB.out.block b (Array.getElem?_eq_some_iff.1 e2).1).trans e2, e3⟩)⟩ (KEEP.out _ (HI.out.1.trans (BB.out.mono HI.out.1.size)))
    · refine StepM.mk rfl rfl (fun y => by kernel_rfl) (fun f y u hf hdp hI hHeld K hK => ?_)
      have HI := Lib.hid hI
      clear hI hf hdp
      simp only [actM, List.foldl_cons, List.foldl_nil, Act.put, List.setIfInBounds_toArray, List.set_cons_zero, List.set_cons_succ]
      go_simp
      refine (priv_any 1 _).mono ?_
      rintro e u' ⟨rfl, bb⟩
      have BB := Lib.hid bb
      clear bb
      go_wp2_with fail
      exact hK.out (.agg #[.bool true, .int .i64 1]) _ _ (by kernel_rfl) ⟨HI.out.1.trans (BB.out.mono HI.out.1.size), fun h => (updM_ne _ _ (by decide)).trans (HI.out.2.1 (or_ne (by decide) h)), fun h => (updM_ne _ _ (by decide)).trans (HI.out.2.2.1 (or_ne (by decide) h)), fun h => (updM_ne _ _ (by decide)).trans (HI.out.2.2.2.1 (or_ne (by decide) h)), fun h => (updM_ne _ _ (by decide)).trans (HI.out.2.2.2.2.1 (or_ne (by decide) h)), fun h => (updM_ne _ _ (by decide)).trans (HI.out.2.2.2.2.2.1 (or_ne (by decide) h)), fun _ => updM_eq _ _ _, fun h h' => (by obtain ⟨g, e1, e2⟩ := HI.out.2.2.2.2.2.2.2.1 (or_ne (by decide) h) (or_nf h'); exact ⟨g, (updM_ne _ _ (by decide)).trans e1, e2.below BB.out⟩), fun h => (updM_ne _ _ (by decide)).trans (HI.out.2.2.2.2.2.2.2.2.1 (or_ne (by decide) h)), fun h => (updM_ne _ _ (by decide)).trans (HI.out.2.2.2.2.2.2.2.2.2.1 (or_ne (by decide) h)), fun h => (updM_ne _ _ (by decide)).trans (HI.out.2.2.2.2.2.2.2.2.2.2.1 (or_ne (by decide) h)), fun h => (updM_ne _ _ (by decide)).trans (HI.out.2.2.2.2.2.2.2.2.2.2.2.1 (or_ne (by decide) h)), fun h h' => (by obtain ⟨b, e1, e2, e3⟩ := HI.out.2.2.2.2.2.2.2.2.2.2.2.2.1 (or_ne (by decide) h) (or_nf h'); exact ⟨b, (updM_ne _ _ (by decide)).trans e1, (BB.out.block b (Array.getElem?_eq_some_iff.1 e2).1).trans e2, e3⟩), fun h => (by obtain ⟨h0, b, e1, e2, e3⟩ := HI.out.2.2.2.2.2.2.2.2.2.2.2.2.2 (or_ne (by decide) h); exact ⟨or_t h0, b, (updM_ne _ _ (by decide)).trans e1, (BB.out.block b (Array.getElem?_eq_some_iff.1 e2).1).trans e2, e3⟩)⟩ (KEEP.out _ (HI.out.1.trans (BB.out.mono HI.out.1.size)))
    · refine StepM.mk rfl rfl (fun y => by kernel_rfl) (fun f y u hf hdp hI hHeld K hK => ?_)
      have HI := Lib.hid hI
      have e1 := HI.out.2.1 (hdp 1 (by decide))
      have e2 := HI.out.2.2.1 (hdp 2 (by decide))
      have e3 := HI.out.2.2.2.1 (hdp 3 (by decide))
      have e4 := HI.out.2.2.2.2.1 (hdp 4 (by decide))
      have e5 := HI.out.2.2.2.2.2.1 (hdp 5 (by decide))
      have e6 := HI.out.2.2.2.2.2.2.1 (hdp 6 (by decide))
      clear hI hf hdp
      simp only [actM, List.foldl_cons, List.foldl_nil, Act.put, List.setIfInBounds_toArray, List.set_cons_zero, List.set_cons_succ, e1, e2, e3, e4, e5, e6]
      have He1 := Lib.hid e1
      have He2 := Lib.hid e2
      have He3 := Lib.hid e3
      have He4 := Lib.hid e4
      have He5 := Lib.hid e5
      have He6 := Lib.hid e6
      clear e1 e2 e3 e4 e5 e6
      have HM := Lib.hid (lit_in u [(true, 1048), (false, 20), (true, 2004), (true, 1004), (true, 5), (true, 1)] 24 (by decide) _ rfl)
      have BB := Lib.hid (show Below u.heap.size u (u.alloc (.cells #[.bool true, .int .i64 1048, .bool false, .int .i64 20, .bool true, .int .i64 2004, .bool true, .int .i64 1004, .bool true, .int .i64 5, .bool true, .int .i64 1] 24)) from (Below.refl _ _).alloc (Nat.le_refl _) _)
      go_wp2_with fail
      exact hK.out (.slice (some ⟨u.heap.size, 0, none⟩) 6 6) _ _ (by simp only [actM, List.foldl_cons, List.foldl_nil, Act.put, List.setIfInBounds_toArray, List.set_cons_zero, List.set_cons_succ, He1.out, He2.out, He3.out, He4.out, He5.out, He6.out]) ⟨HI.out.1.trans (BB.out.mono HI.out.1.size), fun h => (updM_ne _ _ (by decide)).trans (HI.out.2.1 (or_ne (by decide) h)), fun h => (updM_ne _ _ (by decide)).trans (HI.out.2.2.1 (or_ne (by decide) h)), fun h => (updM_ne _ _ (by decide)).trans (HI.out.2.2.2.1 (or_ne (by decide) h)), fun h => (updM_ne _ _ (by decide)).trans (HI.out.2.2.2.2.1 (or_ne (by decide) h)), fun h => (updM_ne _ _ (by decide)).trans (HI.out.2.2.2.2.2.1 (or_ne (by decide) h)), fun h => (updM_ne _ _ (by decide)).trans (HI.out.2.2.2.2.2.2.1 (or_ne (by decide) h)), fun _ _ => ⟨_, updM_eq _ _ _, HM.out⟩, fun h => (updM_ne _ _ (by decide)).trans (HI.out.2.2.2.2.2.2.2.2.1 (or_ne (by decide) h)), fun h => (updM_ne _ _ (by decide)).trans (HI.out.2.2.2.2.2.2.2.2.2.1 (or_ne (by decide) h)), fun h => (updM_ne _ _ (by decide)).trans (HI.out.2.2.2.2.2.2.2.2.2.2.1 (or_ne (by decide) h)), fun h => (updM_ne _ _ (by decide)).trans (HI.out.2.2.2.2.2.2.2.2.2.2.2.1 (or_ne (by decide) h)), fun h h' => (by obtain ⟨b, e1, e2, e3⟩ := HI.out.2.2.2.2.2.2.2.2.2.2.2.2.1 (or_ne (by decide) h) (or_nf h'); exact ⟨b, (updM_ne _ _ (by decide)).trans e1, (BB.out.block b (Array.getElem?_eq_some_iff.1 e2).1).trans e2, e3⟩), fun h => (by obtain ⟨h0, b, e1, e2, e3⟩ := HI.out.2.2.2.2.2.2.2.2.2.2.2.2.2 (or_ne (by decide) h); exact ⟨or_t h0, b, (updM_ne _ _ (by decide)).trans e1, (BB.out.block b (Array.getElem?_eq_some_iff.1 e2).1).trans e2, e3⟩)⟩ (KEEP.out _ (HI.out.1.trans (BB.out.mono HI.out.1.size)))
    · refine StepM.mk rfl rfl (fun y => by kernel_rfl) (fun f y u hf hdp hI hHeld K hK => ?_)
      have HI := Lib.hid hI
      obtain ⟨g, e7, hm⟩ := HI.out.2.2.2.2.2.2.2.1 (hdp 7 (by decide)) hf
      have HM := Lib.hid hm
      clear hm
      clear hI hf hdp
      simp only [actM, List.foldl_cons, List.foldl_nil, Act.put, List.setIfInBounds_toArray, List.set_cons_zero, List.set_cons_succ, e7]
      have He7 := Lib.hid e7
      clear e7
      go_simp
      refine (put_c (s := 224) (r := 2030) (k := 6) (S := 224) (R := 2030) (K := 6) true _ [(true, 1048), (false, 20), (true, 2004), (true, 1004), (true, 5), (true, 1)] rfl rfl rfl (by decide) (by decide +kernel) _ HM.out (by decide) (by decide)).mono ?_
      rintro e u' ⟨rfl, bb⟩
      have BB := Lib.hid bb
      clear bb
      go_wp2_with fail
      exact hK.out (.tuple #[.agg #[.int .u16 2030], .int .i64 6]) _ _ (by simp only [actM, List.foldl_cons, List.foldl_nil, Act.put, List.setIfInBounds_toArray, List.set_cons_zero, List.set_cons_succ, He7.out]) ⟨HI.out.1.trans (BB.out.mono HI.out.1.size), fun h => (updM_ne _ _ (by decide)).trans (HI.out.2.1 (or_ne (by decide) h)), fun h => (updM_ne _ _ (by decide)).trans (HI.out.2.2.1 (or_ne (by decide) h)), fun h => (updM_ne _ _ (by decide)).trans (HI.out.2.2.2.1 (or_ne (by decide) h)), fun h => (updM_ne _ _ (by decide)).trans (HI.out.2.2.2.2.1 (or_ne (by decide) h)), fun h => (updM_ne _ _ (by decide)).trans (HI.out.2.2.2.2.2.1 (or_ne (by decide) h)), fun h => (updM_ne _ _ (by decide)).trans (HI.out.2.2.2.2.2.2.1 (or_ne (by decide) h)), fun _ h => absurd h (by simp), fun _ => updM_eq _ _ _, fun h => (updM_ne _ _ (by decide)).trans (HI.out.2.2.2.2.2.2.2.2.2.1 (or_ne (by decide) h)), fun h => (updM_ne _ _ (by decide)).trans (HI.out.2.2.2.2.2.2.2.2.2.2.1 (or_ne (by decide) h)), fun h => (updM_ne _ _ (by decide)).trans (HI.out.2.2.2.2.2.2.2.2.2.2.2.1 (or_ne (by decide) h)), fun h h' => (by obtain ⟨b, e1, e2, e3⟩ := HI.out.2.2.2.2.2.2.2.2.2.2.2.2.1 (or_ne (by decide) h) (or_nf h'); exact ⟨b, (updM_ne _ _ (by decide)).trans e1, (BB.out.block b (Array.getElem?_eq_some_iff.1 e2).1).trans e2, e3⟩), fun h => (by obtain ⟨h0, b, e1, e2, e3⟩ := HI.out.2.2.2.2.2.2.2.2.2.2.2.2.2 (or_ne (by decide) h); exact ⟨or_t h0, b, (updM_ne _ _ (by decide)).trans e1, (BB.out.block b (Array.getElem?_eq_some_iff.1 e2).1).trans e2, e3⟩)⟩ (KEEP.out _ (HI.out.1.trans (BB.out.mono HI.out.1.size)))
    · refine StepM.mk rfl rfl (fun y => by kernel_rfl) (fun f y u hf hdp hI hHeld K hK => ?_)
      have HI := Lib.hid hI
      have e8 := HI.out.2.2.2.2.2.2.2.2.1 (hdp 8 (by decide))
      clear hI hf hdp
      simp only [actM, List.foldl_cons, List.foldl_nil, Act.put, List.setIfInBounds_toArray, List.set_cons_zero, List.set_cons_succ, e8]
      have He8 := Lib.hid e8
      clear e8
      go_wp2_with fail
      exact hK.out (.tuple #[.agg #[.int .u16 2030], .int .i64 6]) _ _ (by simp only [actM, List.foldl_cons, List.foldl_nil, Act.put, List.setIfInBounds_toArray, List.set_cons_zero, List.set_cons_succ, He8.out]) ⟨HI.out.1, fun h => (updM_ne _ _ (by decide)).trans (HI.out.2.1 (or_ne (by decide) h)), fun h => (updM_ne _ _ (by decide)).trans (HI.out.2.2.1 (or_ne (by decide) h)), fun h => (updM_ne _ _ (by decide)).trans (HI.out.2.2.2.1 (or_ne (by decide) h)), fun h => (updM_ne _ _ (by decide)).trans (HI.out.2.2.2.2.1 (or_ne (by decide) h)), fun h => (updM_ne _ _ (by decide)).trans (HI.out.2.2.2.2.2.1 (or_ne (by decide) h)), fun h => (updM_ne _ _ (by decide)).trans (HI.out.2.2.2.2.2.2.1 (or_ne (by decide) h)), fun h h' => (by obtain ⟨g, e1, e2⟩ := HI.out.2.2.2.2.2.2.2.1 (or_ne (by decide) h) (or_nf h'); exact ⟨g, (updM_ne _ _ (by decide)).trans e1, e2⟩), fun h => (updM_ne _ _ (by decide)).trans (HI.out.2.2.2.2.2.2.2.2.1 (or_ne (by decide) h)), fun _ => updM_eq _ _ _, fun h => (updM_ne _ _ (by decide)).trans (HI.out.2.2.2.2.2.2.2.2.2.2.1 (or_ne (by decide) h)), fun h => (updM_ne _ _ (by decide)).trans (HI.out.2.2.2.2.2.2.2.2.2.2.2.1 (or_ne (by decide) h)), fun h h' => (by obtain ⟨b, e1, e2, e3⟩ := HI.out.2.2.2.2.2.2.2.2.2.2.2.2.1 (or_ne (by decide) h) (or_nf h'); exact ⟨b, (updM_ne _ _ (by decide)).trans e1, e2, e3⟩), fun h => (by obtain ⟨h0, b, e1, e2, e3⟩ := HI.out.2.2.2.2.2.2.2.2.2.2.2.2.2 (or_ne (by decide) h); exact ⟨or_t h0, b, (updM_ne _ _ (by decide)).trans e1, e2, e3⟩)⟩ hHeld
    · refine StepM.mk rfl rfl (fun y => by kernel_rfl) (fun f y u hf hdp hI hHeld K hK => ?_)
      have HI := Lib.hid hI
      have e9 := HI.out.2.2.2.2.2.2.2.2.2.1 (hdp 9 (by decide))
      clear hI hf hdp
      simp only [actM, List.foldl_cons, List.foldl_nil, Act.put, List.setIfInBounds_toArray, List.set_cons_zero, List.set_cons_succ, e9]
      have He9 := Lib.hid e9
      clear e9
      go_wp2_with fail
      exact hK.out (.agg #[.int .u16 2030]) _ _ (by simp only [actM, List.foldl_cons, List.foldl_nil, Act.put, List.setIfInBounds_toArray, List.set_cons_zero, List.set_cons_succ, He9.out]) ⟨HI.out.1, fun h => (updM_ne _ _ (by decide)).trans (HI.out.2.1 (or_ne (by decide) h)), fun h => (updM_ne _ _ (by decide)).trans (HI.out.2.2.1 (or_ne (by decide) h)), fun h => (updM_ne _ _ (by decide)).trans (HI.out.2.2.2.1 (or_ne (by decide) h)), fun h => (updM_ne _ _ (by decide)).trans (HI.out.2.2.2.2.1 (or_ne (by decide) h)), fun h => (updM_ne _ _ (by decide)).trans (HI.out.2.2.2.2.2.1 (or_ne (by decide) h)), fun h => (updM_ne _ _ (by decide)).trans (HI.out.2.2.2.2.2.2.1 (or_ne (by decide) h)), fun h h' => (by obtain ⟨g, e1, e2⟩ := HI.out.2.2.2.2.2.2.2.1 (or_ne (by decide) h) (or_nf h'); exact ⟨g, (updM_ne _ _ (by decide)).trans e1, e2⟩), fun h => (updM_ne _ _ (by decide)).trans (HI.out.2.2.2.2.2.2.2.2.1 (or_ne (by decide) h)), fun h => (updM_ne _ _ (by decide)).trans (HI.out.2.2.2.2.2.2.2.2.2.1 (or_ne (by decide) h)), fun _ => updM_eq _ _ _, fun h => (updM_ne _ _ (by decide)).trans (HI.out.2.2.2.2.2.2.2.2.2.2.2.1 (or_ne (by decide) h)), fun h h' => (by obtain ⟨b, e1, e2, e3⟩ := HI.out.2.2.2.2.2.2.2.2.2.2.2.2.1 (or_ne (by decide) h) (or_nf h'); exact ⟨b, (updM_ne _ _ (by decide)).trans e1, e2, e3⟩), fun h => (by obtain ⟨h0, b, e1, e2, e3⟩ := HI.out.2.2.2.2.2.2.2.2.2.2.2.2.2 (or_ne (by decide) h); exact ⟨or_t h0, b, (updM_ne _ _ (by decide)).trans e1, e2, e3⟩)⟩ hHeld
    · refine StepM.mk rfl rfl (fun y => by kernel_rfl) (fun f y u hf hdp hI hHeld K hK => ?_)
      have HI := Lib.hid hI
      have e9 := HI.out.2.2.2.2.2.2.2.2.2.1 (hdp 9 (by decide))
      clear hI hf hdp
      simp only [actM, List.foldl_cons, List.foldl_nil, Act.put, List.setIfInBounds_toArray, List.set_cons_zero, List.set_cons_succ, e9]
      have He9 := Lib.hid e9
      clear e9
      go_wp2_with fail
      exact hK.out (.int .i64 6) _ _ (by simp only [actM, List.foldl_cons, List.foldl_nil, Act.put, List.setIfInBounds_toArray, List.set_cons_zero, List.set_cons_succ, He9.out]) ⟨HI.out.1, fun h => (updM_ne _ _ (by decide)).trans (HI.out.2.1 (or_ne (by decide) h)), fun h => (updM_ne _ _ (by decide)).trans (HI.out.2.2.1 (or_ne (by decide) h)), fun h => (updM_ne _ _ (by decide)).trans (HI.out.2.2.2.1 (or_ne (by decide) h)), fun h => (updM_ne _ _ (by decide)).trans (HI.out.2.2.2.2.1 (or_ne (by decide) h)), fun h => (updM_ne _ _ (by decide)).trans (HI.out.2.2.2.2.2.1 (or_ne (by decide) h)), fun h => (updM_ne _ _ (by decide)).trans (HI.out.2.2.2.2.2.2.1 (or_ne (by decide) h)), fun h h' => (by obtain ⟨g, e1, e2⟩ := HI.out.2.2.2.2.2.2.2.1 (or_ne (by decide) h) (or_nf h'); exact ⟨g, (updM_ne _ _ (by decide)).trans e1, e2⟩), fun h => (updM_ne _ _ (by decide)).trans (HI.out.2.2.2.2.2.2.2.2.1 (or_ne (by decide) h)), fun h => (updM_ne _ _ (by decide)).trans (HI.out.2.2.2.2.2.2.2.2.2.1 (or_ne (by decide) h)), fun h => (updM_ne _ _ (by decide)).trans (HI.out.2.2.2.2.2.2.2.2.2.2.1 (or_ne (by decide) h)), fun _ => updM_eq _ _ _, fun h h' => (by obtain ⟨b, e1, e2, e3⟩ := HI.out.2.2.2.2.2.2.2.2.2.2.2.2.1 (or_ne (by decide) h) (or_nf h'); exact ⟨b, (updM_ne _ _ (by decide)).trans e1, e2, e3⟩), fun h => (by obtain ⟨h0, b, e1, e2, e3⟩ := HI.out.2.2.2.2.2.2.2.2.2.2.2.2.2 (or_ne (by decide) h); exact ⟨or_t h0, b, (updM_ne _ _ (by decide)).trans e1, e2, e3⟩)⟩ hHeld
    · refine StepM.mk rfl rfl (fun y => by kernel_rfl) (fun f y u hf hdp hI hHeld K hK => ?_)
      have HI := Lib.hid hI
      have HNS := Lib.hid (show f 13 = false by
        cases hq : f 13 with
        | false => rfl
        | true =>
          have := (HI.out.2.2.2.2.2.2.2.2.2.2.2.2.2 hq).1
          rw [hf] at this
          cases this)
      clear hI hf hdp
      simp only [actM, List.foldl_cons, List.foldl_nil, Act.put, List.setIfInBounds_toArray, List.set_cons_zero, List.set_cons_succ]
      have bb := Lib.hid (show Below u.heap.size u (u.alloc (.cells #[.int .u16 0] 27)) from (Below.refl _ _).alloc (Nat.le_refl _) _)
      have hnew := Lib.hid (World.alloc_heap_new u (.cells #[.int .u16 0] 27))
      go_wp2_with fail
      exact hK.out (.pointer (some ⟨u.heap.size, 0, none⟩)) _ _ (by kernel_rfl) ⟨HI.out.1.trans (bb.out.mono HI.out.1.size), fun h => (updM_ne _ _ (by decide)).trans (HI.out.2.1 (or_ne (by decide) h)), fun h => (updM_ne _ _ (by decide)).trans (HI.out.2.2.1 (or_ne (by decide) h)), fun h => (updM_ne _ _ (by decide)).trans (HI.out.2.2.2.1 (or_ne (by decide) h)), fun h => (updM_ne _ _ (by decide)).trans (HI.out.2.2.2.2.1 (or_ne (by decide) h)), fun h => (updM_ne _ _ (by decide)).trans (HI.out.2.2.2.2.2.1 (or_ne (by decide) h)), fun h => (updM_ne _ _ (by decide)).trans (HI.out.2.2.2.2.2.2.1 (or_ne (by decide) h)), fun h h' => (by obtain ⟨g, e1, e2⟩ := HI.out.2.2.2.2.2.2.2.1 (or_ne (by decide) h) (or_nf h'); exact ⟨g, (updM_ne _ _ (by decide)).trans e1, e2.below bb.out⟩), fun h => (updM_ne _ _ (by decide)).trans (HI.out.2.2.2.2.2.2.2.2.1 (or_ne (by decide) h)), fun h => (updM_ne _ _ (by decide)).trans (HI.out.2.2.2.2.2.2.2.2.2.1 (or_ne (by decide) h)), fun h => (updM_ne _ _ (by decide)).trans (HI.out.2.2.2.2.2.2.2.2.2.2.1 (or_ne (by decide) h)), fun h => (updM_ne _ _ (by decide)).trans (HI.out.2.2.2.2.2.2.2.2.2.2.2.1 (or_ne (by decide) h)), fun _ _ => ⟨_, updM_eq _ _ _, hnew.out, HI.out.1.size⟩, fun h => absurd (show f 13 = true from or_ne (by decide) h) (by rw [HNS.out]; decide)⟩ (KEEP.out _ (HI.out.1.trans (bb.out.mono HI.out.1.size)))
    · refine StepM.mk rfl rfl (fun y => by kernel_rfl) (fun f y u hf hdp hI hHeld K hK => ?_)
      have HI := Lib.hid hI
      have hch := (HI.out.2.2.2.2.2.2.2.2.2.2.2.2.1 (hdp 12 (by decide)) hf).choose_spec
      generalize (HI.out.2.2.2.2.2.2.2.2.2.2.2.2.1 (hdp 12 (by decide)) hf).choose = b at hch
      have e12 := hch.1
      have hb0 := hch.2.1
      have hbW := hch.2.2
      clear hch
      have e10 := HI.out.2.2.2.2.2.2.2.2.2.2.1 (hdp 10 (by decide))
      have HDA := Lib.hid (hdp 12 (by decide))
      have HNC := Lib.hid (hdp 8 (by decide))
      have HYA := Lib.hid e12
      have HB0 := Lib.hid (And.intro hb0 hbW)
      clear hI hf hdp hb0 hbW
      simp only [actM, List.foldl_cons, List.foldl_nil, Act.put, List.setIfInBounds_toArray, List.set_cons_zero, List.set_cons_succ, e12, e10]
      have He10 := Lib.hid e10
      clear e12 e10
      have hcb := (one_cell HB0.out.1).1
      have hfb := (one_cell HB0.out.1).2
      obtain ⟨u', hu'⟩ : ∃ X, X = u.setCell ⟨b, 0, none⟩ (.int .u16 2030) := ⟨_, rfl⟩
      have BB := Lib.hid (show Below w18.heap.size w18 u' by rw [hu']; exact HI.out.1.trans ((But.set u b 0 _).below HB0.out.2 HI.out.1.size))
      have HNW := Lib.hid (show u'.heap[b]? = some (.cells #[.int .u16 2030] 27 (0, 0)) by rw [hu']; exact one_setCell HB0.out.1)
      go_simp
      rw [← hu']
      exact hK.out undef _ _ (by simp only [actM, List.foldl_cons, List.foldl_nil, Act.put, List.setIfInBounds_toArray, List.set_cons_zero, List.set_cons_succ, HYA.out, He10.out]) ⟨BB.out, fun h => (updM_ne _ _ (by decide)).trans (HI.out.2.1 (or_ne (by decide) h)), fun h => (updM_ne _ _ (by decide)).trans (HI.out.2.2.1 (or_ne (by decide) h)), fun h => (updM_ne _ _ (by decide)).trans (HI.out.2.2.2.1 (or_ne (by decide) h)), fun h => (updM_ne _ _ (by decide)).trans (HI.out.2.2.2.2.1 (or_ne (by decide) h)), fun h => (updM_ne _ _ (by decide)).trans (HI.out.2.2.2.2.2.1 (or_ne (by decide) h)), fun h => (updM_ne _ _ (by decide)).trans (HI.out.2.2.2.2.2.2.1 (or_ne (by decide) h)), fun _ h => absurd (show f 8 = false from or_nf h) (by rw [HNC.out]; decide), fun h => (updM_ne _ _ (by decide)).trans (HI.out.2.2.2.2.2.2.2.2.1 (or_ne (by decide) h)), fun h => (updM_ne _ _ (by decide)).trans (HI.out.2.2.2.2.2.2.2.2.2.1 (or_ne (by decide) h)), fun h => (updM_ne _ _ (by decide)).trans (HI.out.2.2.2.2.2.2.2.2.2.2.1 (or_ne (by decide) h)), fun h => (updM_ne _ _ (by decide)).trans (HI.out.2.2.2.2.2.2.2.2.2.2.2.1 (or_ne (by decide) h)), fun _ h => absurd h (by simp), fun _ => ⟨or_t HDA.out, b, (updM_ne _ _ (by decide)).trans HYA.out, HNW.out, HB0.out.2⟩⟩ (KEEP.out _ BB.out)
  · clear HX hHeld
    intro y w20 hI hHeld
    have HI := Lib.hid hI
    obtain ⟨_, k5, e12, hnb, hkb⟩ := HI.out.2.2.2.2.2.2.2.2.2.2.2.2.2 (by decide)
    have HNk5 := Lib.hid hnb
    have e1 := HI.out.2.1 (by decide)
    have e2 := HI.out.2.2.1 (by decide)
    have e3 := HI.out.2.2.2.1 (by decide)
    have e4 := HI.out.2.2.2.2.1 (by decide)
    have e5 := HI.out.2.2.2.2.2.1 (by decide)
    have e6 := HI.out.2.2.2.2.2.2.1 (by decide)
    have e8 := HI.out.2.2.2.2.2.2.2.2.1 (by decide)
    have e9 := HI.out.2.2.2.2.2.2.2.2.2.1 (by decide)
    have e10 := HI.out.2.2.2.2.2.2.2.2.2.2.1 (by decide)
    have e11 := HI.out.2.2.2.2.2.2.2.2.2.2.2.1 (by decide)
    have HXA := Lib.hid HI.out.1
    clear hI hnb hkb
    simp only [actM, List.foldl_cons, List.foldl_nil, Act.put, List.setIfInBounds_toArray, List.set_cons_zero, List.set_cons_succ, e12, e1, e2, e3, e4, e5, e6, e8, e9, e10, e11]
    clear HI e12 e1 e2 e3 e4 e5 e6 e8 e9 e10 e11
    refine tk 14 rfl (fun w hSw => by (try dsimp only at hSw); go_simp; try with_reducible rfl) ?_
    go_frame
    refine wpAnyH_done (by kernel_rfl) ?_ _
    clear hHeld
    replace HB := Lib.hid (HB.out.trans (HXA.out.mono HB.out.size))
    replace KEEP := Lib.hid (show ∀ wx, Below w20.heap.size w20 wx → wx.cell? ⟨k1, 0, none⟩ = some (.int .u16 0) ∧ wx.cell? ⟨k2, 0, none⟩ = some (.int .u16 0) ∧ wx.cell? ⟨k3, 0, none⟩ = some (.int .u16 96) ∧ wx.cell? ⟨k4, 0, none⟩ = some (.int .u16 224) ∧ wx.cell? ⟨k5, 0, none⟩ = some (.int .u16 2030) from fun wx hx => ⟨(KEEP.out wx (HXA.out.trans (hx.mono HXA.out.size))).1, (KEEP.out wx (HXA.out.trans (hx.mono HXA.out.size))).2.1, (KEEP.out wx (HXA.out.trans (hx.mono HXA.out.size))).2.2.1, (KEEP.out wx (HXA.out.trans (hx.mono HXA.out.size))).2.2.2, (hx.cell (World.block_lt_of_cell? w20 _ (one_cell HNk5.out).1)).trans (one_cell HNk5.out).1⟩)
    clear HXA HNk5
    have hq2200 : ∀ w, (Op.equalIn 10000 27 (.agg #[.int .u16 0]) (.agg #[.int .u16 0])).run Try.prog w = .ok true w := fun w => eqMs_c (s := 0) (t := 0) rfl rfl (by decide) w
    have hq2301 : ∀ w, (Op.equalIn 10000 27 (.agg #[.int .u16 96]) (.agg #[.int .u16 96])).run Try.prog w = .ok true w := fun w => eqMs_c (s := 96) (t := 96) rfl rfl (by decide) w
    have hq3902 : ∀ w, (Op.equalIn 10000 27 (.agg #[.int .u16 96]) (.agg #[.int .u16 96])).run Try.prog w = .ok true w := fun w => eqMs_c (s := 96) (t := 96) rfl rfl (by decide) w
    go_upto_region 6 with (fail)
    try simp only [List.append]
    refine wp_region_held_drew (S := (fun wx => wx.cell? ⟨k1, 0, none⟩ = some (.int .u16 0) ∧ wx.cell? ⟨k2, 0, none⟩ = some (.int .u16 0) ∧ wx.cell? ⟨k3, 0, none⟩ = some (.int .u16 96) ∧ wx.cell? ⟨k4, 0, none⟩ = some (.int .u16 224) ∧ wx.cell? ⟨k5, 0, none⟩ = some (.int .u16 2030))) (by kernel_rfl) (KEEP.out _ ((Below.refl _ _).drew)) (fun hHeld => ?_)
    obtain ⟨z21, hz21⟩ : ∃ X, X = w20.drew := ⟨_, rfl⟩
    have HX := Lib.hid (show Below w20.heap.size w20 z21 by rw [hz21]; exact (Below.refl _ _).drew)
    replace hHeld := KEEP.out _ HX.out
    rw [← hz21]
    clear hz21
    refine tk 0 rfl (fun w hSw => by (try dsimp only at hSw); go_simp; try with_reducible rfl) ?_
    go_frame
    refine do_at (i := 1) rfl (by kernel_rfl) (by kernel_rfl) (fun K hK => ?_)
    go_simp
    refine (works_any _).mono ?_
    rintro e w22 ⟨rfl, bb⟩
    replace HX := Lib.hid (HX.out.trans (bb.mono HX.out.size))
    clear bb
    go_wp2_with fail
    refine hK.out _ _ (KEEP.out _ HX.out) (fun hHeld => ?_)
    clear hK K
    try go_frame
    refine tk 2 rfl (fun w hSw => by (try dsimp only at hSw); go_simp; try with_reducible rfl) ?_
    go_frame
    refine tk 3 rfl (fun w hSw => by (try dsimp only at hSw); go_simp; try with_reducible rfl) ?_
    go_frame
    refine tk 4 rfl (fun w hSw => by (try dsimp only at hSw); go_simp; try with_reducible rfl) ?_
    go_frame
    refine tk 5 rfl (fun w hSw => by (try dsimp only at hSw); go_simp; try with_reducible rfl) ?_
    go_frame
    refine tk 6 rfl (fun w hSw => by (try dsimp only at hSw); go_simp; try with_reducible rfl) ?_
    go_frame
    refine tk 7 rfl (fun w hSw => by (try dsimp only at hSw); go_simp; try with_reducible rfl) ?_
    go_frame
    refine tk 8 rfl (fun w hSw => by (try dsimp only at hSw); go_simp; try with_reducible rfl) ?_
    go_frame
    refine tk 9 rfl (fun w hSw => by (try dsimp only at hSw); go_simp; try with_reducible rfl) ?_
    go_frame
    refine tk 10 rfl (fun w hSw => by (try dsimp only at hSw); go_simp; try with_reducible rfl) ?_
    go_frame
    refine tk 11 rfl (fun w hSw => by (try dsimp only at hSw); go_simp; try with_reducible rfl) ?_
    go_frame
    refine tk 12 rfl (fun w hSw => by (try dsimp only at hSw); go_simp; try with_reducible rfl) ?_
    go_frame
    refine tk 13 rfl (fun w hSw => by (try dsimp only at hSw); go_simp; try with_reducible rfl) ?_
    go_frame
    refine do_at (i := 14) rfl (by kernel_rfl) (by kernel_rfl) (fun K hK => ?_)
    go_simp
    refine (mnew_any _).mono ?_
    rintro e w23 ⟨rfl, bb⟩
    replace HX := Lib.hid (HX.out.trans (bb.mono HX.out.size))
    clear bb
    go_wp2_with fail
    refine hK.out _ _ (KEEP.out _ HX.out) (fun hHeld => ?_)
    clear hK K
    try go_frame
    refine tk 15 rfl (fun w hSw => by (try dsimp only at hSw); go_simp; try with_reducible rfl) ?_
    go_frame
    refine tk 16 rfl (fun w hSw => by (try dsimp only at hSw); go_simp; try with_reducible rfl) ?_
    go_frame
    refine tk 17 rfl (fun w hSw => by (try dsimp only at hSw); go_simp; try with_reducible rfl) ?_
    go_frame
    refine tk 18 rfl (fun w hSw => by (try dsimp only at hSw); go_simp; try with_reducible rfl) ?_
    go_frame
    refine tk 19 rfl (fun w hSw => by (try dsimp only at hSw); go_simp; try with_reducible rfl) ?_
    go_frame
    refine tk 20 rfl (fun w hSw => by (try dsimp only at hSw); go_simp; try with_reducible rfl) ?_
    go_frame
    refine tk 21 rfl (fun w hSw => by (try dsimp only at hSw); go_simp; try with_reducible rfl) ?_
    go_frame
    refine tk 22 rfl (fun w hSw => by (try dsimp only at hSw); go_simp; try with_reducible rfl) ?_
    go_frame
    refine do_at (i := 23) rfl (by kernel_rfl) (by kernel_rfl) (fun K hK => ?_)
    go_simp
    refine (priv_any 1049 _).mono ?_
    rintro e w24 ⟨rfl, bb⟩
    replace HX := Lib.hid (HX.out.trans (bb.mono HX.out.size))
    clear bb
    go_wp2_with fail
    refine hK.out _ _ (KEEP.out _ HX.out) (fun hHeld => ?_)
    clear hK K
    try go_frame
    refine do_at (i := 24) rfl (by kernel_rfl) (by kernel_rfl) (fun K hK => ?_)
    go_simp
    refine (is_c (s := 224) (S := 224) rfl (by decide) true 1049 (by decide) true (by decide +kernel) _).mono ?_
    rintro e w25 ⟨rfl, bb⟩
    replace HX := Lib.hid (HX.out.trans (bb.mono HX.out.size))
    clear bb
    go_wp2_with fail
    refine hK.out _ _ (KEEP.out _ HX.out) (fun hHeld => ?_)
    clear hK K
    try go_frame
    refine tk 25 rfl (fun w hSw => by (try dsimp only at hSw); go_simp; try with_reducible rfl) ?_
    go_frame
    refine tk 26 rfl (fun w hSw => by (try dsimp only at hSw); go_simp; try with_reducible rfl) ?_
    go_frame
    refine tk 27 rfl (fun w hSw => by (try dsimp only at hSw); go_simp; try with_reducible rfl) ?_
    go_frame
    refine do_at (i := 28) rfl (by kernel_rfl) (by kernel_rfl) (fun K hK => ?_)
    go_simp
    refine (priv_any 1048 _).mono ?_
    rintro e w26 ⟨rfl, bb⟩
    replace HX := Lib.hid (HX.out.trans (bb.mono HX.out.size))
    clear bb
    go_wp2_with fail
    refine hK.out _ _ (KEEP.out _ HX.out) (fun hHeld => ?_)
    clear hK K
    try go_frame
    refine do_at (i := 29) rfl (by kernel_rfl) (by kernel_rfl) (fun K hK => ?_)
    go_simp
    refine (is_c (s := 224) (S := 224) rfl (by decide) true 1048 (by decide) false (by decide +kernel) _).mono ?_
    rintro e w27 ⟨rfl, bb⟩
    replace HX := Lib.hid (HX.out.trans (bb.mono HX.out.size))
    clear bb
    go_wp2_with fail
    refine hK.out _ _ (KEEP.out _ HX.out) (fun hHeld => ?_)
    clear hK K
    try go_frame
    refine tk 30 rfl (fun w hSw => by (try dsimp only at hSw); go_simp; try with_reducible rfl) ?_
    go_frame
    refine tk 31 rfl (fun w hSw => by (try dsimp only at hSw); go_simp; try with_reducible rfl) ?_
    go_frame
    refine tk 32 rfl (fun w hSw => by (try dsimp only at hSw); go_simp; try with_reducible rfl) ?_
    go_frame
    refine tk 33 rfl (fun w hSw => by (try dsimp only at hSw); go_simp; try with_reducible rfl) ?_
    go_frame
    refine do_at (i := 34) rfl (by kernel_rfl) (by kernel_rfl) (fun K hK => ?_)
    go_simp
    refine (allc (s := 2030) (S := 2030) rfl (by decide) 11 (by decide +kernel) _).mono ?_
    rintro e w28 ⟨va, vc, rfl, bb⟩
    replace HX := Lib.hid (HX.out.trans (bb.mono HX.out.size))
    clear bb
    go_wp2_with fail
    refine hK.out _ _ (KEEP.out _ HX.out) (fun hHeld => ?_)
    clear hK K
    try go_frame
    refine tk 35 rfl (fun w hSw => by (try dsimp only at hSw); go_simp; try with_reducible rfl) ?_
    go_frame
    refine tk 36 rfl (fun w hSw => by (try dsimp only at hSw); go_simp; try with_reducible rfl) ?_
    go_frame
    refine tk 37 rfl (fun w hSw => by (try dsimp only at hSw); go_simp; try with_reducible rfl) ?_
    go_frame
    refine tk 38 rfl (fun w hSw => by (try dsimp only at hSw); go_simp; try with_reducible rfl) ?_
    go_frame
    refine tk 39 rfl (fun w hSw => by (try dsimp only at hSw); go_simp; try with_reducible rfl) ?_
    go_frame
    refine do_at (i := 40) rfl (by kernel_rfl) (by kernel_rfl) (fun K hK => ?_)
    go_simp
    refine (set_c (s := 0) (S := 0) rfl (by decide) _ [] true (by decide +kernel) _ (moIn_nil _) (by decide)).mono ?_
    rintro e w29 ⟨rfl, bb⟩
    replace HX := Lib.hid (HX.out.trans (bb.mono HX.out.size))
    clear bb
    go_wp2_with fail
    refine hK.out _ _ (KEEP.out _ HX.out) (fun hHeld => ?_)
    clear hK K
    try go_frame
    refine tk 41 rfl (fun w hSw => by (try dsimp only at hSw); go_simp; try with_reducible rfl) ?_
    go_frame
    refine tk 42 rfl (fun w hSw => by (try dsimp only at hSw); go_simp; try with_reducible rfl) ?_
    go_frame
    refine tk 43 rfl (fun w hSw => by (try dsimp only at hSw); go_simp; try with_reducible rfl) ?_
    go_frame
    refine do_at (i := 44) rfl (by kernel_rfl) (by kernel_rfl) (fun K hK => ?_)
    go_simp
    refine (priv_any 7 _).mono ?_
    rintro e w30 ⟨rfl, bb⟩
    replace HX := Lib.hid (HX.out.trans (bb.mono HX.out.size))
    clear bb
    go_wp2_with fail
    refine hK.out _ _ (KEEP.out _ HX.out) (fun hHeld => ?_)
    clear hK K
    try go_frame
    refine do_at (i := 45) rfl (by kernel_rfl) (by kernel_rfl) (fun K hK => ?_)
    go_simp
    refine (state_c (s := 0) (r := 2) (S := 0) (R := 2) rfl rfl (by decide) true 7 (by decide) (by decide +kernel) _).mono ?_
    rintro e w31 ⟨rfl, bb⟩
    replace HX := Lib.hid (HX.out.trans (bb.mono HX.out.size))
    clear bb
    go_wp2_with fail
    refine hK.out _ _ (KEEP.out _ HX.out) (fun hHeld => ?_)
    clear hK K
    try go_frame
    refine tk 46 rfl (fun w hSw => by (try dsimp only at hSw); go_simp; try with_reducible rfl) ?_
    go_frame
    refine tk 47 rfl (fun w hSw => by (try dsimp only at hSw); go_simp; try with_reducible rfl) ?_
    go_frame
    refine tk 48 rfl (fun w hSw => by (try dsimp only at hSw); go_simp; try with_reducible rfl) ?_
    go_frame
    refine do_at (i := 49) rfl (by kernel_rfl) (by kernel_rfl) (fun K hK => ?_)
    go_simp
    refine (ansi_any 47 _).mono ?_
    rintro e w32 ⟨rfl, bb⟩
    replace HX := Lib.hid (HX.out.trans (bb.mono HX.out.size))
    clear bb
    go_wp2_with fail
    refine hK.out _ _ (KEEP.out _ HX.out) (fun hHeld => ?_)
    clear hK K
    try go_frame
    refine do_at (i := 50) rfl (by kernel_rfl) (by kernel_rfl) (fun K hK => ?_)
    go_simp
    refine (known_c false 47 (by decide) false (by decide +kernel) _).mono ?_
    rintro e w33 ⟨rfl, bb⟩
    replace HX := Lib.hid (HX.out.trans (bb.mono HX.out.size))
    clear bb
    go_wp2_with fail
    refine hK.out _ _ (KEEP.out _ HX.out) (fun hHeld => ?_)
    clear hK K
    try go_frame
    refine tk 51 rfl (fun w hSw => by (try dsimp only at hSw); go_simp; try with_reducible rfl) ?_
    go_frame
    refine tk 52 rfl (fun w hSw => by (try dsimp only at hSw); go_simp; try with_reducible rfl) ?_
    go_frame
    refine tk 53 rfl (fun w hSw => by (try dsimp only at hSw); go_simp; try with_reducible rfl) ?_
    go_frame
    refine do_at (i := 54) rfl (by kernel_rfl) (by kernel_rfl) (fun K hK => ?_)
    go_simp
    refine (ansi_any 47 _).mono ?_
    rintro e w34 ⟨rfl, bb⟩
    replace HX := Lib.hid (HX.out.trans (bb.mono HX.out.size))
    clear bb
    go_wp2_with fail
    refine hK.out _ _ (KEEP.out _ HX.out) (fun hHeld => ?_)
    clear hK K
    try go_frame
    refine do_at (i := 55) rfl (by kernel_rfl) (by kernel_rfl) (fun K hK => ?_)
    go_simp
    refine (alt_c false 47 (by decide) false (by decide +kernel) _).mono ?_
    rintro e w35 ⟨rfl, bb⟩
    replace HX := Lib.hid (HX.out.trans (bb.mono HX.out.size))
    clear bb
    go_wp2_with fail
    refine hK.out _ _ (KEEP.out _ HX.out) (fun hHeld => ?_)
    clear hK K
    try go_frame
    refine tk 56 rfl (fun w hSw => by (try dsimp only at hSw); go_simp; try with_reducible rfl) ?_
    go_frame
    refine tk 57 rfl (fun w hSw => by (try dsimp only at hSw); go_simp; try with_reducible rfl) ?_
    go_frame
    refine tk 58 rfl (fun w hSw => by (try dsimp only at hSw); go_simp; try with_reducible rfl) ?_
    go_frame
    refine do_at (i := 59) rfl (by kernel_rfl) (by kernel_rfl) (fun K hK => ?_)
    go_simp
    refine (priv_any 1048 _).mono ?_
    rintro e w36 ⟨rfl, bb⟩
    replace HX := Lib.hid (HX.out.trans (bb.mono HX.out.size))
    clear bb
    go_wp2_with fail
    refine hK.out _ _ (KEEP.out _ HX.out) (fun hHeld => ?_)
    clear hK K
    try go_frame
    refine do_at (i := 60) rfl (by kernel_rfl) (by kernel_rfl) (fun K hK => ?_)
    go_simp
    refine (alt_c true 1048 (by decide) false (by decide +kernel) _).mono ?_
    rintro e w37 ⟨rfl, bb⟩
    replace HX := Lib.hid (HX.out.trans (bb.mono HX.out.size))
    clear bb
    go_wp2_with fail
    refine hK.out _ _ (KEEP.out _ HX.out) (fun hHeld => ?_)
    clear hK K
    try go_frame
    refine tk 61 rfl (fun w hSw => by (try dsimp only at hSw); go_simp; try with_reducible rfl) ?_
    go_frame
    refine tk 62 rfl (fun w hSw => by (try dsimp only at hSw); go_simp; try with_reducible rfl) ?_
    go_frame
    refine tk 63 rfl (fun w hSw => by (try dsimp only at hSw); go_simp; try with_reducible rfl) ?_
    go_frame
    refine tk 64 rfl (fun w hSw => by (try dsimp only at hSw); go_simp; try with_reducible rfl) ?_
    go_frame
    refine do_at (i := 65) rfl (by kernel_rfl) (by kernel_rfl) (fun K hK => ?_)
    go_simp
    refine (soft_c (s := 0) (r := 96) (S := 0) (R := 96) rfl rfl (by decide) (by decide +kernel) _).mono ?_
    rintro e w38 ⟨rfl, bb⟩
    replace HX := Lib.hid (HX.out.trans (bb.mono HX.out.size))
    clear bb
    go_wp2_with fail
    refine hK.out _ _ (KEEP.out _ HX.out) (fun hHeld => ?_)
    clear hK K
    try go_frame
    refine do_at (i := 66) rfl (by kernel_rfl) (by kernel_rfl) (fun K hK => ?_)
    go_simp
    refine (mnew_any _).mono ?_
    rintro e w39 ⟨rfl, bb⟩
    replace HX := Lib.hid (HX.out.trans (bb.mono HX.out.size))
    clear bb
    go_wp2_with fail
    refine hK.out _ _ (KEEP.out _ HX.out) (fun hHeld => ?_)
    clear hK K
    try go_frame
    refine tk 67 rfl (fun w hSw => by (try dsimp only at hSw); go_simp; try with_reducible rfl) ?_
    go_frame
    refine tk 68 rfl (fun w hSw => by (try dsimp only at hSw); go_simp; try with_reducible rfl) ?_
    go_frame
    refine tk 69 rfl (fun w hSw => by (try dsimp only at hSw); go_simp; try with_reducible rfl) ?_
    go_frame
    refine wpAnyH_done (by kernel_rfl) ?_ _
    go_wp2
    go_ret
    exact ⟨rfl, HB.out.trans (HX.out.mono HB.out.size)⟩
end Go.Proofs.Ytjdfinimbdcmbaa.Lab
