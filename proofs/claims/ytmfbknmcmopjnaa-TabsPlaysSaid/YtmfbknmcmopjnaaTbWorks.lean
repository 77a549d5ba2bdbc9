/- The chapter's examples: works. -/
import Derived.Test.YtmfbknmcmopjnaaTbDoes
import Derived.Test.YtmfbknmcmopjnaaTbInts
set_option linter.unusedVariables false
namespace Go.Proofs.Ytmfbknmcmopjnaa.Lab
open Go Go.RowKit Go.Shelf

/-- A row of numbers written out, in a block of its own. -/
theorem lit_below (w : World) (xs : List Int) : Below w.heap.size w (w.alloc (.cells (iVs xs).toArray 3)) := (Below.refl _ _).alloc (Nat.le_refl _) _
theorem lit_in (w : World) (xs : List Int) : IsIn (w.alloc (.cells (iVs xs).toArray 3)) (.slice (some ⟨w.heap.size, 0, none⟩) xs.length xs.length) xs :=
  ⟨_, _, rfl, fun _ => ⟨w.heap.size, 0, rfl, by simp, fun i hi => by
    rw [World.cell?_alloc_at _ _ _ _ rfl]
    simp [iVs, hi]⟩⟩
deriving instance DecidableEq for Tb
def K0 : Tb := newM 20 0
theorem K0_ok : K0.Ok := ⟨by decide +kernel, by decide, by decide⟩
theorem Kc0 (w : World) : Calls Try.prog 9 #[.int .i64 20, .int .u8 0] w fun e w' => e = .returned (tbV K0) ∧ Below w.heap.size w w' := by
  have h := new_any 20 0 w
  rw [show newM 20 0 = K0 by decide +kernel] at h
  exact h
def K1 : Tb := K0.put true 1 [3]
theorem K1_ok : K1.Ok := ⟨by decide +kernel, by decide, by decide⟩
theorem Kc1 (w : World) : Calls Try.prog 26 #[tbV K0, .int .u8 1, .slice (some ⟨w.heap.size, 0, none⟩) 1 1] (w.alloc (.cells #[.int .i64 3] 3)) fun e w' => e = .returned (tbV K1) ∧ Below w.heap.size w w' := by
  have h := set_any K0 K0_ok 1 (by decide) _ [3] _ (lit_in w [3]) (by decide)
  rw [show K0.put true 1 [3] = K1 by decide +kernel] at h
  exact h.mono (fun e w' q => ⟨q.1, (lit_below w [3]).trans (q.2.mono (lit_below w [3]).size)⟩)
theorem Kc2 (w : World) : Calls Try.prog 15 #[tbV K0] w fun e w' => ∃ a c, e = .returned (.slice a 2 c) ∧ IsIn w' (.slice a 2 c) [8, 16] ∧ Below w.heap.size w w' := by
  refine (list_any K0 K0_ok.len w).mono ?_
  rintro e w' ⟨v, rfl, ow, b⟩
  have hI := isIn_of ow
  rw [show is (stops K0.L) = [8, 16] by decide +kernel] at hI
  obtain ⟨a, c, rfl⟩ := hI.shape
  exact ⟨a, c, rfl, hI, b⟩
theorem Kc3 (w : World) (v : Value) (h : IsIn w v [8, 16]) : Calls Try.prog 14 #[v, .slice (some ⟨w.heap.size, 0, none⟩) 2 2] (w.alloc (.cells #[.int .i64 8, .int .i64 16] 3)) fun e w' => e = .returned (.bool true) ∧ Below w.heap.size w w' := by
  have h := ints_any _ v _ [8, 16] [8, 16] (h.below (lit_below w [8, 16])) (lit_in w [8, 16]) (by decide)
  exact h.mono (fun e w' q => ⟨q.1, (lit_below w [8, 16]).trans (q.2.mono (lit_below w [8, 16]).size)⟩)
theorem Kc4 (w : World) : Calls Try.prog 20 #[tbV K0, .int .i64 0, .int .i64 1] w fun e w' => e = .returned (.int .i64 8) ∧ Below w.heap.size w w' := by
  have h := next_any K0 K0_ok.len 0 1 (by decide) w
  rw [show nextM K0.L 0 1 = 8 by decide +kernel] at h
  exact h
theorem Kc5 (w : World) : Calls Try.prog 20 #[tbV K0, .int .i64 8, .int .i64 1] w fun e w' => e = .returned (.int .i64 16) ∧ Below w.heap.size w w' := by
  have h := next_any K0 K0_ok.len 8 1 (by decide) w
  rw [show nextM K0.L 8 1 = 16 by decide +kernel] at h
  exact h
theorem Kc6 (w : World) : Calls Try.prog 20 #[tbV K0, .int .i64 16, .int .i64 1] w fun e w' => e = .returned (.int .i64 19) ∧ Below w.heap.size w w' := by
  have h := next_any K0 K0_ok.len 16 1 (by decide) w
  rw [show nextM K0.L 16 1 = 19 by decide +kernel] at h
  exact h
theorem Kc7 (w : World) : Calls Try.prog 20 #[tbV K0, .int .i64 3, .int .i64 2] w fun e w' => e = .returned (.int .i64 16) ∧ Below w.heap.size w w' := by
  have h := next_any K0 K0_ok.len 3 2 (by decide) w
  rw [show nextM K0.L 3 2 = 16 by decide +kernel] at h
  exact h
theorem Kc8 (w : World) : Calls Try.prog 22 #[tbV K0, .int .i64 19, .int .i64 1] w fun e w' => e = .returned (.int .i64 16) ∧ Below w.heap.size w w' := by
  have h := back_any K0 K0_ok.len 19 1 (by decide) w
  rw [show backM K0.L 19 1 = 16 by decide +kernel] at h
  exact h
theorem Kc9 (w : World) : Calls Try.prog 22 #[tbV K0, .int .i64 8, .int .i64 1] w fun e w' => e = .returned (.int .i64 0) ∧ Below w.heap.size w w' := by
  have h := back_any K0 K0_ok.len 8 1 (by decide) w
  rw [show backM K0.L 8 1 = 0 by decide +kernel] at h
  exact h
theorem Kc10 (w : World) : Calls Try.prog 22 #[tbV K0, .int .i64 19, .int .i64 3] w fun e w' => e = .returned (.int .i64 0) ∧ Below w.heap.size w w' := by
  have h := back_any K0 K0_ok.len 19 3 (by decide) w
  rw [show backM K0.L 19 3 = 0 by decide +kernel] at h
  exact h
theorem Kc11 (w : World) : Calls Try.prog 17 #[tbV K1] w fun e w' => e = .returned (.int .u8 1) ∧ Below w.heap.size w w' := label_any K1 w
theorem Kc12 (w : World) : Calls Try.prog 15 #[tbV K1] w fun e w' => ∃ a c, e = .returned (.slice a 3 c) ∧ IsIn w' (.slice a 3 c) [3, 8, 16] ∧ Below w.heap.size w w' := by
  refine (list_any K1 K1_ok.len w).mono ?_
  rintro e w' ⟨v, rfl, ow, b⟩
  have hI := isIn_of ow
  rw [show is (stops K1.L) = [3, 8, 16] by decide +kernel] at hI
  obtain ⟨a, c, rfl⟩ := hI.shape
  exact ⟨a, c, rfl, hI, b⟩
theorem Kc13 (w : World) (v : Value) (h : IsIn w v [3, 8, 16]) : Calls Try.prog 14 #[v, .slice (some ⟨w.heap.size, 0, none⟩) 3 3] (w.alloc (.cells #[.int .i64 3, .int .i64 8, .int .i64 16] 3)) fun e w' => e = .returned (.bool true) ∧ Below w.heap.size w w' := by
  have h := ints_any _ v _ [3, 8, 16] [3, 8, 16] (h.below (lit_below w [3, 8, 16])) (lit_in w [3, 8, 16]) (by decide)
  exact h.mono (fun e w' q => ⟨q.1, (lit_below w [3, 8, 16]).trans (q.2.mono (lit_below w [3, 8, 16]).size)⟩)
def K2 : Tb := K1.none
theorem K2_ok : K2.Ok := ⟨by decide +kernel, by decide, by decide⟩
theorem Kc14 (w : World) : Calls Try.prog 32 #[tbV K1] w fun e w' => e = .returned (tbV K2) ∧ Below w.heap.size w w' := by
  have h := none_any K1 w
  rw [show K1.none = K2 by decide +kernel] at h
  exact h
theorem Kc15 (w : World) : Calls Try.prog 17 #[tbV K2] w fun e w' => e = .returned (.int .u8 0) ∧ Below w.heap.size w w' := label_any K2 w
theorem Kc16 (w : World) : Calls Try.prog 15 #[tbV K2] w fun e w' => ∃ a c, e = .returned (.slice a 0 c) ∧ IsIn w' (.slice a 0 c) [] ∧ Below w.heap.size w w' := by
  refine (list_any K2 K2_ok.len w).mono ?_
  rintro e w' ⟨v, rfl, ow, b⟩
  have hI := isIn_of ow
  rw [show is (stops K2.L) = [] by decide +kernel] at hI
  obtain ⟨a, c, rfl⟩ := hI.shape
  exact ⟨a, c, rfl, hI, b⟩
def K3 : Tb := K0.put false 0 [16]
theorem K3_ok : K3.Ok := ⟨by decide +kernel, by decide, by decide⟩
theorem Kc17 (w : World) : Calls Try.prog 28 #[tbV K0, .int .u8 0, .slice (some ⟨w.heap.size, 0, none⟩) 1 1] (w.alloc (.cells #[.int .i64 16] 3)) fun e w' => e = .returned (tbV K3) ∧ Below w.heap.size w w' := by
  have h := clear_any K0 K0_ok 0 (by decide) _ [16] _ (lit_in w [16]) (by decide)
  rw [show K0.put false 0 [16] = K3 by decide +kernel] at h
  exact h.mono (fun e w' q => ⟨q.1, (lit_below w [16]).trans (q.2.mono (lit_below w [16]).size)⟩)
def K4 : Tb := K3.res 30
theorem K4_ok : K4.Ok := ⟨by decide +kernel, by decide, by decide⟩
theorem Kc18 (w : World) : Calls Try.prog 31 #[tbV K3, .int .i64 30] w fun e w' => e = .returned (tbV K4) ∧ Below w.heap.size w w' := by
  have h := res_any K3 K3_ok 30 w
  rw [show K3.res 30 = K4 by decide +kernel] at h
  exact h
theorem Kc19 (w : World) : Calls Try.prog 15 #[tbV K4] w fun e w' => ∃ a c, e = .returned (.slice a 2 c) ∧ IsIn w' (.slice a 2 c) [8, 24] ∧ Below w.heap.size w w' := by
  refine (list_any K4 K4_ok.len w).mono ?_
  rintro e w' ⟨v, rfl, ow, b⟩
  have hI := isIn_of ow
  rw [show is (stops K4.L) = [8, 24] by decide +kernel] at hI
  obtain ⟨a, c, rfl⟩ := hI.shape
  exact ⟨a, c, rfl, hI, b⟩
theorem Kc20 (w : World) (v : Value) (h : IsIn w v [8, 24]) : Calls Try.prog 14 #[v, .slice (some ⟨w.heap.size, 0, none⟩) 2 2] (w.alloc (.cells #[.int .i64 8, .int .i64 24] 3)) fun e w' => e = .returned (.bool true) ∧ Below w.heap.size w w' := by
  have h := ints_any _ v _ [8, 24] [8, 24] (h.below (lit_below w [8, 24])) (lit_in w [8, 24]) (by decide)
  exact h.mono (fun e w' q => ⟨q.1, (lit_below w [8, 24]).trans (q.2.mono (lit_below w [8, 24]).size)⟩)
set_option maxHeartbeats 8000000 in
theorem works_any (w : World) : Calls Try.prog 24 #[] w fun e w' => e = .returned (.bool true) ∧ Below w.heap.size w w' := by
  go_enter Try.func24, Try.ntmps24
  go_wp2_with fail
  refine (Kc0 _).mono ?_
  rintro e y1 ⟨rfl, bb⟩
  have HB := Lib.hid bb
  clear bb
  obtain ⟨b1, hb1⟩ : ∃ b, b = y1.heap.size := ⟨_, rfl⟩
  obtain ⟨y2, hy2⟩ : ∃ x, x = y1.alloc (.cells (tbC K0) TB) := ⟨_, rfl⟩
  have bb : Below y1.heap.size y1 y2 := by rw [hy2]; exact (Below.refl _ _).alloc (Nat.le_refl _) _
  have HT1 := Lib.hid (show TbAt y2 b1 K0 by unfold TbAt; rw [hy2, hb1]; exact World.alloc_heap_new y1 _)
  replace HB := Lib.hid (HB.out.trans (bb.mono HB.out.size))
  clear bb
  go_upto_region 2 with (fail)
  rw [← hy2, ← hb1]
  clear hy2 hb1
  obtain ⟨c0, c1, c2, c3, c4, c5, c6, c7, c8, c9, c10⟩ := HT1.out.cells
  go_wp2_with fail
  refine (Kc1 _).mono ?_
  rintro e y3 ⟨rfl, bb⟩
  replace HB := Lib.hid (HB.out.trans (bb.mono HB.out.size))
  replace HT1 := Lib.hid (HT1.out.below bb)
  clear bb
  clear c0 c1 c2 c3 c4 c5 c6 c7 c8 c9 c10
  obtain ⟨b2, hb2⟩ : ∃ b, b = y3.heap.size := ⟨_, rfl⟩
  obtain ⟨y4, hy4⟩ : ∃ x, x = y3.alloc (.cells (tbC K1) TB) := ⟨_, rfl⟩
  have bb : Below y3.heap.size y3 y4 := by rw [hy4]; exact (Below.refl _ _).alloc (Nat.le_refl _) _
  have HT2 := Lib.hid (show TbAt y4 b2 K1 by unfold TbAt; rw [hy4, hb2]; exact World.alloc_heap_new y3 _)
  replace HB := Lib.hid (HB.out.trans (bb.mono HB.out.size))
  replace HT1 := Lib.hid (HT1.out.below bb)
  clear bb
  go_upto_region 3 with (fail)
  rw [← hy4, ← hb2]
  clear hy4 hb2
  obtain ⟨c0, c1, c2, c3, c4, c5, c6, c7, c8, c9, c10⟩ := HT1.out.cells
  obtain ⟨d0, d1, d2, d3, d4, d5, d6, d7, d8, d9, d10⟩ := HT2.out.cells
  go_wp2_with fail
  refine (Kc2 _).mono ?_
  rintro e x1 ⟨ra8, rc8, rfl, hr8, bb⟩
  have HR8 := Lib.hid hr8
  clear hr8
  replace HB := Lib.hid (HB.out.trans (bb.mono HB.out.size))
  replace HT1 := Lib.hid (HT1.out.below bb)
  replace HT2 := Lib.hid (HT2.out.below bb)
  clear bb
  clear c0 c1 c2 c3 c4 c5 c6 c7 c8 c9 c10 d0 d1 d2 d3 d4 d5 d6 d7 d8 d9 d10
  obtain ⟨c0, c1, c2, c3, c4, c5, c6, c7, c8, c9, c10⟩ := HT1.out.cells
  obtain ⟨d0, d1, d2, d3, d4, d5, d6, d7, d8, d9, d10⟩ := HT2.out.cells
  go_wp2_with fail
  refine (Kc3 _ _ HR8.out).mono ?_
  rintro e x2 ⟨rfl, bb⟩
  replace HB := Lib.hid (HB.out.trans (bb.mono HB.out.size))
  replace HT1 := Lib.hid (HT1.out.below bb)
  replace HT2 := Lib.hid (HT2.out.below bb)
  replace HR8 := Lib.hid (HR8.out.below bb)
  clear bb
  clear c0 c1 c2 c3 c4 c5 c6 c7 c8 c9 c10 d0 d1 d2 d3 d4 d5 d6 d7 d8 d9 d10
  obtain ⟨c0, c1, c2, c3, c4, c5, c6, c7, c8, c9, c10⟩ := HT1.out.cells
  obtain ⟨d0, d1, d2, d3, d4, d5, d6, d7, d8, d9, d10⟩ := HT2.out.cells
  go_wp2_with fail
  refine (Kc4 _).mono ?_
  rintro e x3 ⟨rfl, bb⟩
  replace HB := Lib.hid (HB.out.trans (bb.mono HB.out.size))
  replace HT1 := Lib.hid (HT1.out.below bb)
  replace HT2 := Lib.hid (HT2.out.below bb)
  replace HR8 := Lib.hid (HR8.out.below bb)
  clear bb
  clear c0 c1 c2 c3 c4 c5 c6 c7 c8 c9 c10 d0 d1 d2 d3 d4 d5 d6 d7 d8 d9 d10
  obtain ⟨c0, c1, c2, c3, c4, c5, c6, c7, c8, c9, c10⟩ := HT1.out.cells
  obtain ⟨d0, d1, d2, d3, d4, d5, d6, d7, d8, d9, d10⟩ := HT2.out.cells
  go_wp2_with fail
  refine (Kc5 _).mono ?_
  rintro e x4 ⟨rfl, bb⟩
  replace HB := Lib.hid (HB.out.trans (bb.mono HB.out.size))
  replace HT1 := Lib.hid (HT1.out.below bb)
  replace HT2 := Lib.hid (HT2.out.below bb)
  replace HR8 := Lib.hid (HR8.out.below bb)
  clear bb
  clear c0 c1 c2 c3 c4 c5 c6 c7 c8 c9 c10 d0 d1 d2 d3 d4 d5 d6 d7 d8 d9 d10
  obtain ⟨c0, c1, c2, c3, c4, c5, c6, c7, c8, c9, c10⟩ := HT1.out.cells
  obtain ⟨d0, d1, d2, d3, d4, d5, d6, d7, d8, d9, d10⟩ := HT2.out.cells
  go_wp2_with fail
  refine (Kc6 _).mono ?_
  rintro e x5 ⟨rfl, bb⟩
  replace HB := Lib.hid (HB.out.trans (bb.mono HB.out.size))
  replace HT1 := Lib.hid (HT1.out.below bb)
  replace HT2 := Lib.hid (HT2.out.below bb)
  replace HR8 := Lib.hid (HR8.out.below bb)
  clear bb
  clear c0 c1 c2 c3 c4 c5 c6 c7 c8 c9 c10 d0 d1 d2 d3 d4 d5 d6 d7 d8 d9 d10
  obtain ⟨c0, c1, c2, c3, c4, c5, c6, c7, c8, c9, c10⟩ := HT1.out.cells
  obtain ⟨d0, d1, d2, d3, d4, d5, d6, d7, d8, d9, d10⟩ := HT2.out.cells
  go_wp2_with fail
  refine (Kc7 _).mono ?_
  rintro e x6 ⟨rfl, bb⟩
  replace HB := Lib.hid (HB.out.trans (bb.mono HB.out.size))
  replace HT1 := Lib.hid (HT1.out.below bb)
  replace HT2 := Lib.hid (HT2.out.below bb)
  replace HR8 := Lib.hid (HR8.out.below bb)
  clear bb
  clear c0 c1 c2 c3 c4 c5 c6 c7 c8 c9 c10 d0 d1 d2 d3 d4 d5 d6 d7 d8 d9 d10
  obtain ⟨c0, c1, c2, c3, c4, c5, c6, c7, c8, c9, c10⟩ := HT1.out.cells
  obtain ⟨d0, d1, d2, d3, d4, d5, d6, d7, d8, d9, d10⟩ := HT2.out.cells
  go_wp2_with fail
  refine (Kc8 _).mono ?_
  rintro e x7 ⟨rfl, bb⟩
  replace HB := Lib.hid (HB.out.trans (bb.mono HB.out.size))
  replace HT1 := Lib.hid (HT1.out.below bb)
  replace HT2 := Lib.hid (HT2.out.below bb)
  replace HR8 := Lib.hid (HR8.out.below bb)
  clear bb
  clear c0 c1 c2 c3 c4 c5 c6 c7 c8 c9 c10 d0 d1 d2 d3 d4 d5 d6 d7 d8 d9 d10
  obtain ⟨c0, c1, c2, c3, c4, c5, c6, c7, c8, c9, c10⟩ := HT1.out.cells
  obtain ⟨d0, d1, d2, d3, d4, d5, d6, d7, d8, d9, d10⟩ := HT2.out.cells
  go_wp2_with fail
  refine (Kc9 _).mono ?_
  rintro e x8 ⟨rfl, bb⟩
  replace HB := Lib.hid (HB.out.trans (bb.mono HB.out.size))
  replace HT1 := Lib.hid (HT1.out.below bb)
  replace HT2 := Lib.hid (HT2.out.below bb)
  replace HR8 := Lib.hid (HR8.out.below bb)
  clear bb
  clear c0 c1 c2 c3 c4 c5 c6 c7 c8 c9 c10 d0 d1 d2 d3 d4 d5 d6 d7 d8 d9 d10
  obtain ⟨c0, c1, c2, c3, c4, c5, c6, c7, c8, c9, c10⟩ := HT1.out.cells
  obtain ⟨d0, d1, d2, d3, d4, d5, d6, d7, d8, d9, d10⟩ := HT2.out.cells
  go_wp2_with fail
  refine (Kc10 _).mono ?_
  rintro e x9 ⟨rfl, bb⟩
  replace HB := Lib.hid (HB.out.trans (bb.mono HB.out.size))
  replace HT1 := Lib.hid (HT1.out.below bb)
  replace HT2 := Lib.hid (HT2.out.below bb)
  replace HR8 := Lib.hid (HR8.out.below bb)
  clear bb
  clear c0 c1 c2 c3 c4 c5 c6 c7 c8 c9 c10 d0 d1 d2 d3 d4 d5 d6 d7 d8 d9 d10
  obtain ⟨c0, c1, c2, c3, c4, c5, c6, c7, c8, c9, c10⟩ := HT1.out.cells
  obtain ⟨d0, d1, d2, d3, d4, d5, d6, d7, d8, d9, d10⟩ := HT2.out.cells
  go_wp2_with fail
  refine (Kc11 _).mono ?_
  rintro e x10 ⟨rfl, bb⟩
  replace HB := Lib.hid (HB.out.trans (bb.mono HB.out.size))
  replace HT1 := Lib.hid (HT1.out.below bb)
  replace HT2 := Lib.hid (HT2.out.below bb)
  replace HR8 := Lib.hid (HR8.out.below bb)
  clear bb
  clear c0 c1 c2 c3 c4 c5 c6 c7 c8 c9 c10 d0 d1 d2 d3 d4 d5 d6 d7 d8 d9 d10
  obtain ⟨c0, c1, c2, c3, c4, c5, c6, c7, c8, c9, c10⟩ := HT1.out.cells
  obtain ⟨d0, d1, d2, d3, d4, d5, d6, d7, d8, d9, d10⟩ := HT2.out.cells
  go_wp2_with fail
  refine (Kc12 _).mono ?_
  rintro e x11 ⟨ra53, rc53, rfl, hr53, bb⟩
  have HR53 := Lib.hid hr53
  clear hr53
  replace HB := Lib.hid (HB.out.trans (bb.mono HB.out.size))
  replace HT1 := Lib.hid (HT1.out.below bb)
  replace HT2 := Lib.hid (HT2.out.below bb)
  replace HR8 := Lib.hid (HR8.out.below bb)
  clear bb
  clear c0 c1 c2 c3 c4 c5 c6 c7 c8 c9 c10 d0 d1 d2 d3 d4 d5 d6 d7 d8 d9 d10
  obtain ⟨c0, c1, c2, c3, c4, c5, c6, c7, c8, c9, c10⟩ := HT1.out.cells
  obtain ⟨d0, d1, d2, d3, d4, d5, d6, d7, d8, d9, d10⟩ := HT2.out.cells
  go_wp2_with fail
  refine (Kc13 _ _ HR53.out).mono ?_
  rintro e x12 ⟨rfl, bb⟩
  replace HB := Lib.hid (HB.out.trans (bb.mono HB.out.size))
  replace HT1 := Lib.hid (HT1.out.below bb)
  replace HT2 := Lib.hid (HT2.out.below bb)
  replace HR8 := Lib.hid (HR8.out.below bb)
  replace HR53 := Lib.hid (HR53.out.below bb)
  clear bb
  clear c0 c1 c2 c3 c4 c5 c6 c7 c8 c9 c10 d0 d1 d2 d3 d4 d5 d6 d7 d8 d9 d10
  obtain ⟨c0, c1, c2, c3, c4, c5, c6, c7, c8, c9, c10⟩ := HT1.out.cells
  obtain ⟨d0, d1, d2, d3, d4, d5, d6, d7, d8, d9, d10⟩ := HT2.out.cells
  go_wp2_with fail
  refine (Kc14 _).mono ?_
  rintro e x13 ⟨rfl, bb⟩
  replace HB := Lib.hid (HB.out.trans (bb.mono HB.out.size))
  replace HT1 := Lib.hid (HT1.out.below bb)
  replace HT2 := Lib.hid (HT2.out.below bb)
  replace HR8 := Lib.hid (HR8.out.below bb)
  replace HR53 := Lib.hid (HR53.out.below bb)
  clear bb
  clear c0 c1 c2 c3 c4 c5 c6 c7 c8 c9 c10 d0 d1 d2 d3 d4 d5 d6 d7 d8 d9 d10
  obtain ⟨c0, c1, c2, c3, c4, c5, c6, c7, c8, c9, c10⟩ := HT1.out.cells
  obtain ⟨d0, d1, d2, d3, d4, d5, d6, d7, d8, d9, d10⟩ := HT2.out.cells
  go_wp2_with fail
  refine (Kc15 _).mono ?_
  rintro e x14 ⟨rfl, bb⟩
  replace HB := Lib.hid (HB.out.trans (bb.mono HB.out.size))
  replace HT1 := Lib.hid (HT1.out.below bb)
  replace HT2 := Lib.hid (HT2.out.below bb)
  replace HR8 := Lib.hid (HR8.out.below bb)
  replace HR53 := Lib.hid (HR53.out.below bb)
  clear bb
  clear c0 c1 c2 c3 c4 c5 c6 c7 c8 c9 c10 d0 d1 d2 d3 d4 d5 d6 d7 d8 d9 d10
  obtain ⟨c0, c1, c2, c3, c4, c5, c6, c7, c8, c9, c10⟩ := HT1.out.cells
  obtain ⟨d0, d1, d2, d3, d4, d5, d6, d7, d8, d9, d10⟩ := HT2.out.cells
  go_wp2_with fail
  refine (Kc14 _).mono ?_
  rintro e x15 ⟨rfl, bb⟩
  replace HB := Lib.hid (HB.out.trans (bb.mono HB.out.size))
  replace HT1 := Lib.hid (HT1.out.below bb)
  replace HT2 := Lib.hid (HT2.out.below bb)
  replace HR8 := Lib.hid (HR8.out.below bb)
  replace HR53 := Lib.hid (HR53.out.below bb)
  clear bb
  clear c0 c1 c2 c3 c4 c5 c6 c7 c8 c9 c10 d0 d1 d2 d3 d4 d5 d6 d7 d8 d9 d10
  obtain ⟨c0, c1, c2, c3, c4, c5, c6, c7, c8, c9, c10⟩ := HT1.out.cells
  obtain ⟨d0, d1, d2, d3, d4, d5, d6, d7, d8, d9, d10⟩ := HT2.out.cells
  go_wp2_with fail
  refine (Kc16 _).mono ?_
  rintro e x16 ⟨ra66, rc66, rfl, hr66, bb⟩
  have HR66 := Lib.hid hr66
  clear hr66
  replace HB := Lib.hid (HB.out.trans (bb.mono HB.out.size))
  replace HT1 := Lib.hid (HT1.out.below bb)
  replace HT2 := Lib.hid (HT2.out.below bb)
  replace HR8 := Lib.hid (HR8.out.below bb)
  replace HR53 := Lib.hid (HR53.out.below bb)
  clear bb
  clear c0 c1 c2 c3 c4 c5 c6 c7 c8 c9 c10 d0 d1 d2 d3 d4 d5 d6 d7 d8 d9 d10
  obtain ⟨c0, c1, c2, c3, c4, c5, c6, c7, c8, c9, c10⟩ := HT1.out.cells
  obtain ⟨d0, d1, d2, d3, d4, d5, d6, d7, d8, d9, d10⟩ := HT2.out.cells
  go_wp2_with fail
  refine (Kc17 _).mono ?_
  rintro e x17 ⟨rfl, bb⟩
  replace HB := Lib.hid (HB.out.trans (bb.mono HB.out.size))
  replace HT1 := Lib.hid (HT1.out.below bb)
  replace HT2 := Lib.hid (HT2.out.below bb)
  replace HR8 := Lib.hid (HR8.out.below bb)
  replace HR53 := Lib.hid (HR53.out.below bb)
  replace HR66 := Lib.hid (HR66.out.below bb)
  clear bb
  clear c0 c1 c2 c3 c4 c5 c6 c7 c8 c9 c10 d0 d1 d2 d3 d4 d5 d6 d7 d8 d9 d10
  obtain ⟨c0, c1, c2, c3, c4, c5, c6, c7, c8, c9, c10⟩ := HT1.out.cells
  obtain ⟨d0, d1, d2, d3, d4, d5, d6, d7, d8, d9, d10⟩ := HT2.out.cells
  go_wp2_with fail
  refine (Kc18 _).mono ?_
  rintro e x18 ⟨rfl, bb⟩
  replace HB := Lib.hid (HB.out.trans (bb.mono HB.out.size))
  replace HT1 := Lib.hid (HT1.out.below bb)
  replace HT2 := Lib.hid (HT2.out.below bb)
  replace HR8 := Lib.hid (HR8.out.below bb)
  replace HR53 := Lib.hid (HR53.out.below bb)
  replace HR66 := Lib.hid (HR66.out.below bb)
  clear bb
  clear c0 c1 c2 c3 c4 c5 c6 c7 c8 c9 c10 d0 d1 d2 d3 d4 d5 d6 d7 d8 d9 d10
  obtain ⟨c0, c1, c2, c3, c4, c5, c6, c7, c8, c9, c10⟩ := HT1.out.cells
  obtain ⟨d0, d1, d2, d3, d4, d5, d6, d7, d8, d9, d10⟩ := HT2.out.cells
  go_wp2_with fail
  refine (Kc19 _).mono ?_
  rintro e x19 ⟨ra75, rc75, rfl, hr75, bb⟩
  have HR75 := Lib.hid hr75
  clear hr75
  replace HB := Lib.hid (HB.out.trans (bb.mono HB.out.size))
  replace HT1 := Lib.hid (HT1.out.below bb)
  replace HT2 := Lib.hid (HT2.out.below bb)
  replace HR8 := Lib.hid (HR8.out.below bb)
  replace HR53 := Lib.hid (HR53.out.below bb)
  replace HR66 := Lib.hid (HR66.out.below bb)
  clear bb
  clear c0 c1 c2 c3 c4 c5 c6 c7 c8 c9 c10 d0 d1 d2 d3 d4 d5 d6 d7 d8 d9 d10
  obtain ⟨c0, c1, c2, c3, c4, c5, c6, c7, c8, c9, c10⟩ := HT1.out.cells
  obtain ⟨d0, d1, d2, d3, d4, d5, d6, d7, d8, d9, d10⟩ := HT2.out.cells
  go_wp2_with fail
  refine (Kc20 _ _ HR75.out).mono ?_
  rintro e x20 ⟨rfl, bb⟩
  replace HB := Lib.hid (HB.out.trans (bb.mono HB.out.size))
  replace HT1 := Lib.hid (HT1.out.below bb)
  replace HT2 := Lib.hid (HT2.out.below bb)
  replace HR8 := Lib.hid (HR8.out.below bb)
  replace HR53 := Lib.hid (HR53.out.below bb)
  replace HR66 := Lib.hid (HR66.out.below bb)
  replace HR75 := Lib.hid (HR75.out.below bb)
  clear bb
  go_wp2
  go_ret
  exact ⟨rfl, HB.out⟩
end Go.Proofs.Ytmfbknmcmopjnaa.Lab
