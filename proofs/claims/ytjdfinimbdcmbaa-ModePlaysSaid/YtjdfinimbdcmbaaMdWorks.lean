/- Closed calls; the chapter's examples. -/
import Derived.Test.YtjdfinimbdcmbaaMdSet
set_option linter.unusedVariables false
namespace Go.Proofs.Ytjdfinimbdcmbaa.Lab
open Go Go.RowKit

theorem updM_eq (y : Nat → Value) (i : Nat) (v : Value) : updM y i v i = v := by unfold updM; rw [if_pos rfl]
theorem updM_ne (y : Nat → Value) {i j : Nat} (v : Value) (h : j ≠ i) : updM y i v j = y j := by unfold updM; rw [if_neg h]
theorem or_ne {f : Nat → Bool} {i j : Nat} (hn : j ≠ i) (h : (f j || j == i) = true) : f j = true := by
  rw [show (j == i) = false by simp [hn], Bool.or_false] at h
  exact h
theorem or_nf {f : Nat → Bool} {i j : Nat} (h : (f j || j == i) = false) : f j = false := by
  rw [Bool.or_eq_false_iff] at h
  exact h.1
theorem or_t {f : Nat → Bool} {i j : Nat} (h : f j = true) : (f j || j == i) = true := by rw [h]; rfl
theorem below_al {B : Nat} {W cur wN : World} (h : Below B W cur) (o : Obj) (k : Below (cur.alloc o).heap.size (cur.alloc o) wN) (hB : B ≤ W.heap.size := by exact Nat.le_refl _) : Below B W wN := by
  have k1 : Below cur.heap.size cur (cur.alloc o) := (Below.refl _ _).alloc (Nat.le_refl _) _
  have hs := h.size
  exact (h.trans (k1.mono (by omega))).trans (k.mono (by simp; omega))
theorem moIn_nil (w : World) : MoIn w (.slice none 0 0) [] := ⟨none, 0, rfl, by simp, fun h => by simp at h⟩
theorem lit_in (w : World) (l : List Mo) (T : TypeId) (hl : l.length ≤ 1000) (cs : Array Value) (hc : cs = (moL l).toArray) : MoIn (w.alloc (.cells cs T)) (.slice (some ⟨w.heap.size, 0, none⟩) l.length l.length) l := by
  have hh := World.alloc_heap_new w (.cells cs T)
  refine ⟨_, _, rfl, by omega, fun h0 => ⟨w.heap.size, 0, rfl, by simp, fun i hi => ?_⟩⟩
  have h2 := moL_at l i hi
  rw [cell_of_row _ _ _ _ _ _ hh, cell_of_row _ _ _ _ _ _ hh, hc]
  simp only [Nat.zero_add, List.getElem?_toArray]
  exact h2
section
variable {s r k t : Nat} {S R K : Int}
theorem put_c (on : Bool) (v : Value) (l : List Mo) (hS : S = (s : Nat)) (hR : R = (r : Nat)) (hK : K = (k : Nat)) (hs : s < 2048) (hr : putL on s l = r ∧ knownN l = k) (w : World) (h : MoIn w v l) (hw : ∀ x ∈ l, wfM x) (hl : l.length ≤ 10000) : Calls Try.prog 13 #[.agg #[.int .u16 S], .bool on, v] w fun e w' => e = .returned (.tuple #[.agg #[.int .u16 R], .int .i64 K]) ∧ Below w.heap.size w w' := by
  subst hS hR hK
  have := put_any s hs on v l w h hw hl
  rw [hr.1, hr.2] at this
  exact this
theorem soft_c (hS : S = (s : Nat)) (hR : R = (r : Nat)) (hs : s < 2048) (hr : softM s = r) (w : World) : Calls Try.prog 11 #[.agg #[.int .u16 S]] w fun e w' => e = .returned (.agg #[.int .u16 R]) ∧ Below w.heap.size w w' := by
  subst hS hR hr
  exact soft_any s hs w
theorem state_c (hS : S = (s : Nat)) (hR : R = (r : Nat)) (hs : s < 2048) (p : Bool) (n : Int) (h : wfM (p, n)) (hr : stateM s (p, n) = r) (w : World) : Calls Try.prog 23 #[.agg #[.int .u16 S], .agg #[.bool p, .int .i64 n]] w fun e w' => e = .returned (.int .i64 R) ∧ Below w.heap.size w w' := by
  subst hS hR hr
  exact state_any s hs p n h w
theorem is_c (hS : S = (s : Nat)) (hs : s < 2048) (p : Bool) (n : Int) (h : wfM (p, n)) (b : Bool) (hr : isM s (p, n) = b) (w : World) : Calls Try.prog 21 #[.agg #[.int .u16 S], .agg #[.bool p, .int .i64 n]] w fun e w' => e = .returned (.bool b) ∧ Below w.heap.size w w' := by
  subst hS hr
  exact is_any s hs p n h w
theorem set_c (hS : S = (s : Nat)) (hs : s < 2048) (v : Value) (l : List Mo) (b : Bool) (hr : decide (allM s = l) = b) (w : World) (h : MoIn w v l) (hl : l.length ≤ 1000) : Calls Try.prog 31 #[.agg #[.int .u16 S], v] w fun e w' => e = .returned (.bool b) ∧ Below w.heap.size w w' := by
  subst hS hr
  exact set_any s hs v l w h hl
theorem known_c (p : Bool) (n : Int) (h : wfM (p, n)) (b : Bool) (hr : (bitM (p, n)).isSome = b) (w : World) : Calls Try.prog 17 #[.agg #[.bool p, .int .i64 n]] w fun e w' => e = .returned (.bool b) ∧ Below w.heap.size w w' := by
  subst hr
  exact known_any p n h w
theorem alt_c (p : Bool) (n : Int) (h : wfM (p, n)) (b : Bool) (hr : altM (p, n) = b) (w : World) : Calls Try.prog 19 #[.agg #[.bool p, .int .i64 n]] w fun e w' => e = .returned (.bool b) ∧ Below w.heap.size w w' := by
  subst hr
  exact alt_any p n h w
theorem allc (hS : S = (s : Nat)) (hs : s < 2048) (n : Nat) (hr : (allM s).length = n) (w : World) : Calls Try.prog 28 #[.agg #[.int .u16 S]] w fun e w' => ∃ a c, e = .returned (.slice a n c) ∧ Below w.heap.size w w' := by
  subst hS hr
  refine (all_any s hs w).mono ?_
  rintro e w' ⟨v, rfl, hv, bb⟩
  obtain ⟨a, c, rfl⟩ := hv.shape
  exact ⟨a, c, rfl, bb⟩
theorem eqMs_c {b : Bool} (hS : S = (s : Nat)) (hR : R = (t : Nat)) (hb : decide (s = t) = b) (w : World) : (Op.equalIn 10000 27 (.agg #[.int .u16 S]) (.agg #[.int .u16 R])).run Try.prog w = .ok b w := by
  subst hS hR hb
  exact eqMs s t w
end
set_option maxHeartbeats 8000000 in
set_option maxRecDepth 100000 in
theorem works_any (w : World) : Calls Try.prog 26 #[] w fun e w' => e = .returned (.bool true) ∧ Below w.heap.size w w' := by
  go_enter Try.func26, Try.ntmps26
  go_upto_region 1 with (fail)
  have HB := Lib.hid (Below.refl w.heap.size w)
  have KEEP := Lib.hid (show ∀ wx, Below w.heap.size w wx → True from fun _ _ => trivial)
  have HX := Lib.hid (Below.refl w.heap.size w)
  go_wp2_with fail
  refine (mnew_any _).mono ?_
  rintro e w1 ⟨rfl, bb⟩
  replace HX := Lib.hid (HX.out.trans (bb.mono HX.out.size))
  clear bb
  obtain ⟨k1, hk1⟩ : ∃ b, b = w1.heap.size := ⟨_, rfl⟩
  obtain ⟨w2, hw2⟩ : ∃ x, x = w1.alloc (.cells #[.int .u16 96] 27) := ⟨_, rfl⟩
  have HNk1 := Lib.hid (show w2.heap[k1]? = some (.cells #[.int .u16 96] 27 (0, 0)) by rw [hw2, hk1]; exact World.alloc_heap_new _ _)
  have HXA := Lib.hid (show Below w.heap.size w w2 by rw [hw2]; exact HX.out.alloc HX.out.size _)
  replace HB := Lib.hid (HB.out.trans (HXA.out.mono HB.out.size))
  replace KEEP := Lib.hid (show ∀ wx, Below w2.heap.size w2 wx → wx.cell? ⟨k1, 0, none⟩ = some (.int .u16 96) from fun wx hx => (hx.cell (World.block_lt_of_cell? w2 _ (one_cell HNk1.out).1)).trans (one_cell HNk1.out).1)
  go_upto_region 2 with (fail)
  rw [← hw2, ← hk1]
  clear hw2 hk1 HX HXA HNk1
  go_upto_region 2 with (fail)
  refine wp_region_held_drew (S := (fun wx => wx.cell? ⟨k1, 0, none⟩ = some (.int .u16 96))) (by kernel_rfl) (KEEP.out _ ((Below.refl _ _).drew)) (fun hHeld => ?_)
  obtain ⟨z3, hz3⟩ : ∃ X, X = w2.drew := ⟨_, rfl⟩
  have HX := Lib.hid (show Below w2.heap.size w2 z3 by rw [hz3]; exact (Below.refl _ _).drew)
  replace hHeld := KEEP.out _ HX.out
  rw [← hz3]
  clear hz3
  refine tk 0 rfl (fun w hSw => by (try dsimp only at hSw); go_simp; try with_reducible rfl) ?_
  go_frame
  refine many_at (I := [(1, some 10), (2, some 11), (3, some 12), (4, some 13), (5, some 14), (6, some 15), (7, some 8), (8, some 16), (9, some 17), (10, some 2), (11, none)]) (fun i => if i = 2 then [1] else if i = 3 then [2] else if i = 4 then [3] else if i = 5 then [1, 2, 3, 4] else if i = 6 then [4, 5] else if i = 7 then [6] else if i = 8 then [7] else if i = 9 then [7] else if i = 11 then [1, 2, 3, 4, 5, 6, 7, 8, 10] else []) [true, false, false, false, false, false, false, false, false, false, false, false, false] (listed' := #[true, true, true, true, true, true, true, true, true, true, true, true, false]) (fun f y w => Below w2.heap.size w2 w ∧ (f 1 = true → y 1 = .agg #[.bool false, .int .i64 4]) ∧ (f 2 = true → y 2 = .agg #[.bool true, .int .i64 6]) ∧ (f 3 = true → y 3 = .agg #[.bool true, .int .i64 9]) ∧ (f 4 = true → y 4 = .agg #[.bool true, .int .i64 1049]) ∧ (f 5 = true → f 6 = false → ∃ g, y 5 = .slice (some ⟨g, 0, none⟩) 4 4 ∧ MoIn w (.slice (some ⟨g, 0, none⟩) 4 4) [(false, 4), (true, 6), (true, 9), (true, 1049)]) ∧ (f 6 = true → y 6 = .tuple #[.agg #[.int .u16 241], .int .i64 3]) ∧ (f 7 = true → y 7 = .tuple #[.agg #[.int .u16 241], .int .i64 3]) ∧ (f 8 = true → y 8 = .agg #[.int .u16 241]) ∧ (f 9 = true → y 9 = .int .i64 3) ∧ (f 10 = true → f 11 = false → ∃ b, y 10 = .pointer (some ⟨b, 0, none⟩) ∧ w.heap[b]? = some (.cells #[.int .u16 0] 27 (0, 0)) ∧ w2.heap.size ≤ b) ∧ (f 11 = true → f 10 = true ∧ ∃ b, y 10 = .pointer (some ⟨b, 0, none⟩) ∧ w.heap[b]? = some (.cells #[.int .u16 241] 27 (0, 0)) ∧ w2.heap.size ≤ b)) rfl (by rfl) (by decide) (by kernel_rfl) (by kernel_rfl) (fun _ => ⟨HX.out, fun h => (by cases h), fun h => (by cases h), fun h => (by cases h), fun h => (by cases h), fun h => (by cases h), fun h => (by cases h), fun h => (by cases h), fun h => (by cases h), fun h => (by cases h), fun h => (by cases h), fun h => (by cases h)⟩) hHeld ?_ ?_
  · clear HX hHeld
    refine List.forall_mem_cons.2 ⟨?_, List.forall_mem_cons.2 ⟨?_, List.forall_mem_cons.2 ⟨?_, List.forall_mem_cons.2 ⟨?_, List.forall_mem_cons.2 ⟨?_, List.forall_mem_cons.2 ⟨?_, List.forall_mem_cons.2 ⟨?_, List.forall_mem_cons.2 ⟨?_, List.forall_mem_cons.2 ⟨?_, List.forall_mem_cons.2 ⟨?_, List.forall_mem_cons.2 ⟨?_, fun _ h => by cases h⟩⟩⟩⟩⟩⟩⟩⟩⟩⟩⟩
    · refine StepM.mk rfl rfl (fun y => by kernel_rfl) (fun f y u hf hdp hI hHeld K hK => ?_)
      have HI := Lib.hid hI
      clear hI hf hdp
      simp only [actM, List.foldl_cons, List.foldl_nil, Act.put, List.setIfInBounds_toArray, List.set_cons_zero, List.set_cons_succ]
      go_simp
      refine (ansi_any 4 _).mono ?_
      rintro e u' ⟨rfl, bb⟩
      have BB := Lib.hid bb
      clear bb
      go_wp2_with fail
      exact hK.out (.agg #[.bool false, .int .i64 4]) _ _ (by kernel_rfl) ⟨HI.out.1.trans (BB.out.mono HI.out.1.size), fun _ => updM_eq _ _ _, fun h => (updM_ne _ _ (by decide)).trans (HI.out.2.2.1 (or_ne (by decide) h)), fun h => (updM_ne _ _ (by decide)).trans (HI.out.2.2.2.1 (or_ne (by decide) h)), fun h => (updM_ne _ _ (by decide)).trans (HI.out.2.2.2.2.1 (or_ne (by decide) h)), fun h h' => (by obtain ⟨g, e1, e2⟩ := HI.out.2.2.2.2.2.1 (or_ne (by decide) h) (or_nf h'); exact ⟨g, (updM_ne _ _ (by decide)).trans e1, e2.below BB.out⟩), fun h => (updM_ne _ _ (by decide)).trans (HI.out.2.2.2.2.2.2.1 (or_ne (by decide) h)), fun h => (updM_ne _ _ (by decide)).trans (HI.out.2.2.2.2.2.2.2.1 (or_ne (by decide) h)), fun h => (updM_ne _ _ (by decide)).trans (HI.out.2.2.2.2.2.2.2.2.1 (or_ne (by decide) h)), fun h => (updM_ne _ _ (by decide)).trans (HI.out.2.2.2.2.2.2.2.2.2.1 (or_ne (by decide) h)), fun h h' => (by obtain ⟨b, e1, e2, e3⟩ := HI.out.2.2.2.2.2.2.2.2.2.2.1 (or_ne (by decide) h) (or_nf h'); exact ⟨b, (updM_ne _ _ (by decide)).trans e1, (BB.out.block b (Array.getElem?_eq_some_iff.1 e2).1).trans e2, e3⟩), fun h => (by obtain ⟨h0, b, e1, e2, e3⟩ := HI.out.2.2.2.2.2.2.2.2.2.2.2 (or_ne (by decide) h); exact ⟨or_t h0, b, (updM_ne _ _ (by decide)).trans e1, (BB.out.block b (Array.getElem?_eq_some_iff.1 e2).1).trans e2, e3⟩)⟩ (KEEP.out _ (HI.out.1.trans (BB.out.mono HI.out.1.size)))
    · refine StepM.mk rfl rfl (fun y => by kernel_rfl) (fun f y u hf hdp hI hHeld K hK => ?_)
      have HI := Lib.hid hI
      clear hI hf hdp
      simp only [actM, List.foldl_cons, List.foldl_nil, Act.put, List.setIfInBounds_toArray, List.set_cons_zero, List.set_cons_succ]
      go_simp
      refine (priv_any 6 _).mono ?_
      rintro e u' ⟨rfl, bb⟩
      have BB := Lib.hid bb
      clear bb
      go_wp2_with fail
      exact hK.out (.agg #[.bool true, .int .i64 6]) _ _ (by kernel_rfl) ⟨HI.out.1.trans (BB.out.mono HI.out.1.size), fun h => (updM_ne _ _ (by decide)).trans (HI.out.2.1 (or_ne (by decide) h)), fun _ => updM_eq _ _ _, fun h => (updM_ne _ _ (by decide)).trans (HI.out.2.2.2.1 (or_ne (by decide) h)), fun h => (updM_ne _ _ (by decide)).trans (HI.out.2.2.2.2.1 (or_ne (by decide) h)), fun h h' => (by obtain ⟨g, e1, e2⟩ := HI.out.2.2.2.2.2.1 (or_ne (by decide) h) (or_nf h'); exact ⟨g, (updM_ne _ _ (by decide)).trans e1, e2.below BB.out⟩), fun h => (updM_ne _ _ (by decide)).trans (HI.out.2.2.2.2.2.2.1 (or_ne (by decide) h)), fun h => (updM_ne _ _ (by decide)).trans (HI.out.2.2.2.2.2.2.2.1 (or_ne (by decide) h)), fun h => (updM_ne _ _ (by decide)).trans (HI.out.2.2.2.2.2.2.2.2.1 (or_ne (by decide) h)), fun h => (updM_ne _ _ (by decide)).trans (HI.out.2.2.2.2.2.2.2.2.2.1 (or_ne (by decide) h)), fun h h' => (by obtain ⟨b, e1, e2, e3⟩ := HI.out.2.2.2.2.2.2.2.2.2.2.1 (or_ne (by decide) h) (or_nf h'); exact ⟨b, (updM_ne _ _ (by decide)).trans e1, (BB.out.block b (Array.getElem?_eq_some_iff.1 e2).1).trans e2, e3⟩), fun h => (by obtain ⟨h0, b, e1, e2, e3⟩ := HI.out.2.2.2.2.2.2.2.2.2.2.2 (or_ne (by decide) h); exact ⟨or_t h0, b, (updM_ne _ _ (by decide)).trans e1, (BB.out.block b (Array.getElem?_eq_some_iff.1 e2).1).trans e2, e3⟩)⟩ (KEEP.out _ (HI.out.1.trans (BB.out.mono HI.out.1.size)))
    · refine StepM.mk rfl rfl (fun y => by kernel_rfl) (fun f y u hf hdp hI hHeld K hK => ?_)
      have HI := Lib.hid hI
      clear hI hf hdp
      simp only [actM, List.foldl_cons, List.foldl_nil, Act.put, List.setIfInBounds_toArray, List.set_cons_zero, List.set_cons_succ]
      go_simp
      refine (priv_any 9 _).mono ?_
      rintro e u' ⟨rfl, bb⟩
      have BB := Lib.hid bb
      clear bb
      go_wp2_with fail
      exact hK.out (.agg #[.bool true, .int .i64 9]) _ _ (by kernel_rfl) ⟨HI.out.1.trans (BB.out.mono HI.out.1.size), fun h => (updM_ne _ _ (by decide)).trans (HI.out.2.1 (or_ne (by decide) h)), fun h => (updM_ne _ _ (by decide)).trans (HI.out.2.2.1 (or_ne (by decide) h)), fun _ => updM_eq _ _ _, fun h => (updM_ne _ _ (by decide)).trans (HI.out.2.2.2.2.1 (or_ne (by decide) h)), fun h h' => (by obtain ⟨g, e1, e2⟩ := HI.out.2.2.2.2.2.1 (or_ne (by decide) h) (or_nf h'); exact ⟨g, (updM_ne _ _ (by decide)).trans e1, e2.below BB.out⟩), fun h => (updM_ne _ _ (by decide)).trans (HI.out.2.2.2.2.2.2.1 (or_ne (by decide) h)), fun h => (updM_ne _ _ (by decide)).trans (HI.out.2.2.2.2.2.2.2.1 (or_ne (by decide) h)), fun h => (updM_ne _ _ (by decide)).trans (HI.out.2.2.2.2.2.2.2.2.1 (or_ne (by decide) h)), fun h => (updM_ne _ _ (by decide)).trans (HI.out.2.2.2.2.2.2.2.2.2.1 (or_ne (by decide) h)), fun h h' => (by obtain ⟨b, e1, e2, e3⟩ := HI.out.2.2.2.2.2.2.2.2.2.2.1 (or_ne (by decide) h) (or_nf h'); exact ⟨b, (updM_ne _ _ (by decide)).trans e1, (BB.out.block b (Array.getElem?_eq_some_iff.1 e2).1).trans e2, e3⟩), fun h => (by obtain ⟨h0, b, e1, e2, e3⟩ := HI.out.2.2.2.2.2.2.2.2.2.2.2 (or_ne (by decide) h); exact ⟨or_t h0, b, (updM_ne _ _ (by decide)).trans e1, (BB.out.block b (Array.getElem?_eq_some_iff.1 e2).1).trans e2, e3⟩)⟩ (KEEP.out _ (HI.out.1.trans (BB.out.mono HI.out.1.size)))
    · refine StepM.mk rfl rfl (fun y => by kernel_rfl) (fun f y u hf hdp hI hHeld K hK => ?_)
      have HI := Lib.hid hI
      clear hI hf hdp
      simp only [actM, List.foldl_cons, List.foldl_nil, Act.put, List.setIfInBounds_toArray, List.set_cons_zero, List.set_cons_succ]
      go_simp
      refine (priv_any 1049 _).mono ?_
      rintro e u' ⟨rfl, bb⟩
      have BB := Lib.hid bb
      clear bb
      go_wp2_with fail
      exact hK.out (.agg #[.bool true, .int .i64 1049]) _ _ (by kernel_rfl) ⟨HI.out.1.trans (BB.out.mono HI.out.1.size), fun h => (updM_ne _ _ (by decide)).trans (HI.out.2.1 (or_ne (by decide) h)), fun h => (updM_ne _ _ (by decide)).trans (HI.out.2.2.1 (or_ne (by decide) h)), fun h => (updM_ne _ _ (by decide)).trans (HI.out.2.2.2.1 (or_ne (by decide) h)), fun _ => updM_eq _ _ _, fun h h' => (by obtain ⟨g, e1, e2⟩ := HI.out.2.2.2.2.2.1 (or_ne (by decide) h) (or_nf h'); exact ⟨g, (updM_ne _ _ (by decide)).trans e1, e2.below BB.out⟩), fun h => (updM_ne _ _ (by decide)).trans (HI.out.2.2.2.2.2.2.1 (or_ne (by decide) h)), fun h => (updM_ne _ _ (by decide)).trans (HI.out.2.2.2.2.2.2.2.1 (or_ne (by decide) h)), fun h => (updM_ne _ _ (by decide)).trans (HI.out.2.2.2.2.2.2.2.2.1 (or_ne (by decide) h)), fun h => (updM_ne _ _ (by decide)).trans (HI.out.2.2.2.2.2.2.2.2.2.1 (or_ne (by decide) h)), fun h h' => (by obtain ⟨b, e1, e2, e3⟩ := HI.out.2.2.2.2.2.2.2.2.2.2.1 (or_ne (by decide) h) (or_nf h'); exact ⟨b, (updM_ne _ _ (by decide)).trans e1, (BB.out.block b (Array.getElem?_eq_some_iff.1 e2).1).trans e2, e3⟩), fun h => (by obtain ⟨h0, b, e1, e2, e3⟩ := HI.out.2.2.2.2.2.2.2.2.2.2.2 (or_ne (by decide) h); exact ⟨or_t h0, b, (updM_ne _ _ (by decide)).trans e1, (BB.out.block b (Array.getElem?_eq_some_iff.1 e2).1).trans e2, e3⟩)⟩ (KEEP.out _ (HI.out.1.trans (BB.out.mono HI.out.1.size)))
    · refine StepM.mk rfl rfl (fun y => by kernel_rfl) (fun f y u hf hdp hI hHeld K hK => ?_)
      have HI := Lib.hid hI
      have e1 := HI.out.2.1 (hdp 1 (by decide))
      have e2 := HI.out.2.2.1 (hdp 2 (by decide))
      have e3 := HI.out.2.2.2.1 (hdp 3 (by decide))
      have e4 := HI.out.2.2.2.2.1 (hdp 4 (by decide))
      clear hI hf hdp
      simp only [actM, List.foldl_cons, List.foldl_nil, Act.put, List.setIfInBounds_toArray, List.set_cons_zero, List.set_cons_succ, e1, e2, e3, e4]
      have He1 := Lib.hid e1
      have He2 := Lib.hid e2
      have He3 := Lib.hid e3
      have He4 := Lib.hid e4
      clear e1 e2 e3 e4
      have HM := Lib.hid (lit_in u [(false, 4), (true, 6), (true, 9), (true, 1049)] 24 (by decide) _ rfl)
      have BB := Lib.hid (show Below u.heap.size u (u.alloc (.cells #[.bool false, .int .i64 4, .bool true, .int .i64 6, .bool true, .int .i64 9, .bool true, .int .i64 1049] 24)) from (Below.refl _ _).alloc (Nat.le_refl _) _)
      go_wp2_with fail
      exact hK.out (.slice (some ⟨u.heap.size, 0, none⟩) 4 4) _ _ (by simp only [actM, List.foldl_cons, List.foldl_nil, Act.put, List.setIfInBounds_toArray, List.set_cons_zero, List.set_cons_succ, He1.out, He2.out, He3.out, He4.out]) ⟨HI.out.1.trans (BB.out.mono HI.out.1.size), fun h => (updM_ne _ _ (by decide)).trans (HI.out.2.1 (or_ne (by decide) h)), fun h => (updM_ne _ _ (by decide)).trans (HI.out.2.2.1 (or_ne (by decide) h)), fun h => (updM_ne _ _ (by decide)).trans (HI.out.2.2.2.1 (or_ne (by decide) h)), fun h => (updM_ne _ _ (by decide)).trans (HI.out.2.2.2.2.1 (or_ne (by decide) h)), fun _ _ => ⟨_, updM_eq _ _ _, HM.out⟩, fun h => (updM_ne _ _ (by decide)).trans (HI.out.2.2.2.2.2.2.1 (or_ne (by decide) h)), fun h => (updM_ne _ _ (by decide)).trans (HI.out.2.2.2.2.2.2.2.1 (or_ne (by decide) h)), fun h => (updM_ne _ _ (by decide)).trans (HI.out.2.2.2.2.2.2.2.2.1 (or_ne (by decide) h)), fun h => (updM_ne _ _ (by decide)).trans (HI.out.2.2.2.2.2.2.2.2.2.1 (or_ne (by decide) h)), fun h h' => (by obtain ⟨b, e1, e2, e3⟩ := HI.out.2.2.2.2.2.2.2.2.2.2.1 (or_ne (by decide) h) (or_nf h'); exact ⟨b, (updM_ne _ _ (by decide)).trans e1, (BB.out.block b (Array.getElem?_eq_some_iff.1 e2).1).trans e2, e3⟩), fun h => (by obtain ⟨h0, b, e1, e2, e3⟩ := HI.out.2.2.2.2.2.2.2.2.2.2.2 (or_ne (by decide) h); exact ⟨or_t h0, b, (updM_ne _ _ (by decide)).trans e1, (BB.out.block b (Array.getElem?_eq_some_iff.1 e2).1).trans e2, e3⟩)⟩ (KEEP.out _ (HI.out.1.trans (BB.out.mono HI.out.1.size)))
    · refine StepM.mk rfl rfl (fun y => by kernel_rfl) (fun f y u hf hdp hI hHeld K hK => ?_)
      have HI := Lib.hid hI
      obtain ⟨g, e5, hm⟩ := HI.out.2.2.2.2.2.1 (hdp 5 (by decide)) hf
      have HM := Lib.hid hm
      clear hm
      clear hI hf hdp
      simp only [actM, List.foldl_cons, List.foldl_nil, Act.put, List.setIfInBounds_toArray, List.set_cons_zero, List.set_cons_succ, e5]
      have He5 := Lib.hid e5
      clear e5
      go_simp
      refine (put_c (s := 96) (r := 241) (k := 3) (S := 96) (R := 241) (K := 3) true _ [(false, 4), (true, 6), (true, 9), (true, 1049)] rfl rfl rfl (by decide) (by decide +kernel) _ HM.out (by decide) (by decide)).mono ?_
      rintro e u' ⟨rfl, bb⟩
      have BB := Lib.hid bb
      clear bb
      go_wp2_with fail
      exact hK.out (.tuple #[.agg #[.int .u16 241], .int .i64 3]) _ _ (by simp only [actM, List.foldl_cons, List.foldl_nil, Act.put, List.setIfInBounds_toArray, List.set_cons_zero, List.set_cons_succ, He5.out]) ⟨HI.out.1.trans (BB.out.mono HI.out.1.size), fun h => (updM_ne _ _ (by decide)).trans (HI.out.2.1 (or_ne (by decide) h)), fun h => (updM_ne _ _ (by decide)).trans (HI.out.2.2.1 (or_ne (by decide) h)), fun h => (updM_ne _ _ (by decide)).trans (HI.out.2.2.2.1 (or_ne (by decide) h)), fun h => (updM_ne _ _ (by decide)).trans (HI.out.2.2.2.2.1 (or_ne (by decide) h)), fun _ h => absurd h (by simp), fun _ => updM_eq _ _ _, fun h => (updM_ne _ _ (by decide)).trans (HI.out.2.2.2.2.2.2.2.1 (or_ne (by decide) h)), fun h => (updM_ne _ _ (by decide)).trans (HI.out.2.2.2.2.2.2.2.2.1 (or_ne (by decide) h)), fun h => (updM_ne _ _ (by decide)).trans (HI.out.2.2.2.2.2.2.2.2.2.1 (or_ne (by decide) h)), fun h h' => (by obtain ⟨b, e1, e2, e3⟩ := HI.out.2.2.2.2.2.2.2.2.2.2.1 (or_ne (by decide) h) (or_nf h'); exact ⟨b, (updM_ne _ _ (by decide)).trans e1, (BB.out.block b (Array.getElem?_eq_some_iff.1 e2).1).trans e2, e3⟩), fun h => (by obtain ⟨h0, b, e1, e2, e3⟩ := HI.out.2.2.2.2.2.2.2.2.2.2.2 (or_ne (by decide) h); exact ⟨or_t h0, b, (updM_ne _ _ (by decide)).trans e1, (BB.out.block b (Array.getElem?_eq_some_iff.1 e2).1).trans e2, e3⟩)⟩ (KEEP.out _ (HI.out.1.trans (BB.out.mono HI.out.1.size)))
    · refine StepM.mk rfl rfl (fun y => by kernel_rfl) (fun f y u hf hdp hI hHeld K hK => ?_)
      have HI := Lib.hid hI
      have e6 := HI.out.2.2.2.2.2.2.1 (hdp 6 (by decide))
      clear hI hf hdp
      simp only [actM, List.foldl_cons, List.foldl_nil, Act.put, List.setIfInBounds_toArray, List.set_cons_zero, List.set_cons_succ, e6]
      have He6 := Lib.hid e6
      clear e6
      go_wp2_with fail
      exact hK.out (.tuple #[.agg #[.int .u16 241], .int .i64 3]) _ _ (by simp only [actM, List.foldl_cons, List.foldl_nil, Act.put, List.setIfInBounds_toArray, List.set_cons_zero, List.set_cons_succ, He6.out]) ⟨HI.out.1, fun h => (updM_ne _ _ (by decide)).trans (HI.out.2.1 (or_ne (by decide) h)), fun h => (updM_ne _ _ (by decide)).trans (HI.out.2.2.1 (or_ne (by decide) h)), fun h => (updM_ne _ _ (by decide)).trans (HI.out.2.2.2.1 (or_ne (by decide) h)), fun h => (updM_ne _ _ (by decide)).trans (HI.out.2.2.2.2.1 (or_ne (by decide) h)), fun h h' => (by obtain ⟨g, e1, e2⟩ := HI.out.2.2.2.2.2.1 (or_ne (by decide) h) (or_nf h'); exact ⟨g, (updM_ne _ _ (by decide)).trans e1, e2⟩), fun h => (updM_ne _ _ (by decide)).trans (HI.out.2.2.2.2.2.2.1 (or_ne (by decide) h)), fun _ => updM_eq _ _ _, fun h => (updM_ne _ _ (by decide)).trans (HI.out.2.2.2.2.2.2.2.2.1 (or_ne (by decide) h)), fun h => (updM_ne _ _ (by decide)).trans (HI.out.2.2.2.2.2.2.2.2.2.1 (or_ne (by decide) h)), fun h h' => (by obtain ⟨b, e1, e2, e3⟩ := HI.out.2.2.2.2.2.2.2.2.2.2.1 (or_ne (by decide) h) (or_nf h'); exact ⟨b, (updM_ne _ _ (by decide)).trans e1, e2, e3⟩), fun h => (by obtain ⟨h0, b, e1, e2, e3⟩ := HI.out.2.2.2.2.2.2.2.2.2.2.2 (or_ne (by decide) h); exact ⟨or_t h0, b, (updM_ne _ _ (by decide)).trans e1, e2, e3⟩)⟩ hHeld
    · refine StepM.mk rfl rfl (fun y => by kernel_rfl) (fun f y u hf hdp hI hHeld K hK => ?_)
      have HI := Lib.hid hI
      have e7 := HI.out.2.2.2.2.2.2.2.1 (hdp 7 (by decide))
      clear hI hf hdp
      simp only [actM, List.foldl_cons, List.foldl_nil, Act.put, List.setIfInBounds_toArray, List.set_cons_zero, List.set_cons_succ, e7]
      have He7 := Lib.hid e7
      clear e7
      go_wp2_with fail
      exact hK.out (.agg #[.int .u16 241]) _ _ (by simp only [actM, List.foldl_cons, List.foldl_nil, Act.put, List.setIfInBounds_toArray, List.set_cons_zero, List.set_cons_succ, He7.out]) ⟨HI.out.1, fun h => (updM_ne _ _ (by decide)).trans (HI.out.2.1 (or_ne (by decide) h)), fun h => (updM_ne _ _ (by decide)).trans (HI.out.2.2.1 (or_ne (by decide) h)), fun h => (updM_ne _ _ (by decide)).trans (HI.out.2.2.2.1 (or_ne (by decide) h)), fun h => (updM_ne _ _ (by decide)).trans (HI.out.2.2.2.2.1 (or_ne (by decide) h)), fun h h' => (by obtain ⟨g, e1, e2⟩ := HI.out.2.2.2.2.2.1 (or_ne (by decide) h) (or_nf h'); exact ⟨g, (updM_ne _ _ (by decide)).trans e1, e2⟩), fun h => (updM_ne _ _ (by decide)).trans (HI.out.2.2.2.2.2.2.1 (or_ne (by decide) h)), fun h => (updM_ne _ _ (by decide)).trans (HI.out.2.2.2.2.2.2.2.1 (or_ne (by decide) h)), fun _ => updM_eq _ _ _, fun h => (updM_ne _ _ (by decide)).trans (HI.out.2.2.2.2.2.2.2.2.2.1 (or_ne (by decide) h)), fun h h' => (by obtain ⟨b, e1, e2, e3⟩ := HI.out.2.2.2.2.2.2.2.2.2.2.1 (or_ne (by decide) h) (or_nf h'); exact ⟨b, (updM_ne _ _ (by decide)).trans e1, e2, e3⟩), fun h => (by obtain ⟨h0, b, e1, e2, e3⟩ := HI.out.2.2.2.2.2.2.2.2.2.2.2 (or_ne (by decide) h); exact ⟨or_t h0, b, (updM_ne _ _ (by decide)).trans e1, e2, e3⟩)⟩ hHeld
    · refine StepM.mk rfl rfl (fun y => by kernel_rfl) (fun f y u hf hdp hI hHeld K hK => ?_)
      have HI := Lib.hid hI
      have e7 := HI.out.2.2.2.2.2.2.2.1 (hdp 7 (by decide))
      clear hI hf hdp
      simp only [actM, List.foldl_cons, List.foldl_nil, Act.put, List.setIfInBounds_toArray, List.set_cons_zero, List.set_cons_succ, e7]
      have He7 := Lib.hid e7
      clear e7
      go_wp2_with fail
      exact hK.out (.int .i64 3) _ _ (by simp only [actM, List.foldl_cons, List.foldl_nil, Act.put, List.setIfInBounds_toArray, List.set_cons_zero, List.set_cons_succ, He7.out]) ⟨HI.out.1, fun h => (updM_ne _ _ (by decide)).trans (HI.out.2.1 (or_ne (by decide) h)), fun h => (updM_ne _ _ (by decide)).trans (HI.out.2.2.1 (or_ne (by decide) h)), fun h => (updM_ne _ _ (by decide)).trans (HI.out.2.2.2.1 (or_ne (by decide) h)), fun h => (updM_ne _ _ (by decide)).trans (HI.out.2.2.2.2.1 (or_ne (by decide) h)), fun h h' => (by obtain ⟨g, e1, e2⟩ := HI.out.2.2.2.2.2.1 (or_ne (by decide) h) (or_nf h'); exact ⟨g, (updM_ne _ _ (by decide)).trans e1, e2⟩), fun h => (updM_ne _ _ (by decide)).trans (HI.out.2.2.2.2.2.2.1 (or_ne (by decide) h)), fun h => (updM_ne _ _ (by decide)).trans (HI.out.2.2.2.2.2.2.2.1 (or_ne (by decide) h)), fun h => (updM_ne _ _ (by decide)).trans (HI.out.2.2.2.2.2.2.2.2.1 (or_ne (by decide) h)), fun _ => updM_eq _ _ _, fun h h' => (by obtain ⟨b, e1, e2, e3⟩ := HI.out.2.2.2.2.2.2.2.2.2.2.1 (or_ne (by decide) h) (or_nf h'); exact ⟨b, (updM_ne _ _ (by decide)).trans e1, e2, e3⟩), fun h => (by obtain ⟨h0, b, e1, e2, e3⟩ := HI.out.2.2.2.2.2.2.2.2.2.2.2 (or_ne (by decide) h); exact ⟨or_t h0, b, (updM_ne _ _ (by decide)).trans e1, e2, e3⟩)⟩ hHeld
    · refine StepM.mk rfl rfl (fun y => by kernel_rfl) (fun f y u hf hdp hI hHeld K hK => ?_)
      have HI := Lib.hid hI
      have HNS := Lib.hid (show f 11 = false by
        cases hq : f 11 with
        | false => rfl
        | true =>
          have := (HI.out.2.2.2.2.2.2.2.2.2.2.2 hq).1
          rw [hf] at this
          cases this)
      clear hI hf hdp
      simp only [actM, List.foldl_cons, List.foldl_nil, Act.put, List.setIfInBounds_toArray, List.set_cons_zero, List.set_cons_succ]
      have bb := Lib.hid (show Below u.heap.size u (u.alloc (.cells #[.int .u16 0] 27)) from (Below.refl _ _).alloc (Nat.le_refl _) _)
      have hnew := Lib.hid (World.alloc_heap_new u (.cells #[.int .u16 0] 27))
      go_wp2_with fail
      exact hK.out (.pointer (some ⟨u.heap.size, 0, none⟩)) _ _ (by kernel_rfl) ⟨HI.out.1.trans (bb.out.mono HI.out.1.size), fun h => (updM_ne _ _ (by decide)).trans (HI.out.2.1 (or_ne (by decide) h)), fun h => (updM_ne _ _ (by decide)).trans (HI.out.2.2.1 (or_ne (by decide) h)), fun h => (updM_ne _ _ (by decide)).trans (HI.out.2.2.2.1 (or_ne (by decide) h)), fun h => (updM_ne _ _ (by decide)).trans (HI.out.2.2.2.2.1 (or_ne (by decide) h)), fun h h' => (by obtain ⟨g, e1, e2⟩ := HI.out.2.2.2.2.2.1 (or_ne (by decide) h) (or_nf h'); exact ⟨g, (updM_ne _ _ (by decide)).trans e1, e2.below bb.out⟩), fun h => (updM_ne _ _ (by decide)).trans (HI.out.2.2.2.2.2.2.1 (or_ne (by decide) h)), fun h => (updM_ne _ _ (by decide)).trans (HI.out.2.2.2.2.2.2.2.1 (or_ne (by decide) h)), fun h => (updM_ne _ _ (by decide)).trans (HI.out.2.2.2.2.2.2.2.2.1 (or_ne (by decide) h)), fun h => (updM_ne _ _ (by decide)).trans (HI.out.2.2.2.2.2.2.2.2.2.1 (or_ne (by decide) h)), fun _ _ => ⟨_, updM_eq _ _ _, hnew.out, HI.out.1.size⟩, fun h => absurd (show f 11 = true from or_ne (by decide) h) (by rw [HNS.out]; decide)⟩ (KEEP.out _ (HI.out.1.trans (bb.out.mono HI.out.1.size)))
    · refine StepM.mk rfl rfl (fun y => by kernel_rfl) (fun f y u hf hdp hI hHeld K hK => ?_)
      have HI := Lib.hid hI
      have hch := (HI.out.2.2.2.2.2.2.2.2.2.2.1 (hdp 10 (by decide)) hf).choose_spec
      generalize (HI.out.2.2.2.2.2.2.2.2.2.2.1 (hdp 10 (by decide)) hf).choose = b at hch
      have e10 := hch.1
      have hb0 := hch.2.1
      have hbW := hch.2.2
      clear hch
      have e8 := HI.out.2.2.2.2.2.2.2.2.1 (hdp 8 (by decide))
      have HDA := Lib.hid (hdp 10 (by decide))
      have HNC := Lib.hid (hdp 6 (by decide))
      have HYA := Lib.hid e10
      have HB0 := Lib.hid (And.intro hb0 hbW)
      clear hI hf hdp hb0 hbW
      simp only [actM, List.foldl_cons, List.foldl_nil, Act.put, List.setIfInBounds_toArray, List.set_cons_zero, List.set_cons_succ, e10, e8]
      have He8 := Lib.hid e8
      clear e10 e8
      have hcb := (one_cell HB0.out.1).1
      have hfb := (one_cell HB0.out.1).2
      obtain ⟨u', hu'⟩ : ∃ X, X = u.setCell ⟨b, 0, none⟩ (.int .u16 241) := ⟨_, rfl⟩
      have BB := Lib.hid (show Below w2.heap.size w2 u' by rw [hu']; exact HI.out.1.trans ((But.set u b 0 _).below HB0.out.2 HI.out.1.size))
      have HNW := Lib.hid (show u'.heap[b]? = some (.cells #[.int .u16 241] 27 (0, 0)) by rw [hu']; exact one_setCell HB0.out.1)
      go_simp
      rw [← hu']
      exact hK.out undef _ _ (by simp only [actM, List.foldl_cons, List.foldl_nil, Act.put, List.setIfInBounds_toArray, List.set_cons_zero, List.set_cons_succ, HYA.out, He8.out]) ⟨BB.out, fun h => (updM_ne _ _ (by decide)).trans (HI.out.2.1 (or_ne (by decide) h)), fun h => (updM_ne _ _ (by decide)).trans (HI.out.2.2.1 (or_ne (by decide) h)), fun h => (updM_ne _ _ (by decide)).trans (HI.out.2.2.2.1 (or_ne (by decide) h)), fun h => (updM_ne _ _ (by decide)).trans (HI.out.2.2.2.2.1 (or_ne (by decide) h)), fun _ h => absurd (show f 6 = false from or_nf h) (by rw [HNC.out]; decide), fun h => (updM_ne _ _ (by decide)).trans (HI.out.2.2.2.2.2.2.1 (or_ne (by decide) h)), fun h => (updM_ne _ _ (by decide)).trans (HI.out.2.2.2.2.2.2.2.1 (or_ne (by decide) h)), fun h => (updM_ne _ _ (by decide)).trans (HI.out.2.2.2.2.2.2.2.2.1 (or_ne (by decide) h)), fun h => (updM_ne _ _ (by decide)).trans (HI.out.2.2.2.2.2.2.2.2.2.1 (or_ne (by decide) h)), fun _ h => absurd h (by simp), fun _ => ⟨or_t HDA.out, b, (updM_ne _ _ (by decide)).trans HYA.out, HNW.out, HB0.out.2⟩⟩ (KEEP.out _ BB.out)
  · clear HX hHeld
    intro y w4 hI hHeld
    have HI := Lib.hid hI
    obtain ⟨_, k2, e10, hnb, hkb⟩ := HI.out.2.2.2.2.2.2.2.2.2.2.2 (by decide)
    have HNk2 := Lib.hid hnb
    have e1 := HI.out.2.1 (by decide)
    have e2 := HI.out.2.2.1 (by decide)
    have e3 := HI.out.2.2.2.1 (by decide)
    have e4 := HI.out.2.2.2.2.1 (by decide)
    have e6 := HI.out.2.2.2.2.2.2.1 (by decide)
    have e7 := HI.out.2.2.2.2.2.2.2.1 (by decide)
    have e8 := HI.out.2.2.2.2.2.2.2.2.1 (by decide)
    have e9 := HI.out.2.2.2.2.2.2.2.2.2.1 (by decide)
    have HXA := Lib.hid HI.out.1
    clear hI hnb hkb
    simp only [actM, List.foldl_cons, List.foldl_nil, Act.put, List.setIfInBounds_toArray, List.set_cons_zero, List.set_cons_succ, e10, e1, e2, e3, e4, e6, e7, e8, e9]
    clear HI e10 e1 e2 e3 e4 e6 e7 e8 e9
    refine tk 12 rfl (fun w hSw => by (try dsimp only at hSw); go_simp; try with_reducible rfl) ?_
    go_frame
    refine wpAnyH_done (by kernel_rfl) ?_ _
    clear hHeld
    replace HB := Lib.hid (HB.out.trans (HXA.out.mono HB.out.size))
    replace KEEP := Lib.hid (show ∀ wx, Below w4.heap.size w4 wx → wx.cell? ⟨k1, 0, none⟩ = some (.int .u16 96) ∧ wx.cell? ⟨k2, 0, none⟩ = some (.int .u16 241) from fun wx hx => ⟨(KEEP.out wx (HXA.out.trans (hx.mono HXA.out.size))), (hx.cell (World.block_lt_of_cell? w4 _ (one_cell HNk2.out).1)).trans (one_cell HNk2.out).1⟩)
    clear HXA HNk2
    go_upto_region 3 with (fail)
    refine wp_region_held_drew (S := (fun wx => wx.cell? ⟨k1, 0, none⟩ = some (.int .u16 96) ∧ wx.cell? ⟨k2, 0, none⟩ = some (.int .u16 241))) (by kernel_rfl) (KEEP.out _ ((Below.refl _ _).drew)) (fun hHeld => ?_)
    obtain ⟨z5, hz5⟩ : ∃ X, X = w4.drew := ⟨_, rfl⟩
    have HX := Lib.hid (show Below w4.heap.size w4 z5 by rw [hz5]; exact (Below.refl _ _).drew)
    replace hHeld := KEEP.out _ HX.out
    rw [← hz5]
    clear hz5
    refine tk 0 rfl (fun w hSw => by (try dsimp only at hSw); go_simp; try with_reducible rfl) ?_
    go_frame
    refine many_at (I := [(1, some 20), (2, some 21), (3, some 22), (4, some 18), (5, some 23), (6, some 24), (7, some 4), (8, none)]) (fun i => if i = 2 then [1] else if i = 3 then [1, 2] else if i = 4 then [3] else if i = 5 then [4] else if i = 6 then [4] else if i = 8 then [1, 2, 3, 4, 5, 7] else []) [true, false, false, false, false, false, false, false, false, false] (listed' := #[true, true, true, true, true, true, true, true, true, false]) (fun f y w => Below w4.heap.size w4 w ∧ (f 1 = true → y 1 = .agg #[.bool true, .int .i64 47]) ∧ (f 2 = true → f 3 = false → ∃ g, y 2 = .slice (some ⟨g, 0, none⟩) 1 1 ∧ MoIn w (.slice (some ⟨g, 0, none⟩) 1 1) [(true, 47)]) ∧ (f 3 = true → y 3 = .tuple #[.agg #[.int .u16 113], .int .i64 1]) ∧ (f 4 = true → y 4 = .tuple #[.agg #[.int .u16 113], .int .i64 1]) ∧ (f 5 = true → y 5 = .agg #[.int .u16 113]) ∧ (f 6 = true → y 6 = .int .i64 1) ∧ (f 7 = true → f 8 = false → ∃ b, y 7 = .pointer (some ⟨b, 0, none⟩) ∧ w.heap[b]? = some (.cells #[.int .u16 0] 27 (0, 0)) ∧ w4.heap.size ≤ b) ∧ (f 8 = true → f 7 = true ∧ ∃ b, y 7 = .pointer (some ⟨b, 0, none⟩) ∧ w.heap[b]? = some (.cells #[.int .u16 113] 27 (0, 0)) ∧ w4.heap.size ≤ b)) rfl (by rfl) (by decide) (by kernel_rfl) (by kernel_rfl) (fun _ => ⟨HX.out, fun h => (by cases h), fun h => (by cases h), fun h => (by cases h), fun h => (by cases h), fun h => (by cases h), fun h => (by cases h), fun h => (by cases h), fun h => (by cases h)⟩) hHeld ?_ ?_
    · clear HX hHeld
      refine List.forall_mem_cons.2 ⟨?_, List.forall_mem_cons.2 ⟨?_, List.forall_mem_cons.2 ⟨?_, List.forall_mem_cons.2 ⟨?_, List.forall_mem_cons.2 ⟨?_, List.forall_mem_cons.2 ⟨?_, List.forall_mem_cons.2 ⟨?_, List.forall_mem_cons.2 ⟨?_, fun _ h => by cases h⟩⟩⟩⟩⟩⟩⟩⟩
      · refine StepM.mk rfl rfl (fun y => by kernel_rfl) (fun f y u hf hdp hI hHeld K hK => ?_)
        have HI := Lib.hid hI
        clear hI hf hdp
        simp only [actM, List.foldl_cons, List.foldl_nil, Act.put, List.setIfInBounds_toArray, List.set_cons_zero, List.set_cons_succ]
        go_simp
        refine (priv_any 47 _).mono ?_
        rintro e u' ⟨rfl, bb⟩
        have BB := Lib.hid bb
        clear bb
        go_wp2_with fail
        exact hK.out (.agg #[.bool true, .int .i64 47]) _ _ (by kernel_rfl) ⟨HI.out.1.trans (BB.out.mono HI.out.1.size), fun _ => updM_eq _ _ _, fun h h' => (by obtain ⟨g, e1, e2⟩ := HI.out.2.2.1 (or_ne (by decide) h) (or_nf h'); exact ⟨g, (updM_ne _ _ (by decide)).trans e1, e2.below BB.out⟩), fun h => (updM_ne _ _ (by decide)).trans (HI.out.2.2.2.1 (or_ne (by decide) h)), fun h => (updM_ne _ _ (by decide)).trans (HI.out.2.2.2.2.1 (or_ne (by decide) h)), fun h => (updM_ne _ _ (by decide)).trans (HI.out.2.2.2.2.2.1 (or_ne (by decide) h)), fun h => (updM_ne _ _ (by decide)).trans (HI.out.2.2.2.2.2.2.1 (or_ne (by decide) h)), fun h h' => (by obtain ⟨b, e1, e2, e3⟩ := HI.out.2.2.2.2.2.2.2.1 (or_ne (by decide) h) (or_nf h'); exact ⟨b, (updM_ne _ _ (by decide)).trans e1, (BB.out.block b (Array.getElem?_eq_some_iff.1 e2).1).trans e2, e3⟩), fun h => (by obtain ⟨h0, b, e1, e2, e3⟩ := HI.out.2.2.2.2.2.2.2.2 (or_ne (by decide) h); exact ⟨or_t h0, b, (updM_ne _ _ (by decide)).trans e1, (BB.out.block b (Array.getElem?_eq_some_iff.1 e2).1).trans e2, e3⟩)⟩ (KEEP.out _ (HI.out.1.trans (BB.out.mono HI.out.1.size)))
      · refine StepM.mk rfl rfl (fun y => by kernel_rfl) (fun f y u hf hdp hI hHeld K hK => ?_)
        have HI := Lib.hid hI
        have e1 := HI.out.2.1 (hdp 1 (by decide))
        clear hI hf hdp
        simp only [actM, List.foldl_cons, List.foldl_nil, Act.put, List.setIfInBounds_toArray, List.set_cons_zero, List.set_cons_succ, e1]
        have He1 := Lib.hid e1
        clear e1
        have HM := Lib.hid (lit_in u [(true, 47)] 24 (by decide) _ rfl)
        have BB := Lib.hid (show Below u.heap.size u (u.alloc (.cells #[.bool true, .int .i64 47] 24)) from (Below.refl _ _).alloc (Nat.le_refl _) _)
        go_wp2_with fail
        exact hK.out (.slice (some ⟨u.heap.size, 0, none⟩) 1 1) _ _ (by simp only [actM, List.foldl_cons, List.foldl_nil, Act.put, List.setIfInBounds_toArray, List.set_cons_zero, List.set_cons_succ, He1.out]) ⟨HI.out.1.trans (BB.out.mono HI.out.1.size), fun h => (updM_ne _ _ (by decide)).trans (HI.out.2.1 (or_ne (by decide) h)), fun _ _ => ⟨_, updM_eq _ _ _, HM.out⟩, fun h => (updM_ne _ _ (by decide)).trans (HI.out.2.2.2.1 (or_ne (by decide) h)), fun h => (updM_ne _ _ (by decide)).trans (HI.out.2.2.2.2.1 (or_ne (by decide) h)), fun h => (updM_ne _ _ (by decide)).trans (HI.out.2.2.2.2.2.1 (or_ne (by decide) h)), fun h => (updM_ne _ _ (by decide)).trans (HI.out.2.2.2.2.2.2.1 (or_ne (by decide) h)), fun h h' => (by obtain ⟨b, e1, e2, e3⟩ := HI.out.2.2.2.2.2.2.2.1 (or_ne (by decide) h) (or_nf h'); exact ⟨b, (updM_ne _ _ (by decide)).trans e1, (BB.out.block b (Array.getElem?_eq_some_iff.1 e2).1).trans e2, e3⟩), fun h => (by obtain ⟨h0, b, e1, e2, e3⟩ := HI.out.2.2.2.2.2.2.2.2 (or_ne (by decide) h); exact ⟨or_t h0, b, (updM_ne _ _ (by decide)).trans e1, (BB.out.block b (Array.getElem?_eq_some_iff.1 e2).1).trans e2, e3⟩)⟩ (KEEP.out _ (HI.out.1.trans (BB.out.mono HI.out.1.size)))
      · refine StepM.mk rfl rfl (fun y => by kernel_rfl) (fun f y u hf hdp hI hHeld K hK => ?_)
        have HI := Lib.hid hI
        obtain ⟨g, e2, hm⟩ := HI.out.2.2.1 (hdp 2 (by decide)) hf
        have HM := Lib.hid hm
        clear hm
        clear hI hf hdp
        simp only [actM, List.foldl_cons, List.foldl_nil, Act.put, List.setIfInBounds_toArray, List.set_cons_zero, List.set_cons_succ, e2]
        have He2 := Lib.hid e2
        clear e2
        go_simp
        refine (put_c (s := 241) (r := 113) (k := 1) (S := 241) (R := 113) (K := 1) false _ [(true, 47)] rfl rfl rfl (by decide) (by decide +kernel) _ HM.out (by decide) (by decide)).mono ?_
        rintro e u' ⟨rfl, bb⟩
        have BB := Lib.hid bb
        clear bb
        go_wp2_with fail
        exact hK.out (.tuple #[.agg #[.int .u16 113], .int .i64 1]) _ _ (by simp only [actM, List.foldl_cons, List.foldl_nil, Act.put, List.setIfInBounds_toArray, List.set_cons_zero, List.set_cons_succ, He2.out]) ⟨HI.out.1.trans (BB.out.mono HI.out.1.size), fun h => (updM_ne _ _ (by decide)).trans (HI.out.2.1 (or_ne (by decide) h)), fun _ h => absurd h (by simp), fun _ => updM_eq _ _ _, fun h => (updM_ne _ _ (by decide)).trans (HI.out.2.2.2.2.1 (or_ne (by decide) h)), fun h => (updM_ne _ _ (by decide)).trans (HI.out.2.2.2.2.2.1 (or_ne (by decide) h)), fun h => (updM_ne _ _ (by decide)).trans (HI.out.2.2.2.2.2.2.1 (or_ne (by decide) h)), fun h h' => (by obtain ⟨b, e1, e2, e3⟩ := HI.out.2.2.2.2.2.2.2.1 (or_ne (by decide) h) (or_nf h'); exact ⟨b, (updM_ne _ _ (by decide)).trans e1, (BB.out.block b (Array.getElem?_eq_some_iff.1 e2).1).trans e2, e3⟩), fun h => (by obtain ⟨h0, b, e1, e2, e3⟩ := HI.out.2.2.2.2.2.2.2.2 (or_ne (by decide) h); exact ⟨or_t h0, b, (updM_ne _ _ (by decide)).trans e1, (BB.out.block b (Array.getElem?_eq_some_iff.1 e2).1).trans e2, e3⟩)⟩ (KEEP.out _ (HI.out.1.trans (BB.out.mono HI.out.1.size)))
      · refine StepM.mk rfl rfl (fun y => by kernel_rfl) (fun f y u hf hdp hI hHeld K hK => ?_)
        have HI := Lib.hid hI
        have e3 := HI.out.2.2.2.1 (hdp 3 (by decide))
        clear hI hf hdp
        simp only [actM, List.foldl_cons, List.foldl_nil, Act.put, List.setIfInBounds_toArray, List.set_cons_zero, List.set_cons_succ, e3]
        have He3 := Lib.hid e3
        clear e3
        go_wp2_with fail
        exact hK.out (.tuple #[.agg #[.int .u16 113], .int .i64 1]) _ _ (by simp only [actM, List.foldl_cons, List.foldl_nil, Act.put, List.setIfInBounds_toArray, List.set_cons_zero, List.set_cons_succ, He3.out]) ⟨HI.out.1, fun h => (updM_ne _ _ (by decide)).trans (HI.out.2.1 (or_ne (by decide) h)), fun h h' => (by obtain ⟨g, e1, e2⟩ := HI.out.2.2.1 (or_ne (by decide) h) (or_nf h'); exact ⟨g, (updM_ne _ _ (by decide)).trans e1, e2⟩), fun h => (updM_ne _ _ (by decide)).trans (HI.out.2.2.2.1 (or_ne (by decide) h)), fun _ => updM_eq _ _ _, fun h => (updM_ne _ _ (by decide)).trans (HI.out.2.2.2.2.2.1 (or_ne (by decide) h)), fun h => (updM_ne _ _ (by decide)).trans (HI.out.2.2.2.2.2.2.1 (or_ne (by decide) h)), fun h h' => (by obtain ⟨b, e1, e2, e3⟩ := HI.out.2.2.2.2.2.2.2.1 (or_ne (by decide) h) (or_nf h'); exact ⟨b, (updM_ne _ _ (by decide)).trans e1, e2, e3⟩), fun h => (by obtain ⟨h0, b, e1, e2, e3⟩ := HI.out.2.2.2.2.2.2.2.2 (or_ne (by decide) h); exact ⟨or_t h0, b, (updM_ne _ _ (by decide)).trans e1, e2, e3⟩)⟩ hHeld
      · refine StepM.mk rfl rfl (fun y => by kernel_rfl) (fun f y u hf hdp hI hHeld K hK => ?_)
        have HI := Lib.hid hI
        have e4 := HI.out.2.2.2.2.1 (hdp 4 (by decide))
        clear hI hf hdp
        simp only [actM, List.foldl_cons, List.foldl_nil, Act.put, List.setIfInBounds_toArray, List.set_cons_zero, List.set_cons_succ, e4]
        have He4 := Lib.hid e4
        clear e4
        go_wp2_with fail
        exact hK.out (.agg #[.int .u16 113]) _ _ (by simp only [actM, List.foldl_cons, List.foldl_nil, Act.put, List.setIfInBounds_toArray, List.set_cons_zero, List.set_cons_succ, He4.out]) ⟨HI.out.1, fun h => (updM_ne _ _ (by decide)).trans (HI.out.2.1 (or_ne (by decide) h)), fun h h' => (by obtain ⟨g, e1, e2⟩ := HI.out.2.2.1 (or_ne (by decide) h) (or_nf h'); exact ⟨g, (updM_ne _ _ (by decide)).trans e1, e2⟩), fun h => (updM_ne _ _ (by decide)).trans (HI.out.2.2.2.1 (or_ne (by decide) h)), fun h => (updM_ne _ _ (by decide)).trans (HI.out.2.2.2.2.1 (or_ne (by decide) h)), fun _ => updM_eq _ _ _, fun h => (updM_ne _ _ (by decide)).trans (HI.out.2.2.2.2.2.2.1 (or_ne (by decide) h)), fun h h' => (by obtain ⟨b, e1, e2, e3⟩ := HI.out.2.2.2.2.2.2.2.1 (or_ne (by decide) h) (or_nf h'); exact ⟨b, (updM_ne _ _ (by decide)).trans e1, e2, e3⟩), fun h => (by obtain ⟨h0, b, e1, e2, e3⟩ := HI.out.2.2.2.2.2.2.2.2 (or_ne (by decide) h); exact ⟨or_t h0, b, (updM_ne _ _ (by decide)).trans e1, e2, e3⟩)⟩ hHeld
      · refine StepM.mk rfl rfl (fun y => by kernel_rfl) (fun f y u hf hdp hI hHeld K hK => ?_)
        have HI := Lib.hid hI
        have e4 := HI.out.2.2.2.2.1 (hdp 4 (by decide))
        clear hI hf hdp
        simp only [actM, List.foldl_cons, List.foldl_nil, Act.put, List.setIfInBounds_toArray, List.set_cons_zero, List.set_cons_succ, e4]
        have He4 := Lib.hid e4
        clear e4
        go_wp2_with fail
        exact hK.out (.int .i64 1) _ _ (by simp only [actM, List.foldl_cons, List.foldl_nil, Act.put, List.setIfInBounds_toArray, List.set_cons_zero, List.set_cons_succ, He4.out]) ⟨HI.out.1, fun h => (updM_ne _ _ (by decide)).trans (HI.out.2.1 (or_ne (by decide) h)), fun h h' => (by obtain ⟨g, e1, e2⟩ := HI.out.2.2.1 (or_ne (by decide) h) (or_nf h'); exact ⟨g, (updM_ne _ _ (by decide)).trans e1, e2⟩), fun h => (updM_ne _ _ (by decide)).trans (HI.out.2.2.2.1 (or_ne (by decide) h)), fun h => (updM_ne _ _ (by decide)).trans (HI.out.2.2.2.2.1 (or_ne (by decide) h)), fun h => (updM_ne _ _ (by decide)).trans (HI.out.2.2.2.2.2.1 (or_ne (by decide) h)), fun _ => updM_eq _ _ _, fun h h' => (by obtain ⟨b, e1, e2, e3⟩ := HI.out.2.2.2.2.2.2.2.1 (or_ne (by decide) h) (or_nf h'); exact ⟨b, (updM_ne _ _ (by decide)).trans e1, e2, e3⟩), fun h => (by obtain ⟨h0, b, e1, e2, e3⟩ := HI.out.2.2.2.2.2.2.2.2 (or_ne (by decide) h); exact ⟨or_t h0, b, (updM_ne _ _ (by decide)).trans e1, e2, e3⟩)⟩ hHeld
      · refine StepM.mk rfl rfl (fun y => by kernel_rfl) (fun f y u hf hdp hI hHeld K hK => ?_)
        have HI := Lib.hid hI
        have HNS := Lib.hid (show f 8 = false by
          cases hq : f 8 with
          | false => rfl
          | true =>
            have := (HI.out.2.2.2.2.2.2.2.2 hq).1
            rw [hf] at this
            cases this)
        clear hI hf hdp
        simp only [actM, List.foldl_cons, List.foldl_nil, Act.put, List.setIfInBounds_toArray, List.set_cons_zero, List.set_cons_succ]
        have bb := Lib.hid (show Below u.heap.size u (u.alloc (.cells #[.int .u16 0] 27)) from (Below.refl _ _).alloc (Nat.le_refl _) _)
        have hnew := Lib.hid (World.alloc_heap_new u (.cells #[.int .u16 0] 27))
        go_wp2_with fail
        exact hK.out (.pointer (some ⟨u.heap.size, 0, none⟩)) _ _ (by kernel_rfl) ⟨HI.out.1.trans (bb.out.mono HI.out.1.size), fun h => (updM_ne _ _ (by decide)).trans (HI.out.2.1 (or_ne (by decide) h)), fun h h' => (by obtain ⟨g, e1, e2⟩ := HI.out.2.2.1 (or_ne (by decide) h) (or_nf h'); exact ⟨g, (updM_ne _ _ (by decide)).trans e1, e2.below bb.out⟩), fun h => (updM_ne _ _ (by decide)).trans (HI.out.2.2.2.1 (or_ne (by decide) h)), fun h => (updM_ne _ _ (by decide)).trans (HI.out.2.2.2.2.1 (or_ne (by decide) h)), fun h => (updM_ne _ _ (by decide)).trans (HI.out.2.2.2.2.2.1 (or_ne (by decide) h)), fun h => (updM_ne _ _ (by decide)).trans (HI.out.2.2.2.2.2.2.1 (or_ne (by decide) h)), fun _ _ => ⟨_, updM_eq _ _ _, hnew.out, HI.out.1.size⟩, fun h => absurd (show f 8 = true from or_ne (by decide) h) (by rw [HNS.out]; decide)⟩ (KEEP.out _ (HI.out.1.trans (bb.out.mono HI.out.1.size)))
      · refine StepM.mk rfl rfl (fun y => by kernel_rfl) (fun f y u hf hdp hI hHeld K hK => ?_)
        have HI := Lib.hid hI
        have hch := (HI.out.2.2.2.2.2.2.2.1 (hdp 7 (by decide)) hf).choose_spec
        generalize (HI.out.2.2.2.2.2.2.2.1 (hdp 7 (by decide)) hf).choose = b at hch
        have e7 := hch.1
        have hb0 := hch.2.1
        have hbW := hch.2.2
        clear hch
        have e5 := HI.out.2.2.2.2.2.1 (hdp 5 (by decide))
        have HDA := Lib.hid (hdp 7 (by decide))
        have HNC := Lib.hid (hdp 3 (by decide))
        have HYA := Lib.hid e7
        have HB0 := Lib.hid (And.intro hb0 hbW)
        clear hI hf hdp hb0 hbW
        simp only [actM, List.foldl_cons, List.foldl_nil, Act.put, List.setIfInBounds_toArray, List.set_cons_zero, List.set_cons_succ, e7, e5]
        have He5 := Lib.hid e5
        clear e7 e5
        have hcb := (one_cell HB0.out.1).1
        have hfb := (one_cell HB0.out.1).2
        obtain ⟨u', hu'⟩ : ∃ X, X = u.setCell ⟨b, 0, none⟩ (.int .u16 113) := ⟨_, rfl⟩
        have BB := Lib.hid (show Below w4.heap.size w4 u' by rw [hu']; exact HI.out.1.trans ((But.set u b 0 _).below HB0.out.2 HI.out.1.size))
        have HNW := Lib.hid (show u'.heap[b]? = some (.cells #[.int .u16 113] 27 (0, 0)) by rw [hu']; exact one_setCell HB0.out.1)
        go_simp
        rw [← hu']
        exact hK.out undef _ _ (by simp only [actM, List.foldl_cons, List.foldl_nil, Act.put, List.setIfInBounds_toArray, List.set_cons_zero, List.set_cons_succ, HYA.out, He5.out]) ⟨BB.out, fun h => (updM_ne _ _ (by decide)).trans (HI.out.2.1 (or_ne (by decide) h)), fun _ h => absurd (show f 3 = false from or_nf h) (by rw [HNC.out]; decide), fun h => (updM_ne _ _ (by decide)).trans (HI.out.2.2.2.1 (or_ne (by decide) h)), fun h => (updM_ne _ _ (by decide)).trans (HI.out.2.2.2.2.1 (or_ne (by decide) h)), fun h => (updM_ne _ _ (by decide)).trans (HI.out.2.2.2.2.2.1 (or_ne (by decide) h)), fun h => (updM_ne _ _ (by decide)).trans (HI.out.2.2.2.2.2.2.1 (or_ne (by decide) h)), fun _ h => absurd h (by simp), fun _ => ⟨or_t HDA.out, b, (updM_ne _ _ (by decide)).trans HYA.out, HNW.out, HB0.out.2⟩⟩ (KEEP.out _ BB.out)
    · clear HX hHeld
      intro y w6 hI hHeld
      have HI := Lib.hid hI
      obtain ⟨_, k3, e7, hnb, hkb⟩ := HI.out.2.2.2.2.2.2.2.2 (by decide)
      have HNk3 := Lib.hid hnb
      have e1 := HI.out.2.1 (by decide)
      have e3 := HI.out.2.2.2.1 (by decide)
      have e4 := HI.out.2.2.2.2.1 (by decide)
      have e5 := HI.out.2.2.2.2.2.1 (by decide)
      have e6 := HI.out.2.2.2.2.2.2.1 (by decide)
      have HXA := Lib.hid HI.out.1
      clear hI hnb hkb
      simp only [actM, List.foldl_cons, List.foldl_nil, Act.put, List.setIfInBounds_toArray, List.set_cons_zero, List.set_cons_succ, e7, e1, e3, e4, e5, e6]
      clear HI e7 e1 e3 e4 e5 e6
      refine tk 9 rfl (fun w hSw => by (try dsimp only at hSw); go_simp; try with_reducible rfl) ?_
      go_frame
      refine wpAnyH_done (by kernel_rfl) ?_ _
      clear hHeld
      replace HB := Lib.hid (HB.out.trans (HXA.out.mono HB.out.size))
      replace KEEP := Lib.hid (show ∀ wx, Below w6.heap.size w6 wx → wx.cell? ⟨k1, 0, none⟩ = some (.int .u16 96) ∧ wx.cell? ⟨k2, 0, none⟩ = some (.int .u16 241) ∧ wx.cell? ⟨k3, 0, none⟩ = some (.int .u16 113) from fun wx hx => ⟨(KEEP.out wx (HXA.out.trans (hx.mono HXA.out.size))).1, (KEEP.out wx (HXA.out.trans (hx.mono HXA.out.size))).2, (hx.cell (World.block_lt_of_cell? w6 _ (one_cell HNk3.out).1)).trans (one_cell HNk3.out).1⟩)
      clear HXA HNk3
      have HX := Lib.hid (Below.refl w6.heap.size w6)
      have hcc := KEEP.out _ (Below.refl _ _)
      obtain ⟨cc0, cc1, cc2⟩ := hcc
      go_wp2_with fail
      refine (soft_c (s := 113) (r := 96) (S := 113) (R := 96) rfl rfl (by decide) (by decide +kernel) _).mono ?_
      rintro e w7 ⟨rfl, bb⟩
      replace HX := Lib.hid (HX.out.trans (bb.mono HX.out.size))
      clear bb
      obtain ⟨k4, hk4⟩ : ∃ b, b = w7.heap.size := ⟨_, rfl⟩
      obtain ⟨w8, hw8⟩ : ∃ x, x = w7.alloc (.cells #[.int .u16 96] 27) := ⟨_, rfl⟩
      have HNk4 := Lib.hid (show w8.heap[k4]? = some (.cells #[.int .u16 96] 27 (0, 0)) by rw [hw8, hk4]; exact World.alloc_heap_new _ _)
      have HXA := Lib.hid (show Below w6.heap.size w6 w8 by rw [hw8]; exact HX.out.alloc HX.out.size _)
      replace HB := Lib.hid (HB.out.trans (HXA.out.mono HB.out.size))
      replace KEEP := Lib.hid (show ∀ wx, Below w8.heap.size w8 wx → wx.cell? ⟨k1, 0, none⟩ = some (.int .u16 96) ∧ wx.cell? ⟨k2, 0, none⟩ = some (.int .u16 241) ∧ wx.cell? ⟨k3, 0, none⟩ = some (.int .u16 113) ∧ wx.cell? ⟨k4, 0, none⟩ = some (.int .u16 96) from fun wx hx => ⟨(KEEP.out wx (HXA.out.trans (hx.mono HXA.out.size))).1, (KEEP.out wx (HXA.out.trans (hx.mono HXA.out.size))).2.1, (KEEP.out wx (HXA.out.trans (hx.mono HXA.out.size))).2.2, (hx.cell (World.block_lt_of_cell? w8 _ (one_cell HNk4.out).1)).trans (one_cell HNk4.out).1⟩)
      go_upto_region 5 with (fail)
      rw [← hw8, ← hk4]
      clear hw8 hk4 HX HXA HNk4
      clear cc0 cc1 cc2
      go_upto_region 5 with (fail)
      try simp only [List.append]
      refine wp_region_held_drew (S := (fun wx => wx.cell? ⟨k1, 0, none⟩ = some (.int .u16 96) ∧ wx.cell? ⟨k2, 0, none⟩ = some (.int .u16 241) ∧ wx.cell? ⟨k3, 0, none⟩ = some (.int .u16 113) ∧ wx.cell? ⟨k4, 0, none⟩ = some (.int .u16 96))) (by kernel_rfl) (KEEP.out _ ((Below.refl _ _).drew)) (fun hHeld => ?_)
      obtain ⟨z9, hz9⟩ : ∃ X, X = w8.drew := ⟨_, rfl⟩
      have HX := Lib.hid (show Below w8.heap.size w8 z9 by rw [hz9]; exact (Below.refl _ _).drew)
      replace hHeld := KEEP.out _ HX.out
      rw [← hz9]
      clear hz9
      refine tk 0 rfl (fun w hSw => by (try dsimp only at hSw); go_simp; try with_reducible rfl) ?_
      go_frame
      refine do_at (i := 1) rfl (by kernel_rfl) (by kernel_rfl) (fun K hK => ?_)
      go_simp
      refine (priv_any 7 _).mono ?_
      rintro e w10 ⟨rfl, bb⟩
      replace HX := Lib.hid (HX.out.trans (bb.mono HX.out.size))
      clear bb
      go_wp2_with fail
      refine hK.out _ _ (KEEP.out _ HX.out) (fun hHeld => ?_)
      clear hK K
      try go_frame
      refine do_at (i := 2) rfl (by kernel_rfl) (by kernel_rfl) (fun K hK => ?_)
      go_simp
      refine (priv_any 25 _).mono ?_
      rintro e w11 ⟨rfl, bb⟩
      replace HX := Lib.hid (HX.out.trans (bb.mono HX.out.size))
      clear bb
      go_wp2_with fail
      refine hK.out _ _ (KEEP.out _ HX.out) (fun hHeld => ?_)
      clear hK K
      try go_frame
      refine do_at (i := 3) rfl (by kernel_rfl) (by kernel_rfl) (fun K hK => ?_)
      go_simp
      obtain ⟨gs1, hgs1⟩ : ∃ b, b = w11.heap.size := ⟨_, rfl⟩
      obtain ⟨w12, hw12⟩ : ∃ x, x = w11.alloc (.cells #[.bool true, .int .i64 7, .bool true, .int .i64 25] 24) := ⟨_, rfl⟩
      have HSL1 := Lib.hid (show MoIn w12 (.slice (some ⟨gs1, 0, none⟩) 2 2) [(true, 7), (true, 25)] by rw [hw12, hgs1]; exact lit_in w11 [(true, 7), (true, 25)] _ (by decide) _ rfl)
      have bb : Below w11.heap.size w11 w12 := by rw [hw12]; exact (Below.refl _ _).alloc (Nat.le_refl _) _
      replace HX := Lib.hid (HX.out.trans (bb.mono HX.out.size))
      rw [← hw12, ← hgs1]
      clear hw12 hgs1 bb
      refine hK.out _ _ (KEEP.out _ HX.out) (fun hHeld => ?_)
      clear hK K
      try go_frame
      refine do_at (i := 4) rfl (by kernel_rfl) (by kernel_rfl) (fun K hK => ?_)
      go_simp
      refine (set_c (s := 96) (S := 96) rfl (by decide) _ [(true, 7), (true, 25)] true (by decide +kernel) _ HSL1.out (by decide)).mono ?_
      rintro e w13 ⟨rfl, bb⟩
      replace HX := Lib.hid (HX.out.trans (bb.mono HX.out.size))
      clear bb
      go_wp2_with fail
      refine hK.out _ _ (KEEP.out _ HX.out) (fun hHeld => ?_)
      clear hK K
      try go_frame
      refine tk 5 rfl (fun w hSw => by (try dsimp only at hSw); go_simp; try with_reducible rfl) ?_
      go_frame
      refine tk 6 rfl (fun w hSw => by (try dsimp only at hSw); go_simp; try with_reducible rfl) ?_
      go_frame
      refine tk 7 rfl (fun w hSw => by (try dsimp only at hSw); go_simp; try with_reducible rfl) ?_
      go_frame
      refine tk 8 rfl (fun w hSw => by (try dsimp only at hSw); go_simp; try with_reducible rfl) ?_
      go_frame
      refine tk 9 rfl (fun w hSw => by (try dsimp only at hSw); go_simp; try with_reducible rfl) ?_
      go_frame
      refine tk 10 rfl (fun w hSw => by (try dsimp only at hSw); go_simp; try with_reducible rfl) ?_
      go_frame
      refine do_at (i := 11) rfl (by kernel_rfl) (by kernel_rfl) (fun K hK => ?_)
      go_simp
      refine (ansi_any 4 _).mono ?_
      rintro e w14 ⟨rfl, bb⟩
      replace HX := Lib.hid (HX.out.trans (bb.mono HX.out.size))
      clear bb
      go_wp2_with fail
      refine hK.out _ _ (KEEP.out _ HX.out) (fun hHeld => ?_)
      clear hK K
      try go_frame
      refine do_at (i := 12) rfl (by kernel_rfl) (by kernel_rfl) (fun K hK => ?_)
      go_simp
      refine (priv_any 6 _).mono ?_
      rintro e w15 ⟨rfl, bb⟩
      replace HX := Lib.hid (HX.out.trans (bb.mono HX.out.size))
      clear bb
      go_wp2_with fail
      refine hK.out _ _ (KEEP.out _ HX.out) (fun hHeld => ?_)
      clear hK K
      try go_frame
      refine do_at (i := 13) rfl (by kernel_rfl) (by kernel_rfl) (fun K hK => ?_)
      go_simp
      refine (priv_any 7 _).mono ?_
      rintro e w16 ⟨rfl, bb⟩
      replace HX := Lib.hid (HX.out.trans (bb.mono HX.out.size))
      clear bb
      go_wp2_with fail
      refine hK.out _ _ (KEEP.out _ HX.out) (fun hHeld => ?_)
      clear hK K
      try go_frame
      refine do_at (i := 14) rfl (by kernel_rfl) (by kernel_rfl) (fun K hK => ?_)
      go_simp
      refine (priv_any 25 _).mono ?_
      rintro e w17 ⟨rfl, bb⟩
      replace HX := Lib.hid (HX.out.trans (bb.mono HX.out.size))
      clear bb
      go_wp2_with fail
      refine hK.out _ _ (KEEP.out _ HX.out) (fun hHeld => ?_)
      clear hK K
      try go_frame
      refine do_at (i := 15) rfl (by kernel_rfl) (by kernel_rfl) (fun K hK => ?_)
      go_simp
      refine (priv_any 47 _).mono ?_
      rintro e w18 ⟨rfl, bb⟩
      replace HX := Lib.hid (HX.out.trans (bb.mono HX.out.size))
      clear bb
      go_wp2_with fail
      refine hK.out _ _ (KEEP.out _ HX.out) (fun hHeld => ?_)
      clear hK K
      try go_frame
      refine do_at (i := 16) rfl (by kernel_rfl) (by kernel_rfl) (fun K hK => ?_)
      go_simp
      refine (priv_any 1047 _).mono ?_
      rintro e w19 ⟨rfl, bb⟩
      replace HX := Lib.hid (HX.out.trans (bb.mono HX.out.size))
      clear bb
      go_wp2_with fail
      refine hK.out _ _ (KEEP.out _ HX.out) (fun hHeld => ?_)
      clear hK K
      try go_frame
      refine do_at (i := 17) rfl (by kernel_rfl) (by kernel_rfl) (fun K hK => ?_)
      go_simp
      refine (priv_any 1049 _).mono ?_
      rintro e w20 ⟨rfl, bb⟩
      replace HX := Lib.hid (HX.out.trans (bb.mono HX.out.size))
      clear bb
      go_wp2_with fail
      refine hK.out _ _ (KEEP.out _ HX.out) (fun hHeld => ?_)
      clear hK K
      try go_frame
      refine do_at (i := 18) rfl (by kernel_rfl) (by kernel_rfl) (fun K hK => ?_)
      go_simp
      obtain ⟨gs2, hgs2⟩ : ∃ b, b = w20.heap.size := ⟨_, rfl⟩
      obtain ⟨w21, hw21⟩ : ∃ x, x = w20.alloc (.cells #[.bool false, .int .i64 4, .bool true, .int .i64 6, .bool true, .int .i64 7, .bool true, .int .i64 25, .bool true, .int .i64 47, .bool true, .int .i64 1047, .bool true, .int .i64 1049] 24) := ⟨_, rfl⟩
      have HSL2 := Lib.hid (show MoIn w21 (.slice (some ⟨gs2, 0, none⟩) 7 7) [(false, 4), (true, 6), (true, 7), (true, 25), (true, 47), (true, 1047), (true, 1049)] by rw [hw21, hgs2]; exact lit_in w20 [(false, 4), (true, 6), (true, 7), (true, 25), (true, 47), (true, 1047), (true, 1049)] _ (by decide) _ rfl)
      have bb : Below w20.heap.size w20 w21 := by rw [hw21]; exact (Below.refl _ _).alloc (Nat.le_refl _) _
      replace HX := Lib.hid (HX.out.trans (bb.mono HX.out.size))
      rw [← hw21, ← hgs2]
      clear hw21 hgs2 bb
      refine hK.out _ _ (KEEP.out _ HX.out) (fun hHeld => ?_)
      clear hK K
      try go_frame
      refine do_at (i := 19) rfl (by kernel_rfl) (by kernel_rfl) (fun K hK => ?_)
      go_simp
      refine (set_c (s := 241) (S := 241) rfl (by decide) _ [(false, 4), (true, 6), (true, 7), (true, 25), (true, 47), (true, 1047), (true, 1049)] true (by decide +kernel) _ HSL2.out (by decide)).mono ?_
      rintro e w22 ⟨rfl, bb⟩
      replace HX := Lib.hid (HX.out.trans (bb.mono HX.out.size))
      clear bb
      go_wp2_with fail
      refine hK.out _ _ (KEEP.out _ HX.out) (fun hHeld => ?_)
      clear hK K
      try go_frame
      refine tk 20 rfl (fun w hSw => by (try dsimp only at hSw); go_simp; try with_reducible rfl) ?_
      go_frame
      refine tk 21 rfl (fun w hSw => by (try dsimp only at hSw); go_simp; try with_reducible rfl) ?_
      go_frame
      refine tk 22 rfl (fun w hSw => by (try dsimp only at hSw); go_simp; try with_reducible rfl) ?_
      go_frame
      refine do_at (i := 23) rfl (by kernel_rfl) (by kernel_rfl) (fun K hK => ?_)
      go_simp
      refine (ansi_any 4 _).mono ?_
      rintro e w23 ⟨rfl, bb⟩
      replace HX := Lib.hid (HX.out.trans (bb.mono HX.out.size))
      clear bb
      go_wp2_with fail
      refine hK.out _ _ (KEEP.out _ HX.out) (fun hHeld => ?_)
      clear hK K
      try go_frame
      refine do_at (i := 24) rfl (by kernel_rfl) (by kernel_rfl) (fun K hK => ?_)
      go_simp
      refine (priv_any 6 _).mono ?_
      rintro e w24 ⟨rfl, bb⟩
      replace HX := Lib.hid (HX.out.trans (bb.mono HX.out.size))
      clear bb
      go_wp2_with fail
      refine hK.out _ _ (KEEP.out _ HX.out) (fun hHeld => ?_)
      clear hK K
      try go_frame
      refine do_at (i := 25) rfl (by kernel_rfl) (by kernel_rfl) (fun K hK => ?_)
      go_simp
      refine (priv_any 7 _).mono ?_
      rintro e w25 ⟨rfl, bb⟩
      replace HX := Lib.hid (HX.out.trans (bb.mono HX.out.size))
      clear bb
      go_wp2_with fail
      refine hK.out _ _ (KEEP.out _ HX.out) (fun hHeld => ?_)
      clear hK K
      try go_frame
      refine do_at (i := 26) rfl (by kernel_rfl) (by kernel_rfl) (fun K hK => ?_)
      go_simp
      refine (priv_any 25 _).mono ?_
      rintro e w26 ⟨rfl, bb⟩
      replace HX := Lib.hid (HX.out.trans (bb.mono HX.out.size))
      clear bb
      go_wp2_with fail
      refine hK.out _ _ (KEEP.out _ HX.out) (fun hHeld => ?_)
      clear hK K
      try go_frame
      refine do_at (i := 27) rfl (by kernel_rfl) (by kernel_rfl) (fun K hK => ?_)
      go_simp
      obtain ⟨gs3, hgs3⟩ : ∃ b, b = w26.heap.size := ⟨_, rfl⟩
      obtain ⟨w27, hw27⟩ : ∃ x, x = w26.alloc (.cells #[.bool false, .int .i64 4, .bool true, .int .i64 6, .bool true, .int .i64 7, .bool true, .int .i64 25] 24) := ⟨_, rfl⟩
      have HSL3 := Lib.hid (show MoIn w27 (.slice (some ⟨gs3, 0, none⟩) 4 4) [(false, 4), (true, 6), (true, 7), (true, 25)] by rw [hw27, hgs3]; exact lit_in w26 [(false, 4), (true, 6), (true, 7), (true, 25)] _ (by decide) _ rfl)
      have bb : Below w26.heap.size w26 w27 := by rw [hw27]; exact (Below.refl _ _).alloc (Nat.le_refl _) _
      replace HX := Lib.hid (HX.out.trans (bb.mono HX.out.size))
      rw [← hw27, ← hgs3]
      clear hw27 hgs3 bb
      refine hK.out _ _ (KEEP.out _ HX.out) (fun hHeld => ?_)
      clear hK K
      try go_frame
      refine do_at (i := 28) rfl (by kernel_rfl) (by kernel_rfl) (fun K hK => ?_)
      go_simp
      refine (set_c (s := 113) (S := 113) rfl (by decide) _ [(false, 4), (true, 6), (true, 7), (true, 25)] true (by decide +kernel) _ HSL3.out (by decide)).mono ?_
      rintro e w28 ⟨rfl, bb⟩
      replace HX := Lib.hid (HX.out.trans (bb.mono HX.out.size))
      clear bb
      go_wp2_with fail
      refine hK.out _ _ (KEEP.out _ HX.out) (fun hHeld => ?_)
      clear hK K
      try go_frame
      refine tk 29 rfl (fun w hSw => by (try dsimp only at hSw); go_simp; try with_reducible rfl) ?_
      go_frame
      refine tk 30 rfl (fun w hSw => by (try dsimp only at hSw); go_simp; try with_reducible rfl) ?_
      go_frame
      refine tk 31 rfl (fun w hSw => by (try dsimp only at hSw); go_simp; try with_reducible rfl) ?_
      go_frame
      refine do_at (i := 32) rfl (by kernel_rfl) (by kernel_rfl) (fun K hK => ?_)
      go_simp
      refine (priv_any 7 _).mono ?_
      rintro e w29 ⟨rfl, bb⟩
      replace HX := Lib.hid (HX.out.trans (bb.mono HX.out.size))
      clear bb
      go_wp2_with fail
      refine hK.out _ _ (KEEP.out _ HX.out) (fun hHeld => ?_)
      clear hK K
      try go_frame
      refine do_at (i := 33) rfl (by kernel_rfl) (by kernel_rfl) (fun K hK => ?_)
      go_simp
      refine (priv_any 25 _).mono ?_
      rintro e w30 ⟨rfl, bb⟩
      replace HX := Lib.hid (HX.out.trans (bb.mono HX.out.size))
      clear bb
      go_wp2_with fail
      refine hK.out _ _ (KEEP.out _ HX.out) (fun hHeld => ?_)
      clear hK K
      try go_frame
      refine do_at (i := 34) rfl (by kernel_rfl) (by kernel_rfl) (fun K hK => ?_)
      go_simp
      obtain ⟨gs4, hgs4⟩ : ∃ b, b = w30.heap.size := ⟨_, rfl⟩
      obtain ⟨w31, hw31⟩ : ∃ x, x = w30.alloc (.cells #[.bool true, .int .i64 7, .bool true, .int .i64 25] 24) := ⟨_, rfl⟩
      have HSL4 := Lib.hid (show MoIn w31 (.slice (some ⟨gs4, 0, none⟩) 2 2) [(true, 7), (true, 25)] by rw [hw31, hgs4]; exact lit_in w30 [(true, 7), (true, 25)] _ (by decide) _ rfl)
      have bb : Below w30.heap.size w30 w31 := by rw [hw31]; exact (Below.refl _ _).alloc (Nat.le_refl _) _
      replace HX := Lib.hid (HX.out.trans (bb.mono HX.out.size))
      rw [← hw31, ← hgs4]
      clear hw31 hgs4 bb
      refine hK.out _ _ (KEEP.out _ HX.out) (fun hHeld => ?_)
      clear hK K
      try go_frame
      refine do_at (i := 35) rfl (by kernel_rfl) (by kernel_rfl) (fun K hK => ?_)
      go_simp
      refine (set_c (s := 96) (S := 96) rfl (by decide) _ [(true, 7), (true, 25)] true (by decide +kernel) _ HSL4.out (by decide)).mono ?_
      rintro e w32 ⟨rfl, bb⟩
      replace HX := Lib.hid (HX.out.trans (bb.mono HX.out.size))
      clear bb
      go_wp2_with fail
      refine hK.out _ _ (KEEP.out _ HX.out) (fun hHeld => ?_)
      clear hK K
      try go_frame
      refine tk 36 rfl (fun w hSw => by (try dsimp only at hSw); go_simp; try with_reducible rfl) ?_
      go_frame
      refine tk 37 rfl (fun w hSw => by (try dsimp only at hSw); go_simp; try with_reducible rfl) ?_
      go_frame
      refine tk 38 rfl (fun w hSw => by (try dsimp only at hSw); go_simp; try with_reducible rfl) ?_
      go_frame
      refine do_at (i := 39) rfl (by kernel_rfl) (by kernel_rfl) (fun K hK => ?_)
      go_simp
      refine (priv_any 6 _).mono ?_
      rintro e w33 ⟨rfl, bb⟩
      replace HX := Lib.hid (HX.out.trans (bb.mono HX.out.size))
      clear bb
      go_wp2_with fail
      refine hK.out _ _ (KEEP.out _ HX.out) (fun hHeld => ?_)
      clear hK K
      try go_frame
      refine do_at (i := 40) rfl (by kernel_rfl) (by kernel_rfl) (fun K hK => ?_)
      go_simp
      refine (state_c (s := 96) (r := 2) (S := 96) (R := 2) rfl rfl (by decide) true 6 (by decide) (by decide +kernel) _).mono ?_
      rintro e w34 ⟨rfl, bb⟩
      replace HX := Lib.hid (HX.out.trans (bb.mono HX.out.size))
      clear bb
      go_wp2_with fail
      refine hK.out _ _ (KEEP.out _ HX.out) (fun hHeld => ?_)
      clear hK K
      try go_frame
      refine tk 41 rfl (fun w hSw => by (try dsimp only at hSw); go_simp; try with_reducible rfl) ?_
      go_frame
      refine tk 42 rfl (fun w hSw => by (try dsimp only at hSw); go_simp; try with_reducible rfl) ?_
      go_frame
      refine tk 43 rfl (fun w hSw => by (try dsimp only at hSw); go_simp; try with_reducible rfl) ?_
      go_frame
      refine tk 44 rfl (fun w hSw => by (try dsimp only at hSw); go_simp; try with_reducible rfl) ?_
      go_frame
      refine do_at (i := 45) rfl (by kernel_rfl) (by kernel_rfl) (fun K hK => ?_)
      go_simp
      refine (ansi_any 6 _).mono ?_
      rintro e w35 ⟨rfl, bb⟩
      replace HX := Lib.hid (HX.out.trans (bb.mono HX.out.size))
      clear bb
      go_wp2_with fail
      refine hK.out _ _ (KEEP.out _ HX.out) (fun hHeld => ?_)
      clear hK K
      try go_frame
      refine do_at (i := 46) rfl (by kernel_rfl) (by kernel_rfl) (fun K hK => ?_)
      go_simp
      refine (state_c (s := 96) (r := 0) (S := 96) (R := 0) rfl rfl (by decide) false 6 (by decide) (by decide +kernel) _).mono ?_
      rintro e w36 ⟨rfl, bb⟩
      replace HX := Lib.hid (HX.out.trans (bb.mono HX.out.size))
      clear bb
      go_wp2_with fail
      refine hK.out _ _ (KEEP.out _ HX.out) (fun hHeld => ?_)
      clear hK K
      try go_frame
      refine tk 47 rfl (fun w hSw => by (try dsimp only at hSw); go_simp; try with_reducible rfl) ?_
      go_frame
      refine tk 48 rfl (fun w hSw => by (try dsimp only at hSw); go_simp; try with_reducible rfl) ?_
      go_frame
      refine tk 49 rfl (fun w hSw => by (try dsimp only at hSw); go_simp; try with_reducible rfl) ?_
      go_frame
      refine wpAnyH_done (by kernel_rfl) ?_ _
      go_wp2
      go_ret
      exact ⟨rfl, HB.out.trans (HX.out.mono HB.out.size)⟩
end Go.Proofs.Ytjdfinimbdcmbaa.Lab
