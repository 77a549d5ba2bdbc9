/- The reference's None. -/
import Derived.Test.YtmfbknmcmopjnaaTbRb
set_option linter.unusedVariables false
namespace Go.Proofs.Ytmfbknmcmopjnaa.Lab
open Go Go.RowKit Go.Shelf

theorem made_bools (n : Nat) : (madeCells (Value.bool false).cells (n * 1)).toList = bVs (List.replicate n false) := by
  refine List.ext_getElem? fun j => ?_
  by_cases hj : j < n
  · have hj' : j < n * 1 := by omega
    rw [show bVs (List.replicate n false) = List.replicate n (bV false) by simp, List.getElem?_replicate, if_pos hj]
    simp only [madeCells, Value.cells, Array.toList_map, Array.toList_range, List.getElem?_map, List.getElem?_range hj', Option.map_some]
    show some (#[Value.bool false][j % 1]!) = _
    rw [Nat.mod_one]
    rfl
  · rw [List.getElem?_eq_none (by simp [madeCells]; omega), List.getElem?_eq_none (by simp [bVs]; omega)]
/-- make([]bool, n). -/
theorem wpList_make_bools {ops : Array Oper} {rest : List Oper} {o : Oper} {a : Act} {w : World} {Q : Exit → Act → World → Prop} (hgd : o.guard = none) (l c : Operand)
    (hop : o.op = Op.makeSlice 31 l c) (n : Nat) (hl : a.eval l = .int .i64 (n : Nat)) (hc : a.eval c = .int .i64 (n : Nat)) (hn : n ≤ 10000)
    (hK : ∀ g w', w'.ownsRow w.heap.size 4 1 (.slice (some ⟨g, 0, none⟩) n n) n (bVs (List.replicate n false)) → Below w.heap.size w w' → wpList Try.prog ops Q rest (a.put o.dst (.slice (some ⟨g, 0, none⟩) n n)) w') :
    wpList Try.prog ops Q (o :: rest) a w := by
  refine wpList_plain hgd fun K hK' => ?_
  obtain ⟨ib, hi, hz0, hz1, hz2⟩ := info_parts infoBool
  obtain ⟨w', hrun, hown, hgr⟩ := run_make_full (P := Try.prog) w w.heap.size 31 4 ib _ 1 Try.underlying31 hi hz0 hz1 .i64 .i64 n (by rw [hz2]; omega) (by unfold maxLen; omega) (Nat.le_refl _)
  unfold Oper.wp
  simp [execOp, hop, hl, hc, hrun, Result.andThen]
  refine hK' _ _ (hK _ w' ?_ ⟨hgr.os, hgr.tape, hgr.output, hgr.size, fun k hk => hgr.block k hk (by simp)⟩)
  rw [← made_bools]
  exact hown
/-- A result's block r of the call's own, filled at the end. -/
theorem fin3 {w wr wz : World} {r lo n l bs : Nat} {cv x0 x1 x2 : Value} {xs : List Value} (hb : wr.heap[r]? = some (.cells #[x0, x1, x2] RT (0, 0))) (ho : wr.ownsRow lo 4 1 cv n xs) (hB : Below w.heap.size w wr) (hr : w.heap.size ≤ r)
    (hz : wz = ((wr.setCell ⟨r, 0, none⟩ cv).setCell ⟨r, 1, none⟩ (.int .u8 (l : Nat))).setCell ⟨r, 2, none⟩ (.int .u8 (bs : Nat))) :
    wz.heap[r]? = some (.cells #[cv, .int .u8 (l : Nat), .int .u8 (bs : Nat)] RT (0, 0)) ∧ Below w.heap.size w wz ∧ wz.ownsRow lo 4 1 cv n xs := by
  have a0 := heap_setCell_same wr r 0 _ _ cv hb
  have a1 := heap_setCell_same _ r 1 _ _ (.int .u8 (l : Nat)) a0
  have a2 := heap_setCell_same _ r 2 _ _ (.int .u8 (bs : Nat)) a1
  refine ⟨by rw [hz]; exact a2, ?_, ?_⟩
  · rw [hz]
    exact hB.trans ((((But.set wr r 0 _).trans (But.set _ r 1 _)).trans (But.set _ r 2 _)).below (C := w.heap.size) hr hB.size)
  · rw [hz]
    exact own_set (own_set (own_set ho hb) a0) a1
theorem cells3 {w : World} {r : Nat} {x0 x1 x2 : Value} (h : w.heap[r]? = some (.cells #[x0, x1, x2] RT (0, 0))) : w.cell? ⟨r, 0, none⟩ = some x0 ∧ w.cell? ⟨r, 1, none⟩ = some x1 ∧ w.cell? ⟨r, 2, none⟩ = some x2 ∧ w.frozen? ⟨r, 0, none⟩ = false ∧ w.frozen? ⟨r, 1, none⟩ = false ∧ w.frozen? ⟨r, 2, none⟩ = false :=
  ⟨by rw [cell_of_row w r 0 _ _ _ h]; simp, by rw [cell_of_row w r 1 _ _ _ h]; simp, by rw [cell_of_row w r 2 _ _ _ h]; simp, frozen_of_row w r 0 _ _ h, frozen_of_row w r 1 _ _ h, frozen_of_row w r 2 _ _ h⟩
set_option maxHeartbeats 4000000 in
set_option maxRecDepth 100000 in
theorem rnone_any (v : Value) (t : Tb) (w : World) (h : BIn w v t.L) (hl : t.L.length ≤ 512) : Calls Try.prog 38 #[rV v t] w (RAns w t.none) := by
  obtain ⟨va, vc, rfl⟩ := h.shape
  obtain ⟨n, hn⟩ : ∃ n, n = t.L.length := ⟨_, rfl⟩
  have HE := Lib.hid (show t.none = ⟨List.replicate n false, t.b, t.b⟩ by rw [hn]; rfl)
  rw [HE.out]
  rw [← hn] at hl ⊢
  have HL := Lib.hid (show n ≤ 10000 by omega)
  clear hn HE h hl
  obtain ⟨b, hb⟩ : ∃ b, b = w.heap.size := ⟨_, rfl⟩
  obtain ⟨w1, hw1⟩ : ∃ x, x = (w.alloc (.cells #[.slice va n vc, .int .u8 (t.l : Nat), .int .u8 (t.b : Nat)] RT)).alloc (.cells #[.slice none 0 0, .int .u8 0, .int .u8 0] RT) := ⟨_, rfl⟩
  have HB1 := Lib.hid (show Below w.heap.size w w1 by rw [hw1]; exact two_allocs w _ _)
  have HB0 := Lib.hid (show w1.heap[b]? = some (.cells #[.slice va n vc, .int .u8 (t.l : Nat), .int .u8 (t.b : Nat)] RT (0, 0)) by
    rw [hw1, Below.heap_alloc _ _ _ (by rw [hb]; simp), hb]
    exact World.alloc_heap_new w _)
  have HR0 := Lib.hid (show w1.heap[b + 1]? = some (.cells #[.slice none 0 0, .int .u8 0, .int .u8 0] RT (0, 0)) by
    have := World.alloc_heap_new (w.alloc (.cells #[.slice va n vc, .int .u8 (t.l : Nat), .int .u8 (t.b : Nat)] RT)) (.cells #[.slice none 0 0, .int .u8 0, .int .u8 0] RT)
    rw [World.size_alloc, ← hw1, ← hb] at this
    exact this)
  have HBE := Lib.hid hb
  go_enter Try.func38, Try.ntmps38
  go_upto_region 1 with (fail)
  rw [← hw1, ← hb]
  clear hw1 hb
  obtain ⟨c0, c1, c2, f0, f1, f2⟩ := cells3 HB0.out
  go_wp2_with (refine wpList_make_bools rfl (.tmp 5) (.tmp 5) rfl n rfl rfl HL.out ?_)
  intro g w2 ow bb
  have HOW := Lib.hid (show w2.ownsRow w1.heap.size 4 1 (.slice (some ⟨g, 0, none⟩) n n) n (bVs (List.replicate n false)) by rw [show bVs (List.replicate n false) = List.replicate n (bV false) by simp]; exact ow)
  have HB2 := Lib.hid (HB1.out.trans (bb.mono HB1.out.size))
  have HD := Lib.hid ((bb.block b (Array.getElem?_eq_some_iff.1 HB0.out).1).trans HB0.out)
  have HR := Lib.hid ((bb.block (b + 1) (Array.getElem?_eq_some_iff.1 HR0.out).1).trans HR0.out)
  clear ow bb c0 c1 c2 f0 f1 f2
  obtain ⟨w4, hw4⟩ : ∃ x, x = (w2.setCell ⟨b, 0, none⟩ (.slice (some ⟨g, 0, none⟩) n n)).setCell ⟨b, 1, none⟩ (.int .u8 (t.b : Nat)) := ⟨_, rfl⟩
  have a0 := heap_setCell_same w2 b 0 _ _ (.slice (some ⟨g, 0, none⟩) n n) HD.out
  have a1 := heap_setCell_same _ b 1 _ _ (.int .u8 (t.b : Nat)) a0
  have hbt : But b w2 w4 := by rw [hw4]; exact (But.set w2 b 0 _).trans (But.set _ b 1 _)
  have HO4 := Lib.hid (show w4.ownsRow w1.heap.size 4 1 (.slice (some ⟨g, 0, none⟩) n n) n (bVs (List.replicate n false)) by rw [hw4]; exact own_set (own_set HOW.out HD.out) a0)
  rw [← hw4] at a1
  have HD4 := Lib.hid (show w4.heap[b]? = some (.cells #[.slice (some ⟨g, 0, none⟩) n n, .int .u8 (t.b : Nat), .int .u8 (t.b : Nat)] RT (0, 0)) from a1)
  have HR4 := Lib.hid ((hbt.block (b + 1) (Array.getElem?_eq_some_iff.1 HR.out).1 (by simp)).trans HR.out)
  have HB4 := Lib.hid (HB2.out.trans (hbt.below (C := w.heap.size) (by rw [HBE.out]; exact Nat.le_refl _) HB2.out.size))
  clear a0 a1 hbt
  obtain ⟨c0, c1, c2, f0, f1, f2⟩ := cells3 HD.out
  go_upto_region 3 with (fail)
  rw [← hw4]
  clear hw4 c0 c1 c2 f0 f1 f2
  obtain ⟨d0, d1, d2, _⟩ := cells3 HD4.out
  obtain ⟨e0, e1, e2, f0, f1, f2⟩ := cells3 HR4.out
  obtain ⟨wz, hwz⟩ : ∃ x, x = ((w4.setCell ⟨b + 1, 0, none⟩ (.slice (some ⟨g, 0, none⟩) n n)).setCell ⟨b + 1, 1, none⟩ (.int .u8 (t.b : Nat))).setCell ⟨b + 1, 2, none⟩ (.int .u8 (t.b : Nat)) := ⟨_, rfl⟩
  have HF := Lib.hid (fin3 HR4.out HO4.out HB4.out (by rw [HBE.out]; omega) hwz)
  go_wp2
  rw [← hwz]
  clear hwz d0 d1 d2 e0 e1 e2 f0 f1 f2
  obtain ⟨k0, k1, k2, _⟩ := cells3 HF.out.1
  refine bodyPost_ret (v := rV (.slice (some ⟨g, 0, none⟩) n n) ⟨List.replicate n false, t.b, t.b⟩) (by simp [results, Try.results38, go_sem, k0, k1, k2]) rfl ⟨_, rfl, ?_, HF.out.2.1⟩
  have := HF.out.2.2
  exact bIn_own (L := List.replicate n false) (by rw [List.length_replicate]; exact this)
end Go.Proofs.Ytmfbknmcmopjnaa.Lab
