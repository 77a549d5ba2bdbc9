/- The project's None, New, Set, Clear and Has. -/
import Derived.Test.YtmfbknmcmopjnaaTbNth
import Derived.Lib.SliceRun
set_option linter.unusedVariables false
namespace Go.Proofs.Ytmfbknmcmopjnaa.Lab
open Go Go.RowKit Go.Shelf

theorem wd_false (n k : Nat) : wd (List.replicate n false) k = 0 := wd_nil _ (fun j => by
  rw [List.getD_eq_getElem?_getD, List.getElem?_replicate]
  split <;> rfl) k
theorem clear_at {w : World} {b : Nat} {t : Tb} (h : TbAt w b t) : TbAt (w.setCells b 0 (List.replicate 8 (.int .u64 0))) b ⟨List.replicate t.L.length false, t.b, t.l⟩ := by
  simp only [List.replicate, World.setCells, Nat.zero_add, Nat.reduceAdd]
  have h0 := heap_setCell_same w b 0 _ _ (.int .u64 0) h
  have h1 := heap_setCell_same _ b 1 _ _ (.int .u64 0) h0
  have h2 := heap_setCell_same _ b 2 _ _ (.int .u64 0) h1
  have h3 := heap_setCell_same _ b 3 _ _ (.int .u64 0) h2
  have h4 := heap_setCell_same _ b 4 _ _ (.int .u64 0) h3
  have h5 := heap_setCell_same _ b 5 _ _ (.int .u64 0) h4
  have h6 := heap_setCell_same _ b 6 _ _ (.int .u64 0) h5
  have h7 := heap_setCell_same _ b 7 _ _ (.int .u64 0) h6
  refine h7.trans ?_
  simp [tbC, wd_false]
theorem clear_below {w : World} {B b : Nat} (h : B ≤ b) : Below B w (w.setCells b 0 (List.replicate 8 (.int .u64 0))) := by
  simp only [List.replicate, World.setCells, Nat.zero_add, Nat.reduceAdd]
  exact ((((((((Below.refl _ _).setCell h _).setCell h _).setCell h _).setCell h _).setCell h _).setCell h _).setCell h _).setCell h _
theorem run_clear8 {w : World} {b : Nat} {t : Tb} (h : TbAt w b t) : (Builtin.clear_ #[73] 0 #[.slice (some ⟨b, 0, none⟩) 8 8]).run Try.prog w = .ok (.tuple #[]) (w.setCells b 0 (List.replicate 8 (.int .u64 0))) := by
  refine Lib.run_clear_slice w 73 24 0 (.int .u64 0) Try.underlying73 (fun w => by kernel_rfl) rfl rfl b 0 8 8 (by decide) (fun j hj => ?_) (fun j hj => ?_)
  · rw [Nat.zero_add, word_at h hj]
    rfl
  · exact zeros_at h _
set_option maxHeartbeats 2000000 in
theorem none_any (t : Tb) (w : World) : Calls Try.prog 32 #[tbV t] w fun e w' => e = .returned (tbV t.none) ∧ Below w.heap.size w w' := by
  obtain ⟨L, hL⟩ : ∃ L, L = List.replicate t.L.length false := ⟨_, rfl⟩
  have HD := Lib.hid (fun w => decl_any ⟨L, t.b, t.l⟩ w)
  have HV := Lib.hid (show tbV t.none = tbV ⟨L, t.b, t.b⟩ by rw [hL]; rfl)
  have HLL := Lib.hid hL
  clear hL
  obtain ⟨w2, hw2⟩ : ∃ x, x = (w.alloc (.cells (tbC t) TB)).alloc (.cells #[.int .u64 0, .int .u64 0, .int .u64 0, .int .u64 0, .int .u64 0, .int .u64 0, .int .u64 0, .int .u64 0, .int .i64 0, .int .u8 0, .int .u8 0] TB) := ⟨_, rfl⟩
  obtain ⟨b, hb⟩ : ∃ b, b = w.heap.size := ⟨_, rfl⟩
  have HB2 := Lib.hid (show Below w.heap.size w w2 by rw [hw2]; exact ((Below.refl _ _).alloc (Nat.le_refl _) _).alloc (by simp) _)
  have HT := Lib.hid (show TbAt w2 b t by
    unfold TbAt
    rw [hw2, Below.heap_alloc _ _ _ (by rw [hb]; simp), hb]
    exact World.alloc_heap_new w _)
  have HZ := Lib.hid (show TbAt w2 (b + 1) Tb.zero by
    unfold TbAt
    rw [zero_cells]
    have := World.alloc_heap_new (w.alloc (.cells (tbC t) TB)) (.cells #[.int .u64 0, .int .u64 0, .int .u64 0, .int .u64 0, .int .u64 0, .int .u64 0, .int .u64 0, .int .u64 0, .int .i64 0, .int .u8 0, .int .u8 0] TB)
    rw [World.size_alloc, ← hw2, ← hb] at this
    exact this)
  have HS := Lib.hid (show b = w.heap.size ∧ w2.heap.size = b + 2 from ⟨hb, by rw [hw2, hb]; simp⟩)
  have hclr := run_clear8 HT.out
  obtain ⟨w3, hw3⟩ : ∃ x, x = w2.setCells b 0 (List.replicate 8 (.int .u64 0)) := ⟨_, rfl⟩
  have HT3 := Lib.hid (show TbAt w3 b ⟨L, t.b, t.l⟩ by rw [HLL.out, hw3]; exact clear_at HT.out)
  have HB3 := Lib.hid (show Below w.heap.size w w3 by rw [hw3]; exact HB2.out.trans (clear_below (by have := HS.out; omega)))
  have HBUT := Lib.hid (show Below b w2 w3 by rw [hw3]; exact clear_below (Nat.le_refl _))
  have HZ3 := Lib.hid (show TbAt w3 (b + 1) Tb.zero by
    unfold TbAt
    rw [hw3]
    simp only [List.replicate, World.setCells, Nat.zero_add, Nat.reduceAdd]
    iterate 8 rw [Below.heap_setCell _ _ _ _ (by simp)]
    exact HZ.out)
  rw [← hw3] at hclr
  clear hw3
  go_enter Try.func32, Try.ntmps32
  go_upto_region 1 with (fail)
  rw [← hw2, ← hb]
  clear hw2 hb
  obtain ⟨c0, c1, c2, c3, c4, c5, c6, c7, c8, c9, c10⟩ := HT3.out.cells
  go_wp2_with fail
  refine (HD.out _).mono ?_
  rintro e w4 ⟨rfl, b4⟩
  have HZ4 := Lib.hid (HZ3.out.below b4)
  have HB4 := Lib.hid (HB3.out.trans (b4.mono HB3.out.size))
  clear b4 c0 c1 c2 c3 c4 c5 c6 c7 c8 c9 c10 hclr
  obtain ⟨d0, d1, d2, d3, d4, d5, d6, d7, d8, d9, d10⟩ := HZ4.out.cells
  have f := zeros_at HZ4.out
  have f0 := f 0
  have f1 := f 1
  have f2 := f 2
  have f3 := f 3
  have f4 := f 4
  have f5 := f 5
  have f6 := f 6
  have f7 := f 7
  have f8 := f 8
  have f9 := f 9
  have f10 := f 10
  clear f
  have HV2 := Lib.hid (show (Tb.decl ⟨L, t.b, t.l⟩) = ⟨L, t.b, t.b⟩ from rfl)
  rw [HV2.out]
  go_wp2
  refine bodyPost_ret (v := tbV ⟨L, t.b, t.b⟩) (by simp [results, Try.results32, go_sem, d0, d1, d2, d3, d4, d5, d6, d7, d8, d9, d10]) rfl ⟨by rw [HV.out], ?_⟩
  have hle : w.heap.size ≤ b + 1 := by have := HS.out; omega
  exact ((((((((((HB4.out.setCell hle _).setCell hle _).setCell hle _).setCell hle _).setCell hle _).setCell hle _).setCell hle _).setCell hle _).setCell hle _).setCell hle _).setCell hle _
set_option maxHeartbeats 2000000 in
theorem set_any (t : Tb) (ht : t.Ok) (l : Nat) (hl : l ≤ 1) (v : Value) (cs : List Int) (w : World) (h : IsIn w v cs) (hc : cs.length ≤ 1000) :
    Calls Try.prog 26 #[tbV t, .int .u8 (l : Nat), v] w fun e w' => e = .returned (tbV (t.put true l cs)) ∧ Below w.heap.size w w' := by
  have HR := Lib.hid (fun w => raise_any ⟨putL true t.L cs, t.b, t.l⟩ ⟨by rw [len_putL]; exact ht.len, ht.b1, ht.l1⟩ l hl w)
  have HW := Lib.hid (fun w (h : IsIn w v cs) => with_any t ht.len v cs w h hc)
  obtain ⟨w2, hw2⟩ : ∃ x, x = (w.alloc (.cells (tbC t) TB)).alloc (.cells #[.int .u64 0, .int .u64 0, .int .u64 0, .int .u64 0, .int .u64 0, .int .u64 0, .int .u64 0, .int .u64 0, .int .i64 0, .int .u8 0, .int .u8 0] TB) := ⟨_, rfl⟩
  obtain ⟨b, hb⟩ : ∃ b, b = w.heap.size := ⟨_, rfl⟩
  have HB2 := Lib.hid (show Below w.heap.size w w2 by rw [hw2]; exact ((Below.refl _ _).alloc (Nat.le_refl _) _).alloc (by simp) _)
  have HI2 := Lib.hid (h.below HB2.out)
  have HT := Lib.hid (show TbAt w2 b t by
    unfold TbAt
    rw [hw2, Below.heap_alloc _ _ _ (by rw [hb]; simp), hb]
    exact World.alloc_heap_new w _)
  have HZ := Lib.hid (show TbAt w2 (b + 1) Tb.zero by
    unfold TbAt
    rw [zero_cells]
    have := World.alloc_heap_new (w.alloc (.cells (tbC t) TB)) (.cells #[.int .u64 0, .int .u64 0, .int .u64 0, .int .u64 0, .int .u64 0, .int .u64 0, .int .u64 0, .int .u64 0, .int .i64 0, .int .u8 0, .int .u8 0] TB)
    rw [World.size_alloc, ← hw2, ← hb] at this
    exact this)
  have HS := Lib.hid (show b = w.heap.size ∧ w2.heap.size = b + 2 from ⟨hb, by rw [hw2, hb]; simp⟩)
  clear h
  go_enter Try.func26, Try.ntmps26
  go_upto_region 1 with (fail)
  rw [← hw2, ← hb]
  clear hw2 hb
  obtain ⟨c0, c1, c2, c3, c4, c5, c6, c7, c8, c9, c10⟩ := HT.out.cells
  go_wp2_with fail
  refine (HW.out _ HI2.out).mono ?_
  rintro e w3 ⟨rfl, b3⟩
  have HZ3 := Lib.hid (HZ.out.below b3)
  have HB3 := Lib.hid (HB2.out.trans (b3.mono HB2.out.size))
  clear b3 c0 c1 c2 c3 c4 c5 c6 c7 c8 c9 c10
  go_wp2_with fail
  refine (HR.out _).mono ?_
  rintro e w4 ⟨rfl, b4⟩
  have HZ4 := Lib.hid (HZ3.out.below b4)
  have HB4 := Lib.hid (HB3.out.trans (b4.mono HB3.out.size))
  clear b4
  obtain ⟨d0, d1, d2, d3, d4, d5, d6, d7, d8, d9, d10⟩ := HZ4.out.cells
  have f := zeros_at HZ4.out
  have f0 := f 0
  have f1 := f 1
  have f2 := f 2
  have f3 := f 3
  have f4 := f 4
  have f5 := f 5
  have f6 := f 6
  have f7 := f 7
  have f8 := f 8
  have f9 := f 9
  have f10 := f 10
  clear f
  obtain ⟨u, hu⟩ : ∃ u, u = t.put true l cs := ⟨_, rfl⟩
  have HV := Lib.hid (show (Tb.raise ⟨putL true t.L cs, t.b, t.l⟩ l) = u by rw [hu]; rfl)
  have HU := Lib.hid hu
  rw [HV.out]
  clear hu
  go_wp2
  refine bodyPost_ret (v := tbV u) (by simp [results, Try.results26, go_sem, d0, d1, d2, d3, d4, d5, d6, d7, d8, d9, d10]) rfl ⟨by rw [HU.out], ?_⟩
  have hle : w.heap.size ≤ b + 1 := by have := HS.out; omega
  exact ((((((((((HB4.out.setCell hle _).setCell hle _).setCell hle _).setCell hle _).setCell hle _).setCell hle _).setCell hle _).setCell hle _).setCell hle _).setCell hle _).setCell hle _
set_option maxHeartbeats 2000000 in
theorem clear_any (t : Tb) (ht : t.Ok) (l : Nat) (hl : l ≤ 1) (v : Value) (cs : List Int) (w : World) (h : IsIn w v cs) (hc : cs.length ≤ 1000) :
    Calls Try.prog 28 #[tbV t, .int .u8 (l : Nat), v] w fun e w' => e = .returned (tbV (t.put false l cs)) ∧ Below w.heap.size w w' := by
  have HR := Lib.hid (fun w => raise_any ⟨putL false t.L cs, t.b, t.l⟩ ⟨by rw [len_putL]; exact ht.len, ht.b1, ht.l1⟩ l hl w)
  have HW := Lib.hid (fun w (h : IsIn w v cs) => without_any t ht.len v cs w h hc)
  obtain ⟨w2, hw2⟩ : ∃ x, x = (w.alloc (.cells (tbC t) TB)).alloc (.cells #[.int .u64 0, .int .u64 0, .int .u64 0, .int .u64 0, .int .u64 0, .int .u64 0, .int .u64 0, .int .u64 0, .int .i64 0, .int .u8 0, .int .u8 0] TB) := ⟨_, rfl⟩
  obtain ⟨b, hb⟩ : ∃ b, b = w.heap.size := ⟨_, rfl⟩
  have HB2 := Lib.hid (show Below w.heap.size w w2 by rw [hw2]; exact ((Below.refl _ _).alloc (Nat.le_refl _) _).alloc (by simp) _)
  have HI2 := Lib.hid (h.below HB2.out)
  have HT := Lib.hid (show TbAt w2 b t by
    unfold TbAt
    rw [hw2, Below.heap_alloc _ _ _ (by rw [hb]; simp), hb]
    exact World.alloc_heap_new w _)
  have HZ := Lib.hid (show TbAt w2 (b + 1) Tb.zero by
    unfold TbAt
    rw [zero_cells]
    have := World.alloc_heap_new (w.alloc (.cells (tbC t) TB)) (.cells #[.int .u64 0, .int .u64 0, .int .u64 0, .int .u64 0, .int .u64 0, .int .u64 0, .int .u64 0, .int .u64 0, .int .i64 0, .int .u8 0, .int .u8 0] TB)
    rw [World.size_alloc, ← hw2, ← hb] at this
    exact this)
  have HS := Lib.hid (show b = w.heap.size ∧ w2.heap.size = b + 2 from ⟨hb, by rw [hw2, hb]; simp⟩)
  clear h
  go_enter Try.func28, Try.ntmps28
  go_upto_region 1 with (fail)
  rw [← hw2, ← hb]
  clear hw2 hb
  obtain ⟨c0, c1, c2, c3, c4, c5, c6, c7, c8, c9, c10⟩ := HT.out.cells
  go_wp2_with fail
  refine (HW.out _ HI2.out).mono ?_
  rintro e w3 ⟨rfl, b3⟩
  have HZ3 := Lib.hid (HZ.out.below b3)
  have HB3 := Lib.hid (HB2.out.trans (b3.mono HB2.out.size))
  clear b3 c0 c1 c2 c3 c4 c5 c6 c7 c8 c9 c10
  go_wp2_with fail
  refine (HR.out _).mono ?_
  rintro e w4 ⟨rfl, b4⟩
  have HZ4 := Lib.hid (HZ3.out.below b4)
  have HB4 := Lib.hid (HB3.out.trans (b4.mono HB3.out.size))
  clear b4
  obtain ⟨d0, d1, d2, d3, d4, d5, d6, d7, d8, d9, d10⟩ := HZ4.out.cells
  have f := zeros_at HZ4.out
  have f0 := f 0
  have f1 := f 1
  have f2 := f 2
  have f3 := f 3
  have f4 := f 4
  have f5 := f 5
  have f6 := f 6
  have f7 := f 7
  have f8 := f 8
  have f9 := f 9
  have f10 := f 10
  clear f
  obtain ⟨u, hu⟩ : ∃ u, u = t.put false l cs := ⟨_, rfl⟩
  have HV := Lib.hid (show (Tb.raise ⟨putL false t.L cs, t.b, t.l⟩ l) = u by rw [hu]; rfl)
  have HU := Lib.hid hu
  rw [HV.out]
  clear hu
  go_wp2
  refine bodyPost_ret (v := tbV u) (by simp [results, Try.results28, go_sem, d0, d1, d2, d3, d4, d5, d6, d7, d8, d9, d10]) rfl ⟨by rw [HU.out], ?_⟩
  have hle : w.heap.size ≤ b + 1 := by have := HS.out; omega
  exact ((((((((((HB4.out.setCell hle _).setCell hle _).setCell hle _).setCell hle _).setCell hle _).setCell hle _).setCell hle _).setCell hle _).setCell hle _).setCell hle _).setCell hle _
def hasM (L : List Bool) (c : Int) : Bool := decide (0 ≤ c) && L.getD c.toNat false
theorem has_iff (L : List Bool) (c : Int) : putL false L [c] = L ↔ hasM L c = false := by
  show putB false L c = L ↔ _
  constructor
  · intro h
    unfold hasM
    by_cases h0 : 0 ≤ c
    · obtain ⟨m, rfl⟩ := Int.eq_ofNat_of_zero_le h0
      have e : (putB false L (m : Int)).getD m false = L.getD m false := by rw [h]
      rw [getD_putB] at e
      simp only [Int.toNat_natCast]
      by_cases hm : m < L.length
      · rw [if_pos ⟨rfl, hm⟩] at e
        rw [← e]
        simp
      · rw [getD_out (by omega)]
        simp
    · simp [h0]
  · intro h
    refine bools_ext (len_putB _ _ _) fun j hj => ?_
    rw [getD_putB]
    split
    · rename_i q
      obtain ⟨rfl, hj2⟩ := q
      unfold hasM at h
      simpa using h.symm
    · rfl
set_option maxHeartbeats 2000000 in
theorem has_val (t : Tb) (ht : t.Ok) (c : Int) (B : Bool) (hB : hasM t.L c = B) (w : World) :
    Calls Try.prog 19 #[tbV t, .int .i64 c] w fun e w' => e = .returned (.bool B) ∧ Below w.heap.size w w' := by
  obtain ⟨u, hu⟩ : ∃ u : Tb, u = ⟨putL false t.L [c], t.b, t.l⟩ := ⟨_, rfl⟩
  have HW := Lib.hid (fun v w (h : IsIn w v [c]) => without_any t ht.len v [c] w h (by simp))
  have hq : ∀ w, (Op.equalIn 10000 TB (tbV u) (tbV t)).run Try.prog w = .ok (!B) w := fun w => by
    rw [eqTb u t (by rw [hu]; exact ⟨by rw [len_putL]; exact ht.len, ht.b1, ht.l1⟩) w, hu]
    have := has_iff t.L c
    cases B <;> simp [this, hB]
  rw [← hu] at HW
  clear hu hB ht
  obtain ⟨w1, hw1⟩ : ∃ x, x = w.alloc (.cells (tbC t) TB) := ⟨_, rfl⟩
  obtain ⟨b, hb⟩ : ∃ b, b = w.heap.size := ⟨_, rfl⟩
  have HB1 := Lib.hid (show Below w.heap.size w w1 by rw [hw1]; exact (Below.refl _ _).alloc (Nat.le_refl _) _)
  have HT := Lib.hid (show TbAt w1 b t by unfold TbAt; rw [hw1, hb]; exact World.alloc_heap_new w _)
  have KEEP := Lib.hid (show ∀ wx, Below w1.heap.size w1 wx → wx.cell? ⟨b, 0, none⟩ = some (wV t.L 0) ∧ wx.cell? ⟨b, 1, none⟩ = some (wV t.L 1) ∧ wx.cell? ⟨b, 2, none⟩ = some (wV t.L 2) ∧ wx.cell? ⟨b, 3, none⟩ = some (wV t.L 3) ∧ wx.cell? ⟨b, 4, none⟩ = some (wV t.L 4) ∧ wx.cell? ⟨b, 5, none⟩ = some (wV t.L 5) ∧ wx.cell? ⟨b, 6, none⟩ = some (wV t.L 6) ∧ wx.cell? ⟨b, 7, none⟩ = some (wV t.L 7) ∧ wx.cell? ⟨b, 8, none⟩ = some (.int .i64 (t.L.length : Nat)) ∧ wx.cell? ⟨b, 9, none⟩ = some (.int .u8 (t.b : Nat)) ∧ wx.cell? ⟨b, 10, none⟩ = some (.int .u8 (t.l : Nat)) from fun wx hx => (HT.out.below hx).cells)
  go_enter Try.func19, Try.ntmps19
  go_upto_region 1 with (fail)
  rw [← hw1, ← hb]
  clear hw1 hb
  refine region_but (S := (fun wx => wx.cell? ⟨b, 0, none⟩ = some (wV t.L 0) ∧ wx.cell? ⟨b, 1, none⟩ = some (wV t.L 1) ∧ wx.cell? ⟨b, 2, none⟩ = some (wV t.L 2) ∧ wx.cell? ⟨b, 3, none⟩ = some (wV t.L 3) ∧ wx.cell? ⟨b, 4, none⟩ = some (wV t.L 4) ∧ wx.cell? ⟨b, 5, none⟩ = some (wV t.L 5) ∧ wx.cell? ⟨b, 6, none⟩ = some (wV t.L 6) ∧ wx.cell? ⟨b, 7, none⟩ = some (wV t.L 7) ∧ wx.cell? ⟨b, 8, none⟩ = some (.int .i64 (t.L.length : Nat)) ∧ wx.cell? ⟨b, 9, none⟩ = some (.int .u8 (t.b : Nat)) ∧ wx.cell? ⟨b, 10, none⟩ = some (.int .u8 (t.l : Nat)))) 6 (by kernel_rfl) (KEEP.out _ ((Below.refl _ _).drew)) (fun hHeld => ?_)
  obtain ⟨wz, hwz⟩ : ∃ X, X = w1.drew := ⟨_, rfl⟩
  have HX := Lib.hid (show Below w1.heap.size w1 wz by rw [hwz]; exact (Below.refl _ _).drew)
  replace hHeld := KEEP.out _ HX.out
  rw [← hwz]
  clear hwz
  refine ti 0 rfl (fun w hSw => by (try dsimp only at hSw); go_simp; try with_reducible rfl) ?_
  go_frame
  refine ti 1 rfl (fun w hSw => by (try dsimp only at hSw); go_simp; try with_reducible rfl) ?_
  go_frame
  refine ti 4 rfl (fun w hSw => by (try dsimp only at hSw); go_simp; try with_reducible rfl) ?_
  go_frame
  obtain ⟨q, hq8⟩ : ∃ q, q = wz.heap.size := ⟨_, rfl⟩
  obtain ⟨w8, hw8⟩ : ∃ X, X = wz.alloc (.cells #[.int .i64 c] 3) := ⟨_, rfl⟩
  have HB8 := Lib.hid (show Below wz.heap.size wz w8 by rw [hw8]; exact (Below.refl _ _).alloc (Nat.le_refl _) _)
  have HI8 := Lib.hid (show IsIn w8 (.slice (some ⟨q, 0, none⟩) 1 1) [c] from ⟨_, 1, rfl, fun _ => ⟨q, 0, rfl, by rw [hw8, hq8]; simp, fun i hi => by
    obtain rfl : i = 0 := by simpa using hi
    rw [hw8, hq8]
    simp⟩⟩)
  replace HX := Lib.hid (HX.out.trans (HB8.out.mono HX.out.size))
  refine th 2 rfl (by kernel_rfl) (by decide) (by kernel_rfl) (fun K hK => ?_)
  go_simp
  rw [← hw8, ← hq8]
  clear hw8 hq8
  refine hK.out _ _ (KEEP.out _ HX.out) (fun hHeld => ?_)
  clear hK K
  try go_frame
  refine th 3 rfl (by kernel_rfl) (by decide) (by kernel_rfl) (fun K hK => ?_)
  go_simp
  refine (HW.out _ _ HI8.out).mono ?_
  rintro e w3 ⟨rfl, bb⟩
  replace HX := Lib.hid (HX.out.trans (bb.mono HX.out.size))
  clear bb
  go_wp2_with fail
  refine hK.out _ _ (KEEP.out _ HX.out) (fun hHeld => ?_)
  clear hK K
  try go_frame
  cases B
  · refine ti 5 rfl (fun w hSw => by (try dsimp only at hSw); go_simp; try with_reducible rfl) ?_
    go_frame
    refine tx rfl (by kernel_rfl) (by kernel_rfl) (by kernel_rfl) (fun K hK => ?_)
    go_simp
    refine hK.out _ _ ?_
    clear hK K hHeld KEEP
    try go_frame
    go_wp2
    go_ret
    exact ⟨rfl, HB1.out.trans (HX.out.mono HB1.out.size)⟩
  · refine ti 5 rfl (fun w hSw => by (try dsimp only at hSw); go_simp; try with_reducible rfl) ?_
    go_frame
    refine tx rfl (by kernel_rfl) (by kernel_rfl) (by kernel_rfl) (fun K hK => ?_)
    go_simp
    refine hK.out _ _ ?_
    clear hK K hHeld KEEP
    try go_frame
    go_wp2
    go_ret
    exact ⟨rfl, HB1.out.trans (HX.out.mono HB1.out.size)⟩
theorem has_any (t : Tb) (ht : t.Ok) (c : Int) (w : World) : Calls Try.prog 19 #[tbV t, .int .i64 c] w fun e w' => e = .returned (.bool (hasM t.L c)) ∧ Below w.heap.size w w' := has_val t ht c _ rfl w
end Go.Proofs.Ytmfbknmcmopjnaa.Lab
