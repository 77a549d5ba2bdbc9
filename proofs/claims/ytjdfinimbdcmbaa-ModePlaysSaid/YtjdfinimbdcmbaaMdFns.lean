/- What each of the modes' short calls answers. -/
import Derived.Test.YtjdfinimbdcmbaaMdMap
import Derived.Laws.BitsAllLaws
import Derived.RangeFuncBox
import Derived.Test.YtjdfinimbdcmbaaShelf
set_option linter.unusedVariables false
namespace Go.Proofs.Ytjdfinimbdcmbaa.Lab
open Go Go.RowKit

abbrev MsT : TypeId := 27
theorem isSome_bit {x : Mo} : (bitM x).isSome = (bitM x != none) := by cases bitM x <;> rfl
theorem two_cells {w : World} {b : Nat} {u v : Value} {T : TypeId} (h : w.heap[b]? = some (.cells #[u, v] T (0, 0))) : w.cell? ⟨b, 0, none⟩ = some u ∧ w.cell? ⟨b, 1, none⟩ = some v ∧ w.frozen? ⟨b, 0, none⟩ = false ∧ w.frozen? ⟨b, 1, none⟩ = false :=
  ⟨by rw [cell_of_row w b 0 _ _ _ h]; simp, by rw [cell_of_row w b 1 _ _ _ h]; simp, frozen_of_row w b 0 _ _ h, frozen_of_row w b 1 _ _ h⟩
theorem one_cell {w : World} {b : Nat} {u : Value} {T : TypeId} (h : w.heap[b]? = some (.cells #[u] T (0, 0))) : w.cell? ⟨b, 0, none⟩ = some u ∧ w.frozen? ⟨b, 0, none⟩ = false :=
  ⟨by rw [cell_of_row w b 0 _ _ _ h]; simp, frozen_of_row w b 0 _ _ h⟩
theorem u16_andNot_nat : ∀ s : Nat, s < 2048 → ∀ j : Nat, j < 11 → bits .andNot .u16 (s : Int) ((2 ^ j : Nat) : Int) = ((s ^^^ (s &&& 2 ^ j) : Nat) : Int) := by
  have h : ((List.range 2048).all fun s => (List.range 11).all fun j => decide (bits .andNot .u16 (s : Int) ((2 ^ j : Nat) : Int) = ((s ^^^ (s &&& 2 ^ j) : Nat) : Int))) = true := by decide +kernel
  intro s hs j hj
  exact of_decide_eq_true (List.all_eq_true.1 (List.all_eq_true.1 h s (List.mem_range.2 hs)) j (List.mem_range.2 hj))
theorem u16_or_bit {s j : Nat} (hs : s < 2048) (hj : j < 11) : bits .or .u16 (s : Int) ((2 ^ j : Nat) : Int) = ((s ||| 2 ^ j : Nat) : Int) :=
  u16_or_nat s (2 ^ j) (by omega) (Nat.lt_trans (Nat.pow_lt_pow_right (by decide) hj) (by decide))
theorem and_bit (s j : Nat) : (s &&& 2 ^ j = 0) ↔ s.testBit j = false := by
  constructor
  · intro h
    have := congrArg (·.testBit j) h
    simpa [Nat.testBit_and, Nat.testBit_two_pow] using this
  · intro h
    refine Nat.eq_of_testBit_eq fun i => ?_
    rw [Nat.testBit_and, Nat.testBit_two_pow, Nat.zero_testBit]
    by_cases e : j = i
    · subst e
      simp [h]
    · simp [e]
theorem u16_and_bit {s j : Nat} (hs : s < 2048) (hj : j < 11) : bits .and .u16 (s : Int) ((2 ^ j : Nat) : Int) = ((s &&& 2 ^ j : Nat) : Int) :=
  u16_and_nat s (2 ^ j) (by omega) (Nat.lt_trans (Nat.pow_lt_pow_right (by decide) hj) (by decide))
theorem soft_bits : ∀ s : Nat, s < 2048 → bits .or .u16 (bits .andNot .u16 (s : Int) 17) 96 = (softM s : Nat) := by
  have h : ((List.range 2048).all fun s => decide (bits .or .u16 (bits .andNot .u16 (s : Int) 17) 96 = (softM s : Nat))) = true := by decide +kernel
  intro s hs
  exact of_decide_eq_true (List.all_eq_true.1 h s (List.mem_range.2 hs))
set_option maxHeartbeats 2000000 in
set_option maxRecDepth 100000 in
theorem known_any (p : Bool) (n : Int) (h : wfM (p, n)) (w : World) : Calls Try.prog 17 #[.agg #[.bool p, .int .i64 n]] w fun e w' => e = .returned (.bool (bitM (p, n)).isSome) ∧ Below w.heap.size w w' := by
  obtain ⟨v, hv⟩ : ∃ v, v = bitV (p, n) := ⟨_, rfl⟩
  obtain ⟨q, hq⟩ : ∃ q, q = (bitM (p, n)).isSome := ⟨_, rfl⟩
  have HV := Lib.hid hv
  have HQ := Lib.hid hq
  have HLK := Lib.hid (show ∀ w b, BMap w b → (Instr.lookup 59 (.map (some b)) (.agg #[.bool p, .int .i64 n]) true).run Try.prog w = .ok (.tuple #[.int .u16 (v : Nat), .bool q]) w from fun w b hb => by rw [hv, hq]; exact hb.look_ok (p, n) h)
  rw [← hq]
  clear hv hq h
  obtain ⟨b, hb⟩ : ∃ b, b = w.heap.size := ⟨_, rfl⟩
  obtain ⟨w1, hw1⟩ : ∃ x, x = w.alloc (.cells #[.bool p, .int .i64 n] 24) := ⟨_, rfl⟩
  have HB1 := Lib.hid (show Below w.heap.size w w1 by rw [hw1]; exact (Below.refl _ _).alloc (Nat.le_refl _) _)
  have hcell := two_cells (show w1.heap[b]? = some (.cells #[.bool p, .int .i64 n] 24 (0, 0)) by rw [hw1, hb]; exact World.alloc_heap_new w _)
  have KEEP := Lib.hid (show ∀ wx, Below w1.heap.size w1 wx → wx.cell? ⟨b, 0, none⟩ = some (.bool p) ∧ wx.cell? ⟨b, 1, none⟩ = some (.int .i64 n) from fun wx hx => ⟨(hx.cell (World.block_lt_of_cell? w1 _ hcell.1)).trans hcell.1, (hx.cell (World.block_lt_of_cell? w1 _ hcell.2.1)).trans hcell.2.1⟩)
  clear hcell
  go_enter Try.func17, Try.ntmps17
  go_wp2_with fail
  rw [← hw1, ← hb]
  clear hw1 hb
  go_upto_region 1 with (fail)
  refine wp_region_held_drew (S := (fun wx => wx.cell? ⟨b, 0, none⟩ = some (.bool p) ∧ wx.cell? ⟨b, 1, none⟩ = some (.int .i64 n))) (by kernel_rfl) (KEEP.out _ ((Below.refl _ _).drew)) (fun hHeld => ?_)
  obtain ⟨wz, hwz⟩ : ∃ X, X = w1.drew := ⟨_, rfl⟩
  have HX := Lib.hid (show Below w1.heap.size w1 wz by rw [hwz]; exact (Below.refl _ _).drew)
  replace hHeld := KEEP.out _ HX.out
  rw [← hwz]
  clear hwz
  refine tk 1 rfl (fun w hSw => by (try dsimp only at hSw); go_simp; try with_reducible rfl) ?_
  go_frame
  refine do_at (i := 0) rfl (by kernel_rfl) (by kernel_rfl) (fun K hK => ?_)
  go_simp
  refine (bits_any _).mono ?_
  rintro e w2 ⟨bm, rfl, hbm, hB, bb⟩
  have HM := Lib.hid hB
  clear hbm hB
  replace HX := Lib.hid (HX.out.trans (bb.mono HX.out.size))
  clear bb
  go_wp2_with fail
  refine hK.out _ _ (KEEP.out _ HX.out) (fun hHeld => ?_)
  clear hK K
  try go_frame
  have hrun := HLK.out _ _ HM.out
  refine do_at (i := 2) rfl (by kernel_rfl) (by kernel_rfl) (fun K hK => ?_)
  go_simp
  refine hK.out _ _ (KEEP.out _ HX.out) (fun hHeld => ?_)
  clear hK K hrun
  try go_frame
  refine tk 3 rfl (fun w hSw => by (try dsimp only at hSw); go_simp; try with_reducible rfl) ?_
  go_frame
  refine tk 4 rfl (fun w hSw => by (try dsimp only at hSw); go_simp; try with_reducible rfl) ?_
  go_frame
  refine tk 5 rfl (fun w hSw => by (try dsimp only at hSw); go_simp; try with_reducible rfl) ?_
  go_frame
  refine tk 6 rfl (fun w hSw => by (try dsimp only at hSw); go_simp; try with_reducible rfl) ?_
  go_frame
  refine tk 7 rfl (fun w hSw => by (try dsimp only at hSw); go_simp; try with_reducible rfl) ?_
  go_frame
  refine wpAnyH_done (by kernel_rfl) ?_ _
  go_wp2
  go_ret
  exact ⟨rfl, HB1.out.trans (HX.out.mono HB1.out.size)⟩
set_option maxHeartbeats 2000000 in
set_option maxRecDepth 100000 in
theorem alt_any (p : Bool) (n : Int) (h : wfM (p, n)) (w : World) : Calls Try.prog 19 #[.agg #[.bool p, .int .i64 n]] w fun e w' => e = .returned (.bool (altM (p, n))) ∧ Below w.heap.size w w' := by
  obtain ⟨v, hv⟩ : ∃ v, v = bitV (p, n) := ⟨_, rfl⟩
  obtain ⟨q, hq⟩ : ∃ q, q = (bitM (p, n)).isSome := ⟨_, rfl⟩
  have HV := Lib.hid hv
  have HQ := Lib.hid hq
  have HLK := Lib.hid (show ∀ w b, BMap w b → (Instr.lookup 59 (.map (some b)) (.agg #[.bool p, .int .i64 n]) false).run Try.prog w = .ok (.int .u16 (v : Nat)) w from fun w b hb => by rw [hv]; exact hb.look (p, n) h)
  have HA := Lib.hid (show decide ((v : Int) = 128) = altM (p, n) by
    rw [hv]
    unfold altM bitV
    cases e : bitM (p, n) with
    | none => rfl
    | some j =>
      have hj := bitM_lt e
      have := (by decide : ∀ j, j < 11 → decide (((2 ^ j : Nat) : Int) = 128) = (some j == some 7)) j hj
      exact this)
  obtain ⟨r, hr⟩ : ∃ r, r = altM (p, n) := ⟨_, rfl⟩
  rw [← hr] at HA ⊢
  clear hv hq h hr
  obtain ⟨b, hb⟩ : ∃ b, b = w.heap.size := ⟨_, rfl⟩
  obtain ⟨w1, hw1⟩ : ∃ x, x = w.alloc (.cells #[.bool p, .int .i64 n] 24) := ⟨_, rfl⟩
  have HB1 := Lib.hid (show Below w.heap.size w w1 by rw [hw1]; exact (Below.refl _ _).alloc (Nat.le_refl _) _)
  have hcell := two_cells (show w1.heap[b]? = some (.cells #[.bool p, .int .i64 n] 24 (0, 0)) by rw [hw1, hb]; exact World.alloc_heap_new w _)
  have KEEP := Lib.hid (show ∀ wx, Below w1.heap.size w1 wx → wx.cell? ⟨b, 0, none⟩ = some (.bool p) ∧ wx.cell? ⟨b, 1, none⟩ = some (.int .i64 n) from fun wx hx => ⟨(hx.cell (World.block_lt_of_cell? w1 _ hcell.1)).trans hcell.1, (hx.cell (World.block_lt_of_cell? w1 _ hcell.2.1)).trans hcell.2.1⟩)
  clear hcell
  go_enter Try.func19, Try.ntmps19
  go_wp2_with fail
  rw [← hw1, ← hb]
  clear hw1 hb
  go_upto_region 1 with (fail)
  refine wp_region_held_drew (S := (fun wx => wx.cell? ⟨b, 0, none⟩ = some (.bool p) ∧ wx.cell? ⟨b, 1, none⟩ = some (.int .i64 n))) (by kernel_rfl) (KEEP.out _ ((Below.refl _ _).drew)) (fun hHeld => ?_)
  obtain ⟨wz, hwz⟩ : ∃ X, X = w1.drew := ⟨_, rfl⟩
  have HX := Lib.hid (show Below w1.heap.size w1 wz by rw [hwz]; exact (Below.refl _ _).drew)
  replace hHeld := KEEP.out _ HX.out
  rw [← hwz]
  clear hwz
  refine tk 1 rfl (fun w hSw => by (try dsimp only at hSw); go_simp; try with_reducible rfl) ?_
  go_frame
  refine do_at (i := 0) rfl (by kernel_rfl) (by kernel_rfl) (fun K hK => ?_)
  go_simp
  refine (bits_any _).mono ?_
  rintro e w2 ⟨bm, rfl, hbm, hB, bb⟩
  have HM := Lib.hid hB
  clear hbm hB
  replace HX := Lib.hid (HX.out.trans (bb.mono HX.out.size))
  clear bb
  go_wp2_with fail
  refine hK.out _ _ (KEEP.out _ HX.out) (fun hHeld => ?_)
  clear hK K
  try go_frame
  have hrun := HLK.out _ _ HM.out
  refine do_at (i := 2) rfl (by kernel_rfl) (by kernel_rfl) (fun K hK => ?_)
  go_simp
  refine hK.out _ _ (KEEP.out _ HX.out) (fun hHeld => ?_)
  clear hK K hrun
  try go_frame
  refine tk 3 rfl (fun w hSw => by (try dsimp only at hSw); go_simp; try with_reducible rfl) ?_
  go_frame
  refine tk 4 rfl (fun w hSw => by (try dsimp only at hSw); go_simp; try with_reducible rfl) ?_
  go_frame
  refine wpAnyH_done (by kernel_rfl) ?_ _
  go_wp2
  go_ret
  exact ⟨by rw [← HA.out]; first | rfl | (congr 2; exact Bool.eq_iff_iff.2 (by simp)), HB1.out.trans (HX.out.mono HB1.out.size)⟩
theorem state_bits (s : Nat) (p : Bool) (n : Int) (hs : s < 2048) : ∃ z : Nat, ((bitM (p, n)).isSome = true → bits .and .u16 (s : Int) (bitV (p, n) : Nat) = (z : Nat)) ∧ stateM s (p, n) = if (bitM (p, n)).isSome = true then (if z = 0 then 2 else 1) else 0 := by
  unfold stateM bitV
  cases e : bitM (p, n) with
  | none => exact ⟨0, by simp, rfl⟩
  | some j =>
    refine ⟨s &&& 2 ^ j, fun _ => u16_and_bit hs (bitM_lt e), ?_⟩
    simp only [Option.isSome_some, if_true]
    by_cases h : s.testBit j = true
    · rw [if_pos h, if_neg (fun h0 => by rw [(and_bit s j).1 h0] at h; cases h)]
    · rw [if_neg h, if_pos ((and_bit s j).2 (by simpa using h))]
set_option maxHeartbeats 2000000 in
set_option maxRecDepth 100000 in
theorem state_any (s : Nat) (hs : s < 2048) (p : Bool) (n : Int) (h : wfM (p, n)) (w : World) : Calls Try.prog 23 #[.agg #[.int .u16 (s : Nat)], .agg #[.bool p, .int .i64 n]] w fun e w' => e = .returned (.int .i64 (stateM s (p, n) : Nat)) ∧ Below w.heap.size w w' := by
  have hst := state_bits s p n hs
  obtain ⟨v, hv⟩ : ∃ v, v = bitV (p, n) := ⟨_, rfl⟩
  obtain ⟨q, hq⟩ : ∃ q, q = (bitM (p, n)).isSome := ⟨_, rfl⟩
  have HV := Lib.hid hv
  have HQ := Lib.hid hq
  have HLK := Lib.hid (show ∀ w b, BMap w b → (Instr.lookup 59 (.map (some b)) (.agg #[.bool p, .int .i64 n]) true).run Try.prog w = .ok (.tuple #[.int .u16 (v : Nat), .bool q]) w from fun w b hb => by rw [hv, hq]; exact hb.look_ok (p, n) h)
  obtain ⟨z, hz, hr⟩ := hst
  rw [← hv, ← hq] at hz
  rw [← hq] at hr
  obtain ⟨r, hrr⟩ : ∃ r, r = stateM s (p, n) := ⟨_, rfl⟩
  rw [← hrr] at hr ⊢
  have HZ := Lib.hid hz
  have HR := Lib.hid hr
  clear hv hq h hz hr hrr hs
  obtain ⟨b, hb⟩ : ∃ b, b = w.heap.size := ⟨_, rfl⟩
  obtain ⟨w1, hw1⟩ : ∃ x, x = (w.alloc (.cells #[.int .u16 (s : Nat)] 27)).alloc (.cells #[.bool p, .int .i64 n] 24) := ⟨_, rfl⟩
  have HB1 := Lib.hid (show Below w.heap.size w w1 by rw [hw1]; exact ((Below.refl _ _).alloc (Nat.le_refl _) _).alloc (by simp) _)
  have e1 : (w.alloc (.cells #[.int .u16 (s : Nat)] 27)).heap.size = b + 1 := by rw [hb]; simp
  have hcell := two_cells (show w1.heap[b + 1]? = some (.cells #[.bool p, .int .i64 n] 24 (0, 0)) by rw [hw1, ← e1]; exact World.alloc_heap_new _ _)
  have hcel1 := one_cell (show w1.heap[b]? = some (.cells #[.int .u16 (s : Nat)] 27 (0, 0)) by rw [hw1, Below.heap_alloc _ _ _ (by rw [e1]; omega), hb]; exact World.alloc_heap_new _ _)
  have KEEP := Lib.hid (show ∀ wx, Below w1.heap.size w1 wx → wx.cell? ⟨b, 0, none⟩ = some (.int .u16 (s : Nat)) ∧ wx.cell? ⟨b + 1, 0, none⟩ = some (.bool p) ∧ wx.cell? ⟨b + 1, 1, none⟩ = some (.int .i64 n) from fun wx hx => ⟨(hx.cell (World.block_lt_of_cell? w1 _ hcel1.1)).trans hcel1.1, (hx.cell (World.block_lt_of_cell? w1 _ hcell.1)).trans hcell.1, (hx.cell (World.block_lt_of_cell? w1 _ hcell.2.1)).trans hcell.2.1⟩)
  clear hcell hcel1 e1
  go_enter Try.func23, Try.ntmps23
  go_wp2_with fail
  rw [← hw1, ← hb]
  clear hw1 hb
  go_upto_region 1 with (fail)
  refine wp_region_held_drew (S := (fun wx => wx.cell? ⟨b, 0, none⟩ = some (.int .u16 (s : Nat)) ∧ wx.cell? ⟨b + 1, 0, none⟩ = some (.bool p) ∧ wx.cell? ⟨b + 1, 1, none⟩ = some (.int .i64 n))) (by kernel_rfl) (KEEP.out _ ((Below.refl _ _).drew)) (fun hHeld => ?_)
  obtain ⟨wz, hwz⟩ : ∃ X, X = w1.drew := ⟨_, rfl⟩
  have HX := Lib.hid (show Below w1.heap.size w1 wz by rw [hwz]; exact (Below.refl _ _).drew)
  replace hHeld := KEEP.out _ HX.out
  rw [← hwz]
  clear hwz
  refine tk 1 rfl (fun w hSw => by (try dsimp only at hSw); go_simp; try with_reducible rfl) ?_
  go_frame
  refine do_at (i := 0) rfl (by kernel_rfl) (by kernel_rfl) (fun K hK => ?_)
  go_simp
  refine (bits_any _).mono ?_
  rintro e w2 ⟨bm, rfl, hbm, hB, bb⟩
  have HM := Lib.hid hB
  clear hbm hB
  replace HX := Lib.hid (HX.out.trans (bb.mono HX.out.size))
  clear bb
  go_wp2_with fail
  refine hK.out _ _ (KEEP.out _ HX.out) (fun hHeld => ?_)
  clear hK K
  try go_frame
  have hrun := HLK.out _ _ HM.out
  refine do_at (i := 2) rfl (by kernel_rfl) (by kernel_rfl) (fun K hK => ?_)
  go_simp
  refine hK.out _ _ (KEEP.out _ HX.out) (fun hHeld => ?_)
  clear hK K hrun
  try go_frame
  refine tk 3 rfl (fun w hSw => by (try dsimp only at hSw); go_simp; try with_reducible rfl) ?_
  go_frame
  refine tk 4 rfl (fun w hSw => by (try dsimp only at hSw); go_simp; try with_reducible rfl) ?_
  go_frame
  refine tk 5 rfl (fun w hSw => by (try dsimp only at hSw); go_simp; try with_reducible rfl) ?_
  go_frame
  refine tk 6 rfl (fun w hSw => by (try dsimp only at hSw); go_simp; try with_reducible rfl) ?_
  go_frame
  refine tk 7 rfl (fun w hSw => by (try dsimp only at hSw); go_simp; try with_reducible rfl) ?_
  go_frame
  refine wpAnyH_done (by kernel_rfl) ?_ _
  cases q
  · go_wp2
    go_ret
    refine ⟨?_, HB1.out.trans (HX.out.mono HB1.out.size)⟩
    rw [HR.out]
    rfl
  · have c0 := hHeld.1
    have r1 := HZ.out rfl
    by_cases hz : z = 0
    · subst hz
      go_wp2
      go_ret
      refine ⟨?_, HB1.out.trans (HX.out.mono HB1.out.size)⟩
      rw [HR.out]
      rfl
    · have t1 : ((z : Int) == 0) = false := by simpa using hz
      have t2 : decide ((z : Int) = 0) = false := by simpa using hz
      go_wp2
      go_ret
      refine ⟨?_, HB1.out.trans (HX.out.mono HB1.out.size)⟩
      have e9 : r = 1 := HR.out.trans (by simp [hz])
      rw [e9]
      rfl
set_option maxHeartbeats 2000000 in
set_option maxRecDepth 100000 in
theorem is_any (s : Nat) (hs : s < 2048) (p : Bool) (n : Int) (h : wfM (p, n)) (w : World) : Calls Try.prog 21 #[.agg #[.int .u16 (s : Nat)], .agg #[.bool p, .int .i64 n]] w fun e w' => e = .returned (.bool (isM s (p, n))) ∧ Below w.heap.size w w' := by
  have HC := Lib.hid (fun w => state_any s hs p n h w)
  rw [is_state]
  obtain ⟨r, hrr⟩ : ∃ r, r = stateM s (p, n) := ⟨_, rfl⟩
  rw [← hrr] at HC ⊢
  clear h hrr hs
  obtain ⟨b, hb⟩ : ∃ b, b = w.heap.size := ⟨_, rfl⟩
  obtain ⟨w1, hw1⟩ : ∃ x, x = (w.alloc (.cells #[.int .u16 (s : Nat)] 27)).alloc (.cells #[.bool p, .int .i64 n] 24) := ⟨_, rfl⟩
  have HB1 := Lib.hid (show Below w.heap.size w w1 by rw [hw1]; exact ((Below.refl _ _).alloc (Nat.le_refl _) _).alloc (by simp) _)
  have e1 : (w.alloc (.cells #[.int .u16 (s : Nat)] 27)).heap.size = b + 1 := by rw [hb]; simp
  have hcell := two_cells (show w1.heap[b + 1]? = some (.cells #[.bool p, .int .i64 n] 24 (0, 0)) by rw [hw1, ← e1]; exact World.alloc_heap_new _ _)
  have hcel1 := one_cell (show w1.heap[b]? = some (.cells #[.int .u16 (s : Nat)] 27 (0, 0)) by rw [hw1, Below.heap_alloc _ _ _ (by rw [e1]; omega), hb]; exact World.alloc_heap_new _ _)
  have KEEP := Lib.hid (show ∀ wx, Below w1.heap.size w1 wx → wx.cell? ⟨b, 0, none⟩ = some (.int .u16 (s : Nat)) ∧ wx.cell? ⟨b + 1, 0, none⟩ = some (.bool p) ∧ wx.cell? ⟨b + 1, 1, none⟩ = some (.int .i64 n) from fun wx hx => ⟨(hx.cell (World.block_lt_of_cell? w1 _ hcel1.1)).trans hcel1.1, (hx.cell (World.block_lt_of_cell? w1 _ hcell.1)).trans hcell.1, (hx.cell (World.block_lt_of_cell? w1 _ hcell.2.1)).trans hcell.2.1⟩)
  clear hcell hcel1 e1
  go_enter Try.func21, Try.ntmps21
  go_wp2_with fail
  rw [← hw1, ← hb]
  clear hw1 hb
  obtain ⟨c0, c1, c2⟩ := KEEP.out _ (Below.refl _ _)
  go_wp2_with fail
  refine (HC.out _).mono ?_
  rintro e w2 ⟨rfl, bb⟩
  go_wp2
  go_ret
  refine ⟨?_, HB1.out.trans (bb.mono HB1.out.size)⟩
  show Ending.returned (.bool ((r : Int) == 1)) = .returned (.bool (r == 1))
  have e9 : ((r : Int) == 1) = (r == 1) := by
    rw [Bool.eq_iff_iff, beq_iff_eq, beq_iff_eq]
    omega
  rw [e9]
set_option maxHeartbeats 2000000 in
theorem mnew_any (w : World) : Calls Try.prog 8 #[] w fun e w' => e = .returned (.agg #[.int .u16 96]) ∧ Below w.heap.size w w' := by
  go_enter Try.func8, Try.ntmps8
  go_wp2
  refine bodyPost_ret (by simp [results, Try.results8, go_sem]) rfl ⟨rfl, ?_⟩
  exact (Below.refl _ _).alloc (Nat.le_refl _) _
set_option maxHeartbeats 2000000 in
theorem priv_any (n : Int) (w : World) : Calls Try.prog 29 #[.int .i64 n] w fun e w' => e = .returned (.agg #[.bool true, .int .i64 n]) ∧ Below w.heap.size w w' := by
  go_enter Try.func29, Try.ntmps29
  go_wp2
  refine bodyPost_ret (by simp [results, Try.results29, go_sem]) rfl ⟨rfl, ?_⟩
  exact (Below.refl _ _).alloc (Nat.le_refl _) _
set_option maxHeartbeats 2000000 in
theorem ansi_any (n : Int) (w : World) : Calls Try.prog 30 #[.int .i64 n] w fun e w' => e = .returned (.agg #[.bool false, .int .i64 n]) ∧ Below w.heap.size w w' := by
  go_enter Try.func30, Try.ntmps30
  go_wp2
  refine bodyPost_ret (by simp [results, Try.results30, go_sem]) rfl ⟨rfl, ?_⟩
  exact (Below.refl _ _).alloc (Nat.le_refl _) _
set_option maxHeartbeats 2000000 in
set_option maxRecDepth 100000 in
theorem soft_any (s : Nat) (hs : s < 2048) (w : World) : Calls Try.prog 11 #[.agg #[.int .u16 (s : Nat)]] w fun e w' => e = .returned (.agg #[.int .u16 (softM s : Nat)]) ∧ Below w.heap.size w w' := by
  have r1 := soft_bits s hs
  obtain ⟨v, hv⟩ : ∃ v, v = bits .andNot .u16 (s : Int) 17 := ⟨_, rfl⟩
  rw [← hv] at r1
  replace hv := hv.symm
  obtain ⟨r, hr⟩ : ∃ r, r = softM s := ⟨_, rfl⟩
  rw [← hr] at r1 ⊢
  clear hs hr
  go_enter Try.func11, Try.ntmps11
  go_wp2
  refine bodyPost_ret (by simp [results, Try.results11, go_sem]; rfl) rfl ⟨?_, ?_⟩
  · rfl
  · exact ((Below.refl _ _).alloc (Nat.le_refl _) _).alloc (by simp) _
end Go.Proofs.Ytjdfinimbdcmbaa.Lab
