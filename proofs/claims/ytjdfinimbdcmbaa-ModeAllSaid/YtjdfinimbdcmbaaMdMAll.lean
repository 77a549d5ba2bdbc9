/- ModeAll: all that are set, in order; put in nothing they make the same modes. -/
import Derived.Test.YtjdfinimbdcmbaaMdSoft
set_option linter.unusedVariables false
namespace Go.Proofs.Ytjdfinimbdcmbaa.Lab
open Go Go.RowKit Go.Shelf

theorem three_one (m : Nat) : isM m (true, 1047) = isM m (true, 47) ∧ isM m (true, 1049) = isM m (true, 47) := ⟨rfl, rfl⟩
theorem getD_memM {l : List Mo} {i : Nat} (h : i < l.length) : l.getD i (false, 0) ∈ l := by
  rw [List.getD_eq_getElem?_getD, List.getElem?_eq_getElem h]
  exact List.getElem_mem h
theorem rising_at (m : Nat) {i : Nat} (h : i + 1 < (allM m).length) : ltM ((allM m).getD i (false, 0)) ((allM m).getD (i + 1) (false, 0)) = true := by
  have := List.pairwise_iff_getElem.1 (all_rising m) i (i + 1) (by omega) h (by omega)
  rw [List.getD_eq_getElem?_getD, List.getD_eq_getElem?_getD, List.getElem?_eq_getElem h, List.getElem?_eq_getElem (by omega)]
  exact this
set_option maxHeartbeats 8000000 in
set_option maxRecDepth 100000 in
theorem mall_core (la : Option Addr) (n lc : Nat) (AL : List Ac) (w : World) (h : AcsIn w (.slice la n lc) AL) : Calls Try.prog 5 #[.slice la n lc] w fun e w' => e = .returned (.bool true) ∧ Below w.heap.size w w' := by
  have HAC := Lib.hid h
  clear h
  obtain ⟨m, hm⟩ : ∃ m, m = playS AL := ⟨_, rfl⟩
  have HML := Lib.hid (show m < 2048 by rw [hm]; exact playS_lt AL)
  have HPL := Lib.hid (fun w (h : AcsIn w (.slice la n lc) AL) => played_any la n lc AL w h)
  rw [← hm] at HPL
  clear hm
  obtain ⟨A, hA⟩ : ∃ A, A = allM m := ⟨_, rfl⟩
  obtain ⟨k, hk⟩ : ∃ k, k = A.length := ⟨_, rfl⟩
  have HALL := Lib.hid (fun w => all_any m HML.out w)
  have HA := Lib.hid (show (∀ x ∈ A, wfM x) ∧ k ≤ 13 ∧ putL true 0 A = m ∧ knownN A = k ∧ putL false m A = 0 ∧ (∀ i, i < k → isM m (A.getD i (false, 0)) = true ∧ (bitM (A.getD i (false, 0))).isSome = true ∧ stateM m (A.getD i (false, 0)) = 1) ∧ ∀ i, i + 1 < k → ltM (A.getD i (false, 0)) (A.getD (i + 1) (false, 0)) = true from by
    rw [hk]
    refine ⟨fun x hx => ?_, by rw [hA]; exact allM_le m, by rw [hA]; exact all_again HML.out, by rw [hA]; exact all_known m, by rw [hA]; exact all_none HML.out, fun i hi => ?_, fun i hi => ?_⟩
    · rw [hA] at hx
      have hb := mem_known hx
      cases e : bitM x with
      | none => rw [e] at hb; cases hb
      | some j => exact tab_wf _ (findM_some e)
    · rw [hA] at hi ⊢
      have hx := getD_memM hi
      have h1 := mem_all.1 hx
      exact ⟨h1, mem_known hx, isM_state h1⟩
    · rw [hA] at hi ⊢
      exact rising_at m hi)
  rw [← hA] at HALL
  have HK := Lib.hid hk
  clear hA hk
  have hq1 : ∀ w, (Op.equalIn 10000 27 (.agg #[.int .u16 (m : Nat)]) (.agg #[.int .u16 (m : Nat)])).run Try.prog w = .ok true w := fun w => by rw [eqMs, decide_eq_true rfl]
  have hq2 : ∀ w, (Op.equalIn 10000 27 (.agg #[.int .u16 0]) (.agg #[.int .u16 0])).run Try.prog w = .ok true w := fun w => eqMs_c (s := 0) (t := 0) rfl rfl (by decide) w
  have HB := Lib.hid (Below.refl w.heap.size w)
  go_enter Try.func5, Try.ntmps5
  go_wp2_with fail
  refine (works_any _).mono ?_
  rintro e w1 ⟨rfl, bb⟩
  replace HB := Lib.hid (HB.out.trans (bb.mono HB.out.size))
  clear bb
  go_wp2_with fail
  refine (HPL.out _ (HAC.out.below HB.out)).mono ?_
  rintro e w2 ⟨rfl, bb⟩
  replace HB := Lib.hid (HB.out.trans (bb.mono HB.out.size))
  clear bb
  obtain ⟨b3, hb3⟩ : ∃ b, b = w2.heap.size := ⟨_, rfl⟩
  obtain ⟨w3, hw3⟩ : ∃ x, x = w2.alloc (.cells #[.int .u16 (m : Nat)] 27) := ⟨_, rfl⟩
  have HBo := Lib.hid HB.out.size
  have kk : Below w2.heap.size w2 w3 := by rw [hw3]; exact (Below.refl _ _).alloc (Nat.le_refl _) _
  replace HB := Lib.hid (HB.out.trans (kk.mono HB.out.size))
  have HNb3 := Lib.hid (show w3.heap[b3]? = some (.cells #[.int .u16 (m : Nat)] 27 (0, 0)) by rw [hw3, hb3]; exact World.alloc_heap_new _ _)
  have HLb3 := Lib.hid (show w.heap.size ≤ b3 by rw [hb3]; exact HBo.out)
  go_upto_region 4 with (fail)
  rw [← hw3, ← hb3]
  clear hw3 hb3 kk HBo
  have cb3 := (one_cell HNb3.out).1
  have fb3 := (one_cell HNb3.out).2
  go_wp2_with fail
  refine (HALL.out _).mono ?_
  rintro e w4 ⟨v4, rfl, hv4, bb⟩
  obtain ⟨aa, ac, rfl⟩ := hv4.shape
  rw [← HK.out] at hv4
  rw [← HK.out]
  have HLI := Lib.hid hv4
  clear hv4
  replace HNb3 := Lib.hid (blk_below HNb3.out bb)
  replace HB := Lib.hid (HB.out.trans (bb.mono HB.out.size))
  clear bb
  clear cb3 fb3
  obtain ⟨b5, hb5⟩ : ∃ b, b = w4.heap.size := ⟨_, rfl⟩
  obtain ⟨w5, hw5⟩ : ∃ x, x = w4.alloc (.cells #[.int .u16 0] 27) := ⟨_, rfl⟩
  have HBo := Lib.hid HB.out.size
  have kk : Below w4.heap.size w4 w5 := by rw [hw5]; exact (Below.refl _ _).alloc (Nat.le_refl _) _
  replace HNb3 := Lib.hid (blk_below HNb3.out kk)
  replace HB := Lib.hid (HB.out.trans (kk.mono HB.out.size))
  replace HLI := Lib.hid (HLI.out.below kk)
  have HNb5 := Lib.hid (show w5.heap[b5]? = some (.cells #[.int .u16 0] 27 (0, 0)) by rw [hw5, hb5]; exact World.alloc_heap_new _ _)
  have HLb5 := Lib.hid (show w.heap.size ≤ b5 by rw [hb5]; exact HBo.out)
  go_upto_region 6 with (fail)
  rw [← hw5, ← hb5]
  clear hw5 hb5 kk HBo
  have cb3 := (one_cell HNb3.out).1
  have fb3 := (one_cell HNb3.out).2
  have cb5 := (one_cell HNb5.out).1
  have fb5 := (one_cell HNb5.out).2
  go_wp2_with fail
  refine (put_c (s := 0) (r := m) (k := k) (S := 0) true _ A rfl rfl rfl (by decide) ⟨HA.out.2.2.1, HA.out.2.2.2.1⟩ _ HLI.out HA.out.1 (by have := HA.out.2.1; have := HK.out; omega)).mono ?_
  rintro e w6 ⟨rfl, bb⟩
  replace HLI := Lib.hid (HLI.out.below bb)
  replace HNb3 := Lib.hid (blk_below HNb3.out bb)
  replace HNb5 := Lib.hid (blk_below HNb5.out bb)
  replace HB := Lib.hid (HB.out.trans (bb.mono HB.out.size))
  clear bb
  clear cb3 fb3 cb5 fb5
  obtain ⟨b6, hb6⟩ : ∃ b, b = w6.heap.size := ⟨_, rfl⟩
  obtain ⟨w7, hw7⟩ : ∃ x, x = w6.alloc (.cells #[.int .u16 (m : Nat)] 27) := ⟨_, rfl⟩
  have HBo := Lib.hid HB.out.size
  have kk : Below w6.heap.size w6 w7 := by rw [hw7]; exact (Below.refl _ _).alloc (Nat.le_refl _) _
  replace HNb3 := Lib.hid (blk_below HNb3.out kk)
  replace HNb5 := Lib.hid (blk_below HNb5.out kk)
  replace HB := Lib.hid (HB.out.trans (kk.mono HB.out.size))
  replace HLI := Lib.hid (HLI.out.below kk)
  have HNb6 := Lib.hid (show w7.heap[b6]? = some (.cells #[.int .u16 (m : Nat)] 27 (0, 0)) by rw [hw7, hb6]; exact World.alloc_heap_new _ _)
  have HLb6 := Lib.hid (show w.heap.size ≤ b6 by rw [hb6]; exact HBo.out)
  go_upto_region 7 with (fail)
  rw [← hw7, ← hb6]
  clear hw7 hb6 kk HBo
  have cb3 := (one_cell HNb3.out).1
  have fb3 := (one_cell HNb3.out).2
  have cb5 := (one_cell HNb5.out).1
  have fb5 := (one_cell HNb5.out).2
  have cb6 := (one_cell HNb6.out).1
  have fb6 := (one_cell HNb6.out).2
  go_wp2_with fail
  refine (put_c (s := m) (r := 0) (k := k) (R := 0) false _ A rfl rfl rfl HML.out ⟨HA.out.2.2.2.2.1, HA.out.2.2.2.1⟩ _ HLI.out HA.out.1 (by have := HA.out.2.1; have := HK.out; omega)).mono ?_
  rintro e w8 ⟨rfl, bb⟩
  replace HLI := Lib.hid (HLI.out.below bb)
  replace HNb3 := Lib.hid (blk_below HNb3.out bb)
  replace HNb5 := Lib.hid (blk_below HNb5.out bb)
  replace HNb6 := Lib.hid (blk_below HNb6.out bb)
  replace HB := Lib.hid (HB.out.trans (bb.mono HB.out.size))
  clear bb
  clear cb3 fb3 cb5 fb5 cb6 fb6
  obtain ⟨b8, hb8⟩ : ∃ b, b = w8.heap.size := ⟨_, rfl⟩
  obtain ⟨w9, hw9⟩ : ∃ x, x = w8.alloc (.cells #[.int .u16 0] 27) := ⟨_, rfl⟩
  have HBo := Lib.hid HB.out.size
  have kk : Below w8.heap.size w8 w9 := by rw [hw9]; exact (Below.refl _ _).alloc (Nat.le_refl _) _
  replace HNb3 := Lib.hid (blk_below HNb3.out kk)
  replace HNb5 := Lib.hid (blk_below HNb5.out kk)
  replace HNb6 := Lib.hid (blk_below HNb6.out kk)
  replace HB := Lib.hid (HB.out.trans (kk.mono HB.out.size))
  replace HLI := Lib.hid (HLI.out.below kk)
  have HNb8 := Lib.hid (show w9.heap[b8]? = some (.cells #[.int .u16 0] 27 (0, 0)) by rw [hw9, hb8]; exact World.alloc_heap_new _ _)
  have HLb8 := Lib.hid (show w.heap.size ≤ b8 by rw [hb8]; exact HBo.out)
  go_upto_region 8 with (fail)
  rw [← hw9, ← hb8]
  clear hw9 hb8 kk HBo
  have cb3 := (one_cell HNb3.out).1
  have fb3 := (one_cell HNb3.out).2
  have cb5 := (one_cell HNb5.out).1
  have fb5 := (one_cell HNb5.out).2
  have cb6 := (one_cell HNb6.out).1
  have fb6 := (one_cell HNb6.out).2
  have cb8 := (one_cell HNb8.out).1
  have fb8 := (one_cell HNb8.out).2
  go_wp2_with fail
  refine (allc (s := 0) (S := 0) rfl (by decide) 0 (by decide +kernel) _).mono ?_
  rintro e w10 ⟨a9, c9, rfl, bb⟩
  replace HLI := Lib.hid (HLI.out.below bb)
  replace HNb3 := Lib.hid (blk_below HNb3.out bb)
  replace HNb5 := Lib.hid (blk_below HNb5.out bb)
  replace HNb6 := Lib.hid (blk_below HNb6.out bb)
  replace HNb8 := Lib.hid (blk_below HNb8.out bb)
  replace HB := Lib.hid (HB.out.trans (bb.mono HB.out.size))
  clear bb
  clear cb3 fb3 cb5 fb5 cb6 fb6 cb8 fb8
  clear hq1 hq2
  go_wp2_with fail
  go_loopw [10] (fun v wr => ∃ i : Nat, v = .int .i64 (i : Nat) ∧ Hid (i ≤ k) ∧ Hid (Below w10.heap.size w10 wr)) (fun v wr => 20 - (intOf v).toNat)
  case atStart => exact ⟨0, rfl, Lib.hid (Nat.zero_le _), Lib.hid (Below.refl _ _)⟩
  case round =>
    obtain ⟨i, rfl, HI, HY⟩ := hrel
    have u1 : IntKind.i64.wrap ((i : Int) + 1) = ((i + 1 : Nat) : Int) := by rw [IntKind.wrap_i64]; have := HI.out; have := HA.out.2.1; omega
    replace HNb3 := Lib.hid (blk_below HNb3.out HY.out)
    replace HNb5 := Lib.hid (blk_below HNb5.out HY.out)
    replace HNb6 := Lib.hid (blk_below HNb6.out HY.out)
    replace HNb8 := Lib.hid (blk_below HNb8.out HY.out)
    replace HB := Lib.hid (HB.out.trans (HY.out.mono HB.out.size))
    have HLJ := Lib.hid (HLI.out.below HY.out)
    by_cases hi : i < k
    · have HI1 := Lib.hid hi
      obtain ⟨x, hx⟩ : ∃ x, x = A.getD i (false, 0) := ⟨_, rfl⟩
      obtain ⟨g, o, hla, c0, c1⟩ := HLJ.out.at (i := i) hi
      have HX0 := Lib.hid (show isM m x = true ∧ (bitM x).isSome = true ∧ stateM m x = 1 ∧ wfM x from ⟨by rw [hx]; exact (HA.out.2.2.2.2.2.1 i hi).1, by rw [hx]; exact (HA.out.2.2.2.2.2.1 i hi).2.1, by rw [hx]; exact (HA.out.2.2.2.2.2.1 i hi).2.2, by rw [hx]; exact HA.out.1 _ (getD_memM (by rw [← HK.out]; exact hi))⟩)
      have HXE := Lib.hid hx
      rw [← hx] at c0 c1
      clear hx
      subst hla
      obtain ⟨p, q⟩ := x
      simp only [] at c0 c1
      have HC01 := Lib.hid (And.intro c0 c1)
      clear c0 c1
      have HIS := Lib.hid (show ∀ w, Calls Try.prog 21 #[.agg #[.int .u16 (m : Nat)], .agg #[.bool p, .int .i64 q]] w fun e w' => e = .returned (.bool true) ∧ Below w.heap.size w w' from fun w => by have := is_any m HML.out p q HX0.out.2.2.2 w; rw [HX0.out.1] at this; exact this)
      have HKN := Lib.hid (show ∀ w, Calls Try.prog 17 #[.agg #[.bool p, .int .i64 q]] w fun e w' => e = .returned (.bool true) ∧ Below w.heap.size w w' from fun w => by have := known_any p q HX0.out.2.2.2 w; rw [HX0.out.2.1] at this; exact this)
      have HSTT := Lib.hid (show ∀ w, Calls Try.prog 23 #[.agg #[.int .u16 (m : Nat)], .agg #[.bool p, .int .i64 q]] w fun e w' => e = .returned (.int .i64 1) ∧ Below w.heap.size w w' from fun w => by have := state_any m HML.out p q HX0.out.2.2.2 w; rw [HX0.out.2.2.1] at this; exact this)
      have KEEP := Lib.hid (show ∀ wx, Below wr.heap.size wr wx → wx.cell? ⟨b3, 0, none⟩ = some (.int .u16 (m : Nat)) ∧ wx.cell? ⟨g, o + i * 2, none⟩ = some (.bool p) ∧ wx.cell? ⟨g, o + i * 2 + 1, none⟩ = some (.int .i64 q) from fun wx hx => ⟨(one_cell (blk_below HNb3.out hx)).1, (hx.cell (World.block_lt_of_cell? wr _ HC01.out.1)).trans HC01.out.1, (hx.cell (World.block_lt_of_cell? wr _ HC01.out.2)).trans HC01.out.2⟩)
      go_upto_region 13 with (fail)
      refine wp_region_held_drew (S := (fun wx => wx.cell? ⟨b3, 0, none⟩ = some (.int .u16 (m : Nat)) ∧ wx.cell? ⟨g, o + i * 2, none⟩ = some (.bool p) ∧ wx.cell? ⟨g, o + i * 2 + 1, none⟩ = some (.int .i64 q))) (by kernel_rfl) (KEEP.out _ ((Below.refl _ _).drew)) (fun hHeld => ?_)
      obtain ⟨z13, hz13⟩ : ∃ X, X = wr.drew := ⟨_, rfl⟩
      have HX := Lib.hid (show Below wr.heap.size wr z13 by rw [hz13]; exact (Below.refl _ _).drew)
      replace hHeld := KEEP.out _ HX.out
      rw [← hz13]
      clear hz13
      refine tk 0 rfl (fun w hSw => by (try dsimp only at hSw); go_simp; try with_reducible rfl) ?_
      go_frame
      refine tk 1 rfl (fun w hSw => by (try dsimp only at hSw); go_simp; try with_reducible rfl) ?_
      go_frame
      refine tk 2 rfl (fun w hSw => by (try dsimp only at hSw); go_simp; try with_reducible rfl) ?_
      go_frame
      refine tk 3 rfl (fun w hSw => by (try dsimp only at hSw); go_simp; try with_reducible rfl) ?_
      go_frame
      refine tk 4 rfl (fun w hSw => by (try dsimp only at hSw); go_simp; try with_reducible rfl) ?_
      go_frame
      refine do_at (i := 5) rfl (by kernel_rfl) (by kernel_rfl) (fun K hK => ?_)
      go_simp
      refine (HIS.out _).mono ?_
      rintro e x1 ⟨rfl, bb⟩
      replace HX := Lib.hid (HX.out.trans (bb.mono HX.out.size))
      clear bb
      go_wp2_with fail
      refine hK.out _ _ (KEEP.out _ HX.out) (fun hHeld => ?_)
      clear hK K
      try go_frame
      refine tk 6 rfl (fun w hSw => by (try dsimp only at hSw); go_simp; try with_reducible rfl) ?_
      go_frame
      refine tk 7 rfl (fun w hSw => by (try dsimp only at hSw); go_simp; try with_reducible rfl) ?_
      go_frame
      refine tk 8 rfl (fun w hSw => by (try dsimp only at hSw); go_simp; try with_reducible rfl) ?_
      go_frame
      refine tk 9 rfl (fun w hSw => by (try dsimp only at hSw); go_simp; try with_reducible rfl) ?_
      go_frame
      refine tk 10 rfl (fun w hSw => by (try dsimp only at hSw); go_simp; try with_reducible rfl) ?_
      go_frame
      refine tk 11 rfl (fun w hSw => by (try dsimp only at hSw); go_simp; try with_reducible rfl) ?_
      go_frame
      refine do_at (i := 12) rfl (by kernel_rfl) (by kernel_rfl) (fun K hK => ?_)
      go_simp
      refine (HKN.out _).mono ?_
      rintro e x2 ⟨rfl, bb⟩
      replace HX := Lib.hid (HX.out.trans (bb.mono HX.out.size))
      clear bb
      go_wp2_with fail
      refine hK.out _ _ (KEEP.out _ HX.out) (fun hHeld => ?_)
      clear hK K
      try go_frame
      refine tk 13 rfl (fun w hSw => by (try dsimp only at hSw); go_simp; try with_reducible rfl) ?_
      go_frame
      refine tk 14 rfl (fun w hSw => by (try dsimp only at hSw); go_simp; try with_reducible rfl) ?_
      go_frame
      refine tk 15 rfl (fun w hSw => by (try dsimp only at hSw); go_simp; try with_reducible rfl) ?_
      go_frame
      refine tk 16 rfl (fun w hSw => by (try dsimp only at hSw); go_simp; try with_reducible rfl) ?_
      go_frame
      refine tk 17 rfl (fun w hSw => by (try dsimp only at hSw); go_simp; try with_reducible rfl) ?_
      go_frame
      refine tk 18 rfl (fun w hSw => by (try dsimp only at hSw); go_simp; try with_reducible rfl) ?_
      go_frame
      refine tk 19 rfl (fun w hSw => by (try dsimp only at hSw); go_simp; try with_reducible rfl) ?_
      go_frame
      refine tk 20 rfl (fun w hSw => by (try dsimp only at hSw); go_simp; try with_reducible rfl) ?_
      go_frame
      refine do_at (i := 21) rfl (by kernel_rfl) (by kernel_rfl) (fun K hK => ?_)
      go_simp
      refine (HSTT.out _).mono ?_
      rintro e x3 ⟨rfl, bb⟩
      replace HX := Lib.hid (HX.out.trans (bb.mono HX.out.size))
      clear bb
      go_wp2_with fail
      refine hK.out _ _ (KEEP.out _ HX.out) (fun hHeld => ?_)
      clear hK K
      try go_frame
      refine tk 22 rfl (fun w hSw => by (try dsimp only at hSw); go_simp; try with_reducible rfl) ?_
      go_frame
      refine tk 23 rfl (fun w hSw => by (try dsimp only at hSw); go_simp; try with_reducible rfl) ?_
      go_frame
      refine wpAnyH_done (by kernel_rfl) ?_ _
      have HZ := Lib.hid HX.out
      have HLK := Lib.hid (HLJ.out.below HX.out)
      clear HX hHeld KEEP HIS HKN HSTT
      by_cases hi0 : i = 0
      · have t0 : ((i : Int) == 0) = true := by rw [hi0]; rfl
        have t1 : ¬ (0 : Int) < (i : Int) := by omega
        have t2 : decide ((0 : Int) < (i : Int)) = false := decide_eq_false t1
        go_upto_region 15 with (fail)
        go_quiet (fail)
        go_wp2
        go_roundw
        case rel => exact ⟨i + 1, by go_num, Lib.hid HI1.out, Lib.hid (below_drewN (HY.out.trans (HZ.out.mono HY.out.size)) _)⟩
        case measure => simp only [intOf]; have := HI.out; have := HA.out.2.1; omega
      · obtain ⟨j, hj⟩ : ∃ j, i = j + 1 := ⟨i - 1, by omega⟩
        have HJ := Lib.hid hj
        obtain ⟨y, hy⟩ : ∃ y, y = A.getD j (false, 0) := ⟨_, rfl⟩
        have HLT := Lib.hid (show ltM y (p, q) = true by rw [hy, HXE.out, hj]; exact HA.out.2.2.2.2.2.2 j (by have := HI1.out; omega))
        obtain ⟨g', o', hla', d0, d1⟩ := HLK.out.at (i := j) (by have := HI1.out; omega)
        injection hla' with e1
        injection e1 with e1 e2 _
        subst e1 e2
        rw [← hy] at d0 d1
        clear hy
        obtain ⟨p', q'⟩ := y
        simp only [] at d0 d1
        have HC2 := Lib.hid (And.intro ((HZ.out.cell (World.block_lt_of_cell? wr _ HC01.out.1)).trans HC01.out.1) (And.intro ((HZ.out.cell (World.block_lt_of_cell? wr _ HC01.out.2)).trans HC01.out.2) (And.intro d0 d1)))
        have t1 : (0 : Int) < (i : Int) := by omega
        have t2 : decide ((0 : Int) < (i : Int)) = true := decide_eq_true t1
        have t3 : 0 < i := by omega
        have t4 : decide (0 < i) = true := decide_eq_true t3
        have u2 : IntKind.i64.wrap ((i : Int) - 1) = (j : Nat) := by rw [IntKind.wrap_i64]; have := HI.out; have := HA.out.2.1; omega
        have HLT2 := Lib.hid (show (p' = false ∧ p = true) ∨ (p' = p ∧ q' < q) from by
          have := HLT.out
          unfold ltM at this
          cases p' <;> cases p <;> simp at this ⊢ <;> exact this)
        have gi : i < k := HI1.out
        have gj : j < k := by omega
        clear hj HLT d0 d1 hi0
        have KEEP := Lib.hid (show ∀ wx, Below x3.heap.size x3 wx → wx.cell? ⟨g, o + i * 2, none⟩ = some (.bool p) ∧ wx.cell? ⟨g, o + i * 2 + 1, none⟩ = some (.int .i64 q) ∧ wx.cell? ⟨g, o + j * 2, none⟩ = some (.bool p') ∧ wx.cell? ⟨g, o + j * 2 + 1, none⟩ = some (.int .i64 q') from fun wx hx => ⟨(hx.cell (World.block_lt_of_cell? x3 _ HC2.out.1)).trans HC2.out.1, (hx.cell (World.block_lt_of_cell? x3 _ HC2.out.2.1)).trans HC2.out.2.1, (hx.cell (World.block_lt_of_cell? x3 _ HC2.out.2.2.1)).trans HC2.out.2.2.1, (hx.cell (World.block_lt_of_cell? x3 _ HC2.out.2.2.2)).trans HC2.out.2.2.2⟩)
        rcases HLT2.out with ⟨rfl, rfl⟩ | ⟨rfl, hlt⟩
        · go_upto_region 15 with (fail)
          refine wp_region_held_drew (S := (fun wx => wx.cell? ⟨g, o + i * 2, none⟩ = some (.bool true) ∧ wx.cell? ⟨g, o + i * 2 + 1, none⟩ = some (.int .i64 q) ∧ wx.cell? ⟨g, o + j * 2, none⟩ = some (.bool false) ∧ wx.cell? ⟨g, o + j * 2 + 1, none⟩ = some (.int .i64 q'))) (by kernel_rfl) (KEEP.out _ ((Below.refl _ _).drew)) (fun hHeld => ?_)
          obtain ⟨z15, hz15⟩ : ∃ X, X = x3.drew := ⟨_, rfl⟩
          have HX := Lib.hid (show Below x3.heap.size x3 z15 by rw [hz15]; exact (Below.refl _ _).drew)
          replace hHeld := KEEP.out _ HX.out
          rw [← hz15]
          clear hz15
          refine tk 0 rfl (fun w hSw => by (try dsimp only at hSw); go_simp; try with_reducible rfl) ?_
          go_frame
          refine tk 1 rfl (fun w hSw => by (try dsimp only at hSw); go_simp; try with_reducible rfl) ?_
          go_frame
          refine tk 2 rfl (fun w hSw => by (try dsimp only at hSw); go_simp; try with_reducible rfl) ?_
          go_frame
          refine tk 3 rfl (fun w hSw => by (try dsimp only at hSw); go_simp; try with_reducible rfl) ?_
          go_frame
          refine tk 4 rfl (fun w hSw => by (try dsimp only at hSw); go_simp; try with_reducible rfl) ?_
          go_frame
          refine tk 5 rfl (fun w hSw => by (try dsimp only at hSw); go_simp; try with_reducible rfl) ?_
          go_frame
          refine tk 6 rfl (fun w hSw => by (try dsimp only at hSw); go_simp; try with_reducible rfl) ?_
          go_frame
          refine tk 7 rfl (fun w hSw => by (try dsimp only at hSw); go_simp; try with_reducible rfl) ?_
          go_frame
          refine tk 8 rfl (fun w hSw => by (try dsimp only at hSw); go_simp; try with_reducible rfl) ?_
          go_frame
          refine tk 9 rfl (fun w hSw => by (try dsimp only at hSw); go_simp; try with_reducible rfl) ?_
          go_frame
          refine sk 10 rfl ?_
          go_frame
          refine sk 11 rfl ?_
          go_frame
          refine sk 12 rfl ?_
          go_frame
          refine sk 13 rfl ?_
          go_frame
          refine sk 14 rfl ?_
          go_frame
          refine sk 15 rfl ?_
          go_frame
          refine tk 16 rfl (fun w hSw => by (try dsimp only at hSw); go_simp; try with_reducible rfl) ?_
          go_frame
          refine tk 17 rfl (fun w hSw => by (try dsimp only at hSw); go_simp; try with_reducible rfl) ?_
          go_frame
          refine tk 18 rfl (fun w hSw => by (try dsimp only at hSw); go_simp; try with_reducible rfl) ?_
          go_frame
          refine tk 19 rfl (fun w hSw => by (try dsimp only at hSw); go_simp; try with_reducible rfl) ?_
          go_frame
          refine tk 20 rfl (fun w hSw => by (try dsimp only at hSw); go_simp; try with_reducible rfl) ?_
          go_frame
          refine tk 21 rfl (fun w hSw => by (try dsimp only at hSw); go_simp; try with_reducible rfl) ?_
          go_frame
          refine tk 22 rfl (fun w hSw => by (try dsimp only at hSw); go_simp; try with_reducible rfl) ?_
          go_frame
          refine tk 23 rfl (fun w hSw => by (try dsimp only at hSw); go_simp; try with_reducible rfl) ?_
          go_frame
          refine tk 24 rfl (fun w hSw => by (try dsimp only at hSw); go_simp; try with_reducible rfl) ?_
          go_frame
          refine tk 25 rfl (fun w hSw => by (try dsimp only at hSw); go_simp; try with_reducible rfl) ?_
          go_frame
          refine tk 26 rfl (fun w hSw => by (try dsimp only at hSw); go_simp; try with_reducible rfl) ?_
          go_frame
          refine tk 27 rfl (fun w hSw => by (try dsimp only at hSw); go_simp; try with_reducible rfl) ?_
          go_frame
          refine tk 28 rfl (fun w hSw => by (try dsimp only at hSw); go_simp; try with_reducible rfl) ?_
          go_frame
          refine tk 29 rfl (fun w hSw => by (try dsimp only at hSw); go_simp; try with_reducible rfl) ?_
          go_frame
          refine tk 30 rfl (fun w hSw => by (try dsimp only at hSw); go_simp; try with_reducible rfl) ?_
          go_frame
          refine sk 31 rfl ?_
          go_frame
          refine sk 32 rfl ?_
          go_frame
          refine sk 33 rfl ?_
          go_frame
          refine sk 34 rfl ?_
          go_frame
          refine sk 35 rfl ?_
          go_frame
          refine sk 36 rfl ?_
          go_frame
          refine sk 37 rfl ?_
          go_frame
          refine sk 38 rfl ?_
          go_frame
          refine sk 39 rfl ?_
          go_frame
          refine sk 40 rfl ?_
          go_frame
          refine sk 41 rfl ?_
          go_frame
          refine sk 42 rfl ?_
          go_frame
          refine tk 43 rfl (fun w hSw => by (try dsimp only at hSw); go_simp; try with_reducible rfl) ?_
          go_frame
          refine tk 44 rfl (fun w hSw => by (try dsimp only at hSw); go_simp; try with_reducible rfl) ?_
          go_frame
          refine tk 45 rfl (fun w hSw => by (try dsimp only at hSw); go_simp; try with_reducible rfl) ?_
          go_frame
          refine wpAnyH_done (by kernel_rfl) ?_ _
          go_wp2
          go_roundw
          case rel => exact ⟨i + 1, by go_num, Lib.hid HI1.out, Lib.hid (HY.out.trans ((HZ.out.trans (HX.out.mono HZ.out.size)).mono HY.out.size))⟩
          case measure => simp only [intOf]; have := HI.out; have := HA.out.2.1; omega
        · have s1 : ¬ q ≤ q' := by omega
          have s2 : decide (q ≤ q') = false := decide_eq_false s1
          have s3 : decide (q' ≥ q) = false := decide_eq_false s1
          cases p'
          · go_upto_region 15 with (fail)
            refine wp_region_held_drew (S := (fun wx => wx.cell? ⟨g, o + i * 2, none⟩ = some (.bool false) ∧ wx.cell? ⟨g, o + i * 2 + 1, none⟩ = some (.int .i64 q) ∧ wx.cell? ⟨g, o + j * 2, none⟩ = some (.bool false) ∧ wx.cell? ⟨g, o + j * 2 + 1, none⟩ = some (.int .i64 q'))) (by kernel_rfl) (KEEP.out _ ((Below.refl _ _).drew)) (fun hHeld => ?_)
            obtain ⟨z15, hz15⟩ : ∃ X, X = x3.drew := ⟨_, rfl⟩
            have HX := Lib.hid (show Below x3.heap.size x3 z15 by rw [hz15]; exact (Below.refl _ _).drew)
            replace hHeld := KEEP.out _ HX.out
            rw [← hz15]
            clear hz15
            refine tk 0 rfl (fun w hSw => by (try dsimp only at hSw); go_simp; try with_reducible rfl) ?_
            go_frame
            refine tk 1 rfl (fun w hSw => by (try dsimp only at hSw); go_simp; try with_reducible rfl) ?_
            go_frame
            refine tk 2 rfl (fun w hSw => by (try dsimp only at hSw); go_simp; try with_reducible rfl) ?_
            go_frame
            refine tk 3 rfl (fun w hSw => by (try dsimp only at hSw); go_simp; try with_reducible rfl) ?_
            go_frame
            refine tk 4 rfl (fun w hSw => by (try dsimp only at hSw); go_simp; try with_reducible rfl) ?_
            go_frame
            refine tk 5 rfl (fun w hSw => by (try dsimp only at hSw); go_simp; try with_reducible rfl) ?_
            go_frame
            refine tk 6 rfl (fun w hSw => by (try dsimp only at hSw); go_simp; try with_reducible rfl) ?_
            go_frame
            refine tk 7 rfl (fun w hSw => by (try dsimp only at hSw); go_simp; try with_reducible rfl) ?_
            go_frame
            refine tk 8 rfl (fun w hSw => by (try dsimp only at hSw); go_simp; try with_reducible rfl) ?_
            go_frame
            refine tk 9 rfl (fun w hSw => by (try dsimp only at hSw); go_simp; try with_reducible rfl) ?_
            go_frame
            refine sk 10 rfl ?_
            go_frame
            refine sk 11 rfl ?_
            go_frame
            refine sk 12 rfl ?_
            go_frame
            refine sk 13 rfl ?_
            go_frame
            refine sk 14 rfl ?_
            go_frame
            refine sk 15 rfl ?_
            go_frame
            refine tk 16 rfl (fun w hSw => by (try dsimp only at hSw); go_simp; try with_reducible rfl) ?_
            go_frame
            refine tk 17 rfl (fun w hSw => by (try dsimp only at hSw); go_simp; try with_reducible rfl) ?_
            go_frame
            refine tk 18 rfl (fun w hSw => by (try dsimp only at hSw); go_simp; try with_reducible rfl) ?_
            go_frame
            refine tk 19 rfl (fun w hSw => by (try dsimp only at hSw); go_simp; try with_reducible rfl) ?_
            go_frame
            refine tk 20 rfl (fun w hSw => by (try dsimp only at hSw); go_simp; try with_reducible rfl) ?_
            go_frame
            refine tk 21 rfl (fun w hSw => by (try dsimp only at hSw); go_simp; try with_reducible rfl) ?_
            go_frame
            refine tk 22 rfl (fun w hSw => by (try dsimp only at hSw); go_simp; try with_reducible rfl) ?_
            go_frame
            refine tk 23 rfl (fun w hSw => by (try dsimp only at hSw); go_simp; try with_reducible rfl) ?_
            go_frame
            refine tk 24 rfl (fun w hSw => by (try dsimp only at hSw); go_simp; try with_reducible rfl) ?_
            go_frame
            refine tk 25 rfl (fun w hSw => by (try dsimp only at hSw); go_simp; try with_reducible rfl) ?_
            go_frame
            refine tk 26 rfl (fun w hSw => by (try dsimp only at hSw); go_simp; try with_reducible rfl) ?_
            go_frame
            refine tk 27 rfl (fun w hSw => by (try dsimp only at hSw); go_simp; try with_reducible rfl) ?_
            go_frame
            refine tk 28 rfl (fun w hSw => by (try dsimp only at hSw); go_simp; try with_reducible rfl) ?_
            go_frame
            refine tk 29 rfl (fun w hSw => by (try dsimp only at hSw); go_simp; try with_reducible rfl) ?_
            go_frame
            refine tk 30 rfl (fun w hSw => by (try dsimp only at hSw); go_simp; try with_reducible rfl) ?_
            go_frame
            refine tk 31 rfl (fun w hSw => by (try dsimp only at hSw); go_simp; try with_reducible rfl) ?_
            go_frame
            refine tk 32 rfl (fun w hSw => by (try dsimp only at hSw); go_simp; try with_reducible rfl) ?_
            go_frame
            refine tk 33 rfl (fun w hSw => by (try dsimp only at hSw); go_simp; try with_reducible rfl) ?_
            go_frame
            refine tk 34 rfl (fun w hSw => by (try dsimp only at hSw); go_simp; try with_reducible rfl) ?_
            go_frame
            refine tk 35 rfl (fun w hSw => by (try dsimp only at hSw); go_simp; try with_reducible rfl) ?_
            go_frame
            refine tk 36 rfl (fun w hSw => by (try dsimp only at hSw); go_simp; try with_reducible rfl) ?_
            go_frame
            refine tk 37 rfl (fun w hSw => by (try dsimp only at hSw); go_simp; try with_reducible rfl) ?_
            go_frame
            refine tk 38 rfl (fun w hSw => by (try dsimp only at hSw); go_simp; try with_reducible rfl) ?_
            go_frame
            refine tk 39 rfl (fun w hSw => by (try dsimp only at hSw); go_simp; try with_reducible rfl) ?_
            go_frame
            refine tk 40 rfl (fun w hSw => by (try dsimp only at hSw); go_simp; try with_reducible rfl) ?_
            go_frame
            refine tk 41 rfl (fun w hSw => by (try dsimp only at hSw); go_simp; try with_reducible rfl) ?_
            go_frame
            refine tk 42 rfl (fun w hSw => by (try dsimp only at hSw); go_simp; try with_reducible rfl) ?_
            go_frame
            refine tk 43 rfl (fun w hSw => by (try dsimp only at hSw); go_simp; try with_reducible rfl) ?_
            go_frame
            refine tk 44 rfl (fun w hSw => by (try dsimp only at hSw); go_simp; try with_reducible rfl) ?_
            go_frame
            refine tk 45 rfl (fun w hSw => by (try dsimp only at hSw); go_simp; try with_reducible rfl) ?_
            go_frame
            refine wpAnyH_done (by kernel_rfl) ?_ _
            go_wp2
            go_roundw
            case rel => exact ⟨i + 1, by go_num, Lib.hid HI1.out, Lib.hid (HY.out.trans ((HZ.out.trans (HX.out.mono HZ.out.size)).mono HY.out.size))⟩
            case measure => simp only [intOf]; have := HI.out; have := HA.out.2.1; omega
          · go_upto_region 15 with (fail)
            refine wp_region_held_drew (S := (fun wx => wx.cell? ⟨g, o + i * 2, none⟩ = some (.bool true) ∧ wx.cell? ⟨g, o + i * 2 + 1, none⟩ = some (.int .i64 q) ∧ wx.cell? ⟨g, o + j * 2, none⟩ = some (.bool true) ∧ wx.cell? ⟨g, o + j * 2 + 1, none⟩ = some (.int .i64 q'))) (by kernel_rfl) (KEEP.out _ ((Below.refl _ _).drew)) (fun hHeld => ?_)
            obtain ⟨z15, hz15⟩ : ∃ X, X = x3.drew := ⟨_, rfl⟩
            have HX := Lib.hid (show Below x3.heap.size x3 z15 by rw [hz15]; exact (Below.refl _ _).drew)
            replace hHeld := KEEP.out _ HX.out
            rw [← hz15]
            clear hz15
            refine tk 0 rfl (fun w hSw => by (try dsimp only at hSw); go_simp; try with_reducible rfl) ?_
            go_frame
            refine tk 1 rfl (fun w hSw => by (try dsimp only at hSw); go_simp; try with_reducible rfl) ?_
            go_frame
            refine tk 2 rfl (fun w hSw => by (try dsimp only at hSw); go_simp; try with_reducible rfl) ?_
            go_frame
            refine tk 3 rfl (fun w hSw => by (try dsimp only at hSw); go_simp; try with_reducible rfl) ?_
            go_frame
            refine tk 4 rfl (fun w hSw => by (try dsimp only at hSw); go_simp; try with_reducible rfl) ?_
            go_frame
            refine tk 5 rfl (fun w hSw => by (try dsimp only at hSw); go_simp; try with_reducible rfl) ?_
            go_frame
            refine tk 6 rfl (fun w hSw => by (try dsimp only at hSw); go_simp; try with_reducible rfl) ?_
            go_frame
            refine tk 7 rfl (fun w hSw => by (try dsimp only at hSw); go_simp; try with_reducible rfl) ?_
            go_frame
            refine tk 8 rfl (fun w hSw => by (try dsimp only at hSw); go_simp; try with_reducible rfl) ?_
            go_frame
            refine tk 9 rfl (fun w hSw => by (try dsimp only at hSw); go_simp; try with_reducible rfl) ?_
            go_frame
            refine tk 10 rfl (fun w hSw => by (try dsimp only at hSw); go_simp; try with_reducible rfl) ?_
            go_frame
            refine tk 11 rfl (fun w hSw => by (try dsimp only at hSw); go_simp; try with_reducible rfl) ?_
            go_frame
            refine tk 12 rfl (fun w hSw => by (try dsimp only at hSw); go_simp; try with_reducible rfl) ?_
            go_frame
            refine tk 13 rfl (fun w hSw => by (try dsimp only at hSw); go_simp; try with_reducible rfl) ?_
            go_frame
            refine tk 14 rfl (fun w hSw => by (try dsimp only at hSw); go_simp; try with_reducible rfl) ?_
            go_frame
            refine tk 15 rfl (fun w hSw => by (try dsimp only at hSw); go_simp; try with_reducible rfl) ?_
            go_frame
            refine tk 16 rfl (fun w hSw => by (try dsimp only at hSw); go_simp; try with_reducible rfl) ?_
            go_frame
            refine tk 17 rfl (fun w hSw => by (try dsimp only at hSw); go_simp; try with_reducible rfl) ?_
            go_frame
            refine tk 18 rfl (fun w hSw => by (try dsimp only at hSw); go_simp; try with_reducible rfl) ?_
            go_frame
            refine tk 19 rfl (fun w hSw => by (try dsimp only at hSw); go_simp; try with_reducible rfl) ?_
            go_frame
            refine tk 20 rfl (fun w hSw => by (try dsimp only at hSw); go_simp; try with_reducible rfl) ?_
            go_frame
            refine tk 21 rfl (fun w hSw => by (try dsimp only at hSw); go_simp; try with_reducible rfl) ?_
            go_frame
            refine tk 22 rfl (fun w hSw => by (try dsimp only at hSw); go_simp; try with_reducible rfl) ?_
            go_frame
            refine tk 23 rfl (fun w hSw => by (try dsimp only at hSw); go_simp; try with_reducible rfl) ?_
            go_frame
            refine tk 24 rfl (fun w hSw => by (try dsimp only at hSw); go_simp; try with_reducible rfl) ?_
            go_frame
            refine tk 25 rfl (fun w hSw => by (try dsimp only at hSw); go_simp; try with_reducible rfl) ?_
            go_frame
            refine tk 26 rfl (fun w hSw => by (try dsimp only at hSw); go_simp; try with_reducible rfl) ?_
            go_frame
            refine tk 27 rfl (fun w hSw => by (try dsimp only at hSw); go_simp; try with_reducible rfl) ?_
            go_frame
            refine tk 28 rfl (fun w hSw => by (try dsimp only at hSw); go_simp; try with_reducible rfl) ?_
            go_frame
            refine tk 29 rfl (fun w hSw => by (try dsimp only at hSw); go_simp; try with_reducible rfl) ?_
            go_frame
            refine tk 30 rfl (fun w hSw => by (try dsimp only at hSw); go_simp; try with_reducible rfl) ?_
            go_frame
            refine tk 31 rfl (fun w hSw => by (try dsimp only at hSw); go_simp; try with_reducible rfl) ?_
            go_frame
            refine tk 32 rfl (fun w hSw => by (try dsimp only at hSw); go_simp; try with_reducible rfl) ?_
            go_frame
            refine tk 33 rfl (fun w hSw => by (try dsimp only at hSw); go_simp; try with_reducible rfl) ?_
            go_frame
            refine tk 34 rfl (fun w hSw => by (try dsimp only at hSw); go_simp; try with_reducible rfl) ?_
            go_frame
            refine tk 35 rfl (fun w hSw => by (try dsimp only at hSw); go_simp; try with_reducible rfl) ?_
            go_frame
            refine tk 36 rfl (fun w hSw => by (try dsimp only at hSw); go_simp; try with_reducible rfl) ?_
            go_frame
            refine tk 37 rfl (fun w hSw => by (try dsimp only at hSw); go_simp; try with_reducible rfl) ?_
            go_frame
            refine tk 38 rfl (fun w hSw => by (try dsimp only at hSw); go_simp; try with_reducible rfl) ?_
            go_frame
            refine tk 39 rfl (fun w hSw => by (try dsimp only at hSw); go_simp; try with_reducible rfl) ?_
            go_frame
            refine tk 40 rfl (fun w hSw => by (try dsimp only at hSw); go_simp; try with_reducible rfl) ?_
            go_frame
            refine tk 41 rfl (fun w hSw => by (try dsimp only at hSw); go_simp; try with_reducible rfl) ?_
            go_frame
            refine tk 42 rfl (fun w hSw => by (try dsimp only at hSw); go_simp; try with_reducible rfl) ?_
            go_frame
            refine tk 43 rfl (fun w hSw => by (try dsimp only at hSw); go_simp; try with_reducible rfl) ?_
            go_frame
            refine tk 44 rfl (fun w hSw => by (try dsimp only at hSw); go_simp; try with_reducible rfl) ?_
            go_frame
            refine tk 45 rfl (fun w hSw => by (try dsimp only at hSw); go_simp; try with_reducible rfl) ?_
            go_frame
            refine wpAnyH_done (by kernel_rfl) ?_ _
            go_wp2
            go_roundw
            case rel => exact ⟨i + 1, by go_num, Lib.hid HI1.out, Lib.hid (HY.out.trans ((HZ.out.trans (HX.out.mono HZ.out.size)).mono HY.out.size))⟩
            case measure => simp only [intOf]; have := HI.out; have := HA.out.2.1; omega
    · have hik : ¬ (i : Int) < (k : Int) := by omega
      obtain ⟨z, hz⟩ : ∃ z, z = isM m (true, 47) := ⟨_, rfl⟩
      have HI47 := Lib.hid (fun w => is_any m HML.out true 47 (by decide) w)
      have HI1047 := Lib.hid (fun w => is_any m HML.out true 1047 (by decide) w)
      have HI1049 := Lib.hid (fun w => is_any m HML.out true 1049 (by decide) w)
      rw [(three_one m).1] at HI1047
      rw [(three_one m).2] at HI1049
      rw [← hz] at HI47 HI1047 HI1049
      clear hz
      have KEEP := Lib.hid (show ∀ wx, Below wr.heap.size wr wx → wx.cell? ⟨b3, 0, none⟩ = some (.int .u16 (m : Nat)) from fun wx hx => (one_cell (blk_below HNb3.out hx)).1)
      go_upto_region 17 with (fail)
      refine wp_region_held_drew (S := (fun wx => wx.cell? ⟨b3, 0, none⟩ = some (.int .u16 (m : Nat)))) (by kernel_rfl) (KEEP.out _ ((Below.refl _ _).drew)) (fun hHeld => ?_)
      obtain ⟨z17, hz17⟩ : ∃ X, X = wr.drew := ⟨_, rfl⟩
      have HX := Lib.hid (show Below wr.heap.size wr z17 by rw [hz17]; exact (Below.refl _ _).drew)
      replace hHeld := KEEP.out _ HX.out
      rw [← hz17]
      clear hz17
      refine tk 0 rfl (fun w hSw => by (try dsimp only at hSw); go_simp; try with_reducible rfl) ?_
      go_frame
      refine tk 3 rfl (fun w hSw => by (try dsimp only at hSw); go_simp; try with_reducible rfl) ?_
      go_frame
      refine do_at (i := 1) rfl (by kernel_rfl) (by kernel_rfl) (fun K hK => ?_)
      go_simp
      refine (priv_any 47 _).mono ?_
      rintro e x1 ⟨rfl, bb⟩
      replace HX := Lib.hid (HX.out.trans (bb.mono HX.out.size))
      clear bb
      go_wp2_with fail
      refine hK.out _ _ (KEEP.out _ HX.out) (fun hHeld => ?_)
      clear hK K
      try go_frame
      refine do_at (i := 2) rfl (by kernel_rfl) (by kernel_rfl) (fun K hK => ?_)
      go_simp
      refine (HI47.out _).mono ?_
      rintro e x2 ⟨rfl, bb⟩
      replace HX := Lib.hid (HX.out.trans (bb.mono HX.out.size))
      clear bb
      go_wp2_with fail
      refine hK.out _ _ (KEEP.out _ HX.out) (fun hHeld => ?_)
      clear hK K
      try go_frame
      refine do_at (i := 4) rfl (by kernel_rfl) (by kernel_rfl) (fun K hK => ?_)
      go_simp
      refine (priv_any 1047 _).mono ?_
      rintro e x3 ⟨rfl, bb⟩
      replace HX := Lib.hid (HX.out.trans (bb.mono HX.out.size))
      clear bb
      go_wp2_with fail
      refine hK.out _ _ (KEEP.out _ HX.out) (fun hHeld => ?_)
      clear hK K
      try go_frame
      refine do_at (i := 5) rfl (by kernel_rfl) (by kernel_rfl) (fun K hK => ?_)
      go_simp
      refine (HI1047.out _).mono ?_
      rintro e x4 ⟨rfl, bb⟩
      replace HX := Lib.hid (HX.out.trans (bb.mono HX.out.size))
      clear bb
      go_wp2_with fail
      refine hK.out _ _ (KEEP.out _ HX.out) (fun hHeld => ?_)
      clear hK K
      try go_frame
      refine tk 6 rfl (fun w hSw => by (try dsimp only at hSw); go_simp; try with_reducible rfl) ?_
      go_frame
      refine tk 7 rfl (fun w hSw => by (try dsimp only at hSw); go_simp; try with_reducible rfl) ?_
      go_frame
      refine tk 8 rfl (fun w hSw => by (try dsimp only at hSw); go_simp; try with_reducible rfl) ?_
      go_frame
      refine tk 11 rfl (fun w hSw => by (try dsimp only at hSw); go_simp; try with_reducible rfl) ?_
      go_frame
      refine do_at (i := 9) rfl (by kernel_rfl) (by kernel_rfl) (fun K hK => ?_)
      go_simp
      refine (priv_any 47 _).mono ?_
      rintro e x5 ⟨rfl, bb⟩
      replace HX := Lib.hid (HX.out.trans (bb.mono HX.out.size))
      clear bb
      go_wp2_with fail
      refine hK.out _ _ (KEEP.out _ HX.out) (fun hHeld => ?_)
      clear hK K
      try go_frame
      refine do_at (i := 10) rfl (by kernel_rfl) (by kernel_rfl) (fun K hK => ?_)
      go_simp
      refine (HI47.out _).mono ?_
      rintro e x6 ⟨rfl, bb⟩
      replace HX := Lib.hid (HX.out.trans (bb.mono HX.out.size))
      clear bb
      go_wp2_with fail
      refine hK.out _ _ (KEEP.out _ HX.out) (fun hHeld => ?_)
      clear hK K
      try go_frame
      refine do_at (i := 12) rfl (by kernel_rfl) (by kernel_rfl) (fun K hK => ?_)
      go_simp
      refine (priv_any 1049 _).mono ?_
      rintro e x7 ⟨rfl, bb⟩
      replace HX := Lib.hid (HX.out.trans (bb.mono HX.out.size))
      clear bb
      go_wp2_with fail
      refine hK.out _ _ (KEEP.out _ HX.out) (fun hHeld => ?_)
      clear hK K
      try go_frame
      refine do_at (i := 13) rfl (by kernel_rfl) (by kernel_rfl) (fun K hK => ?_)
      go_simp
      refine (HI1049.out _).mono ?_
      rintro e x8 ⟨rfl, bb⟩
      replace HX := Lib.hid (HX.out.trans (bb.mono HX.out.size))
      clear bb
      go_wp2_with fail
      refine hK.out _ _ (KEEP.out _ HX.out) (fun hHeld => ?_)
      clear hK K
      try go_frame
      refine tk 14 rfl (fun w hSw => by (try dsimp only at hSw); go_simp; try with_reducible rfl) ?_
      go_frame
      refine tk 15 rfl (fun w hSw => by (try dsimp only at hSw); go_simp; try with_reducible rfl) ?_
      go_frame
      refine tk 16 rfl (fun w hSw => by (try dsimp only at hSw); go_simp; try with_reducible rfl) ?_
      go_frame
      refine wpAnyH_done (by kernel_rfl) ?_ _
      go_wp2
      go_ret
      exact ⟨by first | rfl | (show Ending.returned (.bool (z == z)) = _; rw [beq_self_eq_true]), HB.out.trans (HX.out.mono HB.out.size)⟩
end Go.Proofs.Ytjdfinimbdcmbaa.Lab
