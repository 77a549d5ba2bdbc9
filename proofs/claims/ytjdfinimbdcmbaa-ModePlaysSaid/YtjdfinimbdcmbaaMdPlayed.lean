/- Modes behind acts. -/
import Derived.Test.YtjdfinimbdcmbaaMdOpen
import Derived.Test.YtjdfinimbdcmbaaMdWorks
import Derived.Test.YtjdfinimbdcmbaaRfTwo
set_option linter.unusedVariables false
namespace Go.Proofs.Ytjdfinimbdcmbaa.Lab
open Go Go.RowKit Go.Shelf

/-- What an act does. -/
def actS (s : Nat) (a : Ac) : Nat := if a.what % 8 = 7 then softM s else putL (decide (a.what % 8 < 4)) s ((a.l.take 20).map nearM)
theorem actS_lt {s : Nat} (a : Ac) (h : s < 2048) : actS s a < 2048 := by
  unfold actS
  split
  · exact softM_lt h
  · exact putL_lt h
def runS (AL : List Ac) (k : Nat) : Nat := (AL.take k).foldl actS 96
theorem runS_zero (AL : List Ac) : runS AL 0 = 96 := rfl
theorem runS_more {AL : List Ac} {i : Nat} (h : i < AL.length) : runS AL (i + 1) = actS (runS AL i) (AcK AL i) := by
  unfold runS
  rw [List.take_succ_eq_append_getElem h, List.foldl_append, AcK_eq h]
  rfl
theorem fold_lt : ∀ (l : List Ac) (s : Nat), s < 2048 → l.foldl actS s < 2048
  | [], _, h => h
  | a :: l, s, h => fold_lt l _ (actS_lt a h)
theorem runS_lt (AL : List Ac) (k : Nat) : runS AL k < 2048 := fold_lt _ _ (by decide)
def playS (AL : List Ac) : Nat := runS AL 40
theorem playS_lt (AL : List Ac) : playS AL < 2048 := runS_lt AL 40
theorem runS_end {AL : List Ac} {k : Nat} (h : AL.length ≤ k) : runS AL k = runS AL AL.length := by
  unfold runS
  rw [List.take_of_length_le h, List.take_of_length_le (Nat.le_refl _)]
set_option maxHeartbeats 4000000 in
set_option maxRecDepth 100000 in
theorem played_any (la : Option Addr) (n lc : Nat) (AL : List Ac) (w : World) (h : AcsIn w (.slice la n lc) AL) : Calls Try.prog 27 #[.slice la n lc] w fun e w' => e = .returned (.agg #[.int .u16 (playS AL : Nat)]) ∧ Below w.heap.size w w' := by
  have hl : AL.length = n := by obtain ⟨a, c, e⟩ := h.shape; injection e with _ e _; exact e.symm
  have HLN := Lib.hid hl
  have HM := Lib.hid (show n ≤ 9223372036854775807 by have := h.maxl; unfold maxLen at this; omega)
  have HAC := Lib.hid h
  obtain ⟨G, hG⟩ : ∃ G : Nat → Nat, G = runS AL := ⟨_, rfl⟩
  have HG := Lib.hid (show G 0 = 96 ∧ (∀ i, i < n → G (i + 1) = actS (G i) (AcK AL i)) ∧ (∀ k, G k < 2048) ∧ ∀ k, (k = 40 ∨ (k = n ∧ k ≤ 40)) → playS AL = G k by
    rw [hG]
    refine ⟨rfl, fun i hi => runS_more (by omega), runS_lt AL, ?_⟩
    rintro k (rfl | ⟨rfl, h2⟩)
    · rfl
    · unfold playS
      rw [runS_end (by omega), hl])
  clear hl h hG
  obtain ⟨b0, hb0⟩ : ∃ b, b = w.heap.size := ⟨_, rfl⟩
  obtain ⟨w1, hw1⟩ : ∃ x, x = w.alloc (.cells #[.int .u16 0] 27) := ⟨_, rfl⟩
  have HB1 := Lib.hid (show Below w.heap.size w w1 by rw [hw1]; exact (Below.refl _ _).alloc (Nat.le_refl _) _)
  have HN0 := Lib.hid (show w1.heap[b0]? = some (.cells #[.int .u16 0] 27 (0, 0)) ∧ w.heap.size ≤ b0 from ⟨by rw [hw1, hb0]; exact World.alloc_heap_new _ _, by rw [hb0]; exact Nat.le_refl _⟩)
  go_enter Try.func27, Try.ntmps27
  go_upto_region 1 with (fail)
  rw [← hw1, ← hb0]
  clear hw1 hb0
  go_wp2_with fail
  refine (mnew_any _).mono ?_
  rintro e w2 ⟨rfl, bb⟩
  obtain ⟨b, hb⟩ : ∃ b, b = w2.heap.size := ⟨_, rfl⟩
  obtain ⟨w3, hw3⟩ : ∃ x, x = w2.alloc (.cells #[.int .u16 96] 27) := ⟨_, rfl⟩
  have k3 : Below w2.heap.size w2 w3 := by rw [hw3]; exact (Below.refl _ _).alloc (Nat.le_refl _) _
  have HS := Lib.hid (show Below w.heap.size w w3 ∧ w3.heap[b]? = some (.cells #[.int .u16 (G 0 : Nat)] 27 (0, 0)) ∧ w3.heap[b0]? = some (.cells #[.int .u16 0] 27 (0, 0)) ∧ b0 < b from by
    have h2 := (bb.block b0 (Array.getElem?_eq_some_iff.1 HN0.out.1).1).trans HN0.out.1
    have hlt := (Array.getElem?_eq_some_iff.1 h2).1
    refine ⟨(HB1.out.trans (bb.mono HB1.out.size)).trans (k3.mono (Nat.le_trans HB1.out.size bb.size)), ?_, (k3.block b0 hlt).trans h2, by omega⟩
    rw [hw3, hb, HG.out.1]
    exact World.alloc_heap_new _ _)
  clear bb k3 HB1
  go_upto_region 2 with (fail)
  rw [← hw3, ← hb]
  clear hw3 hb
  go_wp2_with fail
  go_loopw [4] (fun v wr => ∃ k : Nat, v = .int .i64 (k : Nat) ∧ Hid (k ≤ n ∧ k ≤ 40) ∧ Hid (Below w.heap.size w wr ∧ wr.heap[b]? = some (.cells #[.int .u16 (G k : Nat)] 27 (0, 0)) ∧ wr.heap[b0]? = some (.cells #[.int .u16 0] 27 (0, 0)))) (fun v wr => 60 - (intOf v).toNat)
  case atStart => exact ⟨0, rfl, Lib.hid ⟨Nat.zero_le _, Nat.zero_le _⟩, Lib.hid ⟨HS.out.1, HS.out.2.1, HS.out.2.2.1⟩⟩
  case round =>
    obtain ⟨k, rfl, HK, HP⟩ := hrel
    have HBB := Lib.hid (show w.heap.size ≤ b0 ∧ b0 < b from ⟨HN0.out.2, HS.out.2.2.2⟩)
    have u1 : IntKind.i64.wrap ((k : Int) + 1) = ((k + 1 : Nat) : Int) := by rw [IntKind.wrap_i64]; have := HK.out; omega
    by_cases h1 : k < n
    · by_cases h2 : k < 40
      · have g2 : (k : Int) < 40 := by omega
        have HH := Lib.hid (And.intro h1 h2)
        obtain ⟨g, o, u, hla, c0, c1, hmo, hwt⟩ := (HAC.out.below HP.out.1).at (i := k) (by rw [HLN.out]; exact h1)
        have HGk := Lib.hid (HG.out.2.1 k h1)
        obtain ⟨a, ha⟩ : ∃ a, a = AcK AL k := ⟨_, rfl⟩
        rw [← ha] at c0 hmo hwt HGk
        have HGL := Lib.hid (HG.out.2.2.1 k)
        obtain ⟨s, hs⟩ : ∃ s, s = G k := ⟨_, rfl⟩
        obtain ⟨s', hs'⟩ : ∃ s, s = G (k + 1) := ⟨_, rfl⟩
        rw [← hs] at HP HGk HGL
        rw [← hs'] at HGk
        have HSS := Lib.hid hs'
        clear ha hs hs'
        subst hla
        obtain ⟨ua, uc, hu⟩ := hmo.1.shape
        subst hu
        obtain ⟨nl, hnl⟩ : ∃ n, n = a.l.length := ⟨_, rfl⟩
        rw [← hnl] at c1 hmo
        have HNL := Lib.hid hnl
        clear hnl
        have HMO := Lib.hid hmo
        obtain ⟨q, hq⟩ : ∃ q, q = a.what % 8 := ⟨_, rfl⟩
        have r1 : ((a.what : Nat) : Int).tmod 8 = (q : Nat) := by rw [hq, Int.tmod_eq_emod_of_nonneg (by omega)]; rfl
        have r2 : ((a.what : Nat) : Int) % 8 = (q : Nat) := by rw [hq]; rfl
        have r3 : IntKind.u8.wrap ((q : Nat) : Int) = (q : Nat) := by
          have : q < 8 := by omega
          rw [IntKind.wrap_u8]
          omega
        have HQ := Lib.hid hq
        clear hq hmo hwt
        have e0 := (one_cell HP.out.2.1).1
        have f0 := (one_cell HP.out.2.1).2
        by_cases h7 : q = 7
        · have g7 : ((q : Int) == 7) = true := by rw [h7]; rfl
          have g7' : decide ((q : Int) = 7) = true := by rw [h7]; rfl
          have HSO := Lib.hid (show s' = softM s by rw [HGk.out]; unfold actS; rw [if_pos (by rw [← HQ.out]; exact h7)])
          clear h7
          go_wp2_with fail
          refine (soft_any s HGL.out _).mono ?_
          rintro e w5 ⟨rfl, bb⟩
          rw [← HSO.out]
          have HB5 := Lib.hid (HP.out.1.trans (bb.mono HP.out.1.size))
          have HR5 := Lib.hid (And.intro ((bb.block b (Array.getElem?_eq_some_iff.1 HP.out.2.1).1).trans HP.out.2.1) ((bb.block b0 (Array.getElem?_eq_some_iff.1 HP.out.2.2).1).trans HP.out.2.2))
          clear bb e0 f0 c0 c1
          have e0 := (one_cell HR5.out.1).1
          have f0 := (one_cell HR5.out.1).2
          go_wp2
          go_roundw
          case rel =>
            refine ⟨k + 1, by go_num, Lib.hid ⟨HH.out.1, HH.out.2⟩, Lib.hid ⟨?_, ?_, ?_⟩⟩
            · exact HB5.out.trans ((But.set w5 b 0 _).below (by have := HBB.out; omega) HB5.out.size)
            · rw [← HSS.out]
              exact one_setCell HR5.out.1
            · exact ((But.set w5 b 0 _).block b0 (Array.getElem?_eq_some_iff.1 HR5.out.2).1 (by have := HBB.out; simp; omega)).trans HR5.out.2
          case measure => simp only [intOf]; have := HK.out; omega
        · have g7 : ((q : Int) == 7) = false := by rw [beq_eq_false_iff_ne]; omega
          have g7' : decide ((q : Int) = 7) = false := decide_eq_false (by omega)
          obtain ⟨on, hon⟩ : ∃ on, on = decide (q < 4) := ⟨_, rfl⟩
          have HPU := Lib.hid (show s' = putL on s ((a.l.take 20).map nearM) by rw [HGk.out, hon, HQ.out]; unfold actS; rw [if_neg (by rw [← HQ.out]; exact h7)])
          have g4 : decide ((q : Int) < 4) = on := by rw [hon]; exact decide_eq_decide.2 (by omega)
          clear h7 hon
          obtain ⟨R, hR⟩ : ∃ R, R = (a.l.take 20).map nearM := ⟨_, rfl⟩
          rw [← hR] at HPU
          have HRR := Lib.hid (show R.length ≤ 20 ∧ ∀ x ∈ R, wfM x from ⟨by rw [hR]; simp; omega, fun x hx => by
            rw [hR] at hx
            obtain ⟨y, hy, rfl⟩ := List.mem_map.1 hx
            exact nearN_wf (HMO.out.2 y (List.mem_of_mem_take hy))⟩)
          have HROW := Lib.hid (fun wx (h : MoIn wx (.slice ua nl uc) a.l) (hl : a.l.length ≤ 9223372036854775807) => row_any (.slice ua nl uc) a.l R hR wx h hl)
          clear hR
          have KEEP := Lib.hid (show ∀ wx, Below wr.heap.size wr wx → wx.cell? ⟨b, 0, none⟩ = some (.int .u16 (s : Nat)) ∧ wx.cell? ⟨g, o + k * 2, none⟩ = some (.int .u8 (a.what : Nat)) ∧ wx.cell? ⟨g, o + k * 2 + 1, none⟩ = some (.slice ua nl uc) from fun wx hx => ⟨(hx.cell (World.block_lt_of_cell? wr _ e0)).trans e0, (hx.cell (World.block_lt_of_cell? wr _ c0)).trans c0, (hx.cell (World.block_lt_of_cell? wr _ c1)).trans c1⟩)
          go_upto_region 7 with (fail)
          clear e0 f0 c0 c1
          refine region_but (S := (fun wx => wx.cell? ⟨b, 0, none⟩ = some (.int .u16 (s : Nat)) ∧ wx.cell? ⟨g, o + k * 2, none⟩ = some (.int .u8 (a.what : Nat)) ∧ wx.cell? ⟨g, o + k * 2 + 1, none⟩ = some (.slice ua nl uc))) 18 (by kernel_rfl) (KEEP.out _ ((Below.refl _ _).drew)) (fun hHeld => ?_)
          obtain ⟨wz, hwz⟩ : ∃ X, X = wr.drew := ⟨_, rfl⟩
          have HX := Lib.hid (show Below wr.heap.size wr wz by rw [hwz]; exact (Below.refl _ _).drew)
          replace hHeld := KEEP.out _ HX.out
          rw [← hwz]
          clear hwz
          refine ti 0 rfl (fun w hSw => by (try dsimp only at hSw); go_simp; try with_reducible rfl) ?_
          go_frame
          refine ti 1 rfl (fun w hSw => by (try dsimp only at hSw); go_simp; try with_reducible rfl) ?_
          go_frame
          refine ti 2 rfl (fun w hSw => by (try dsimp only at hSw); go_simp; try with_reducible rfl) ?_
          go_frame
          refine ti 3 rfl (fun w hSw => by (try dsimp only at hSw); go_simp; try with_reducible rfl) ?_
          go_frame
          refine ti 4 rfl (fun w hSw => by (try dsimp only at hSw); go_simp; try with_reducible rfl) ?_
          go_frame
          refine ti 5 rfl (fun w hSw => by (try dsimp only at hSw); go_simp; try with_reducible rfl) ?_
          go_frame
          refine ti 6 rfl (fun w hSw => by (try dsimp only at hSw); go_simp; try with_reducible rfl) ?_
          go_frame
          refine ti 7 rfl (fun w hSw => by (try dsimp only at hSw); go_simp; try with_reducible rfl) ?_
          go_frame
          refine ti 8 rfl (fun w hSw => by (try dsimp only at hSw); go_simp; try with_reducible rfl) ?_
          go_frame
          refine ti 9 rfl (fun w hSw => by (try dsimp only at hSw); go_simp; try with_reducible rfl) ?_
          go_frame
          refine ti 10 rfl (fun w hSw => by (try dsimp only at hSw); go_simp; try with_reducible rfl) ?_
          go_frame
          refine ti 11 rfl (fun w hSw => by (try dsimp only at hSw); go_simp; try with_reducible rfl) ?_
          go_frame
          refine ti 12 rfl (fun w hSw => by (try dsimp only at hSw); go_simp; try with_reducible rfl) ?_
          go_frame
          refine th 13 rfl (by kernel_rfl) (by decide) (by kernel_rfl) (fun K hK => ?_)
          go_simp
          refine (HROW.out _ (HMO.out.1.below (HX.out)) (by have := HNL.out; have := HMO.out.1; obtain ⟨_, _, _, hm, _⟩ := this; exact hm)).mono ?_
          rintro e w5 ⟨v5, rfl, hO, bb⟩
          have HO := Lib.hid (moIn_own hO (by have := HRR.out.1; omega))
          clear hO
          replace HX := Lib.hid (HX.out.trans (bb.mono HX.out.size))
          clear bb
          go_wp2_with fail
          refine hK.out _ _ (KEEP.out _ HX.out) (fun hHeld => ?_)
          clear hK K
          try go_frame
          obtain ⟨ra, rc, rfl⟩ := HO.out.shape
          refine th 14 rfl (by kernel_rfl) (by decide) (by kernel_rfl) (fun K hK => ?_)
          go_simp
          refine (put_any s HGL.out on _ R _ HO.out HRR.out.2 (by have := HRR.out.1; omega)).mono ?_
          rintro e w6 ⟨rfl, bb⟩
          replace HX := Lib.hid (HX.out.trans (bb.mono HX.out.size))
          clear bb
          go_wp2_with fail
          refine hK.out _ _ (KEEP.out _ HX.out) (fun hHeld => ?_)
          clear hK K
          try go_frame
          rw [← HPU.out]
          refine ti 15 rfl (fun w hSw => by (try dsimp only at hSw); go_simp; try with_reducible rfl) ?_
          go_frame
          refine ti 16 rfl (fun w hSw => by (try dsimp only at hSw); go_simp; try with_reducible rfl) ?_
          go_frame
          have HR6 := Lib.hid (And.intro ((HX.out.block b (Array.getElem?_eq_some_iff.1 HP.out.2.1).1).trans HP.out.2.1) ((HX.out.block b0 (Array.getElem?_eq_some_iff.1 HP.out.2.2).1).trans HP.out.2.2))
          have HB6 := Lib.hid (HP.out.1.trans (HX.out.mono HP.out.1.size))
          have e0 := (one_cell HR6.out.1).1
          have f0 := (one_cell HR6.out.1).2
          obtain ⟨w7, hw7⟩ : ∃ x, x = w6.setCell ⟨b, 0, none⟩ (.int .u16 (s' : Nat)) := ⟨_, rfl⟩
          have HW7 := Lib.hid hw7
          refine txi 17 (w7 := w7) rfl rfl (by kernel_rfl) (by decide) (by kernel_rfl) (by kernel_rfl) (by kernel_rfl) (by kernel_rfl) (by kernel_rfl) (by kernel_rfl) (by kernel_rfl) hHeld (fun w => by go_simp; try with_reducible rfl) ?_ ?_ ?_
          · intro K' hK'
            simp only [Act.put, List.setIfInBounds_toArray, List.set_cons_zero, List.set_cons_succ] at hK' ⊢
            go_simp
            rw [← hw7]
            exact hK'
          · intro K' hK'
            go_simp
            rw [← hw7]
            exact hK'
          clear hHeld KEEP hw7 e0 f0
          try go_frame
          go_wp2
          go_roundw
          case rel =>
            refine ⟨k + 1, by go_num, Lib.hid ⟨HH.out.1, HH.out.2⟩, Lib.hid ⟨?_, ?_, ?_⟩⟩
            · rw [HW7.out]
              exact HB6.out.trans ((But.set w6 b 0 _).below (by have := HBB.out; omega) HB6.out.size)
            · rw [← HSS.out, HW7.out]
              exact one_setCell HR6.out.1
            · rw [HW7.out]
              exact ((But.set w6 b 0 _).block b0 (Array.getElem?_eq_some_iff.1 HR6.out.2).1 (by have := HBB.out; simp; omega)).trans HR6.out.2
          case measure => simp only [intOf]; have := HK.out; omega
      · have g2 : ¬ (k : Int) < 40 := by omega
        obtain ⟨r, hr⟩ : ∃ r, r = G k := ⟨_, rfl⟩
        have HE := Lib.hid (show playS AL = r by rw [hr]; exact HG.out.2.2.2 k (.inl (by have := HK.out; omega)))
        rw [← hr] at HP
        clear hr
        have e0 := (one_cell HP.out.2.1).1
        have d0 := (one_cell HP.out.2.2).1
        have f0 := (one_cell HP.out.2.2).2
        go_wp2
        refine bodyPost_ret (v := .agg #[.int .u16 (r : Nat)]) (by simp [results, Try.results27, go_sem, d0]) rfl ⟨by rw [HE.out], ?_⟩
        exact HP.out.1.trans ((But.set wr b0 0 (.int .u16 (r : Nat))).below HN0.out.2 HP.out.1.size)
    · have g1 : ¬ (k : Int) < (n : Int) := by omega
      obtain ⟨r, hr⟩ : ∃ r, r = G k := ⟨_, rfl⟩
      have HE := Lib.hid (show playS AL = r by rw [hr]; exact HG.out.2.2.2 k (.inr (by have := HK.out; omega)))
      rw [← hr] at HP
      clear hr
      have e0 := (one_cell HP.out.2.1).1
      have d0 := (one_cell HP.out.2.2).1
      have f0 := (one_cell HP.out.2.2).2
      go_wp2
      refine bodyPost_ret (v := .agg #[.int .u16 (r : Nat)]) (by simp [results, Try.results27, go_sem, d0]) rfl ⟨by rw [HE.out], ?_⟩
      exact HP.out.1.trans ((But.set wr b0 0 (.int .u16 (r : Nat))).below HN0.out.2 HP.out.1.size)
end Go.Proofs.Ytjdfinimbdcmbaa.Lab
