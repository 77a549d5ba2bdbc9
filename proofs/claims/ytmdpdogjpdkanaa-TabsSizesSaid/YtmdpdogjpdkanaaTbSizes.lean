/- Made longer, made shorter: TabsSizes. -/
import Derived.Test.YtmdpdogjpdkanaaTbWorks
import Derived.Test.YtmdpdogjpdkanaaTbOpen
import Derived.Laws.Cover1
set_option linter.unusedVariables false
namespace Go.Proofs.Ytmdpdogjpdkanaa.Lab
open Go Go.RowKit Go.Shelf

/-- Acts, one behind the other, but for some. -/
def actS (a : Ac) (t : Tb) : Tb := if a.what % 9 < 6 then doT a t else t
def runS (AL : List Ac) (t : Tb) (i : Nat) : Tb := (AL.take i).foldl (fun t a => actS a t) t
theorem runS_zero (AL : List Ac) (t : Tb) : runS AL t 0 = t := rfl
theorem runS_more {AL : List Ac} (t : Tb) {i : Nat} (h : i < AL.length) : runS AL t (i + 1) = actS (AcK AL i) (runS AL t i) := by
  unfold runS
  rw [List.take_succ_eq_append_getElem h, List.foldl_append, AcK_eq h]
  rfl
theorem runS_ok {AL : List Ac} {t : Tb} (h : t.Ok) : ∀ i, (runS AL t i).Ok := by
  intro i
  unfold runS
  generalize AL.take i = K
  induction K generalizing t with
  | nil => exact h
  | cons a K ih =>
    have : (actS a t).Ok := by
      unfold actS
      split
      · exact doT_ok h
      · exact h
    exact ih this
theorem res_has (L : List Bool) (n1 n2 c : Nat) (hc : c < n2) : hasM (resL (resL L n1) n2) (c : Nat) = if c < min (min L.length n1) n2 then hasM L (c : Nat) else firstB c := by
  have e : ∀ M : List Bool, hasM M (c : Nat) = M.getD c false := fun M => by
    unfold hasM
    rw [decide_eq_true (by omega), Int.toNat_natCast]
    rfl
  rw [e, e, getD_resL, if_pos hc, len_resL, getD_resL]
  by_cases h1 : c < n1
  · rw [if_pos h1, if_pos h1]
    by_cases h2 : c < L.length
    · rw [if_pos h2, if_pos (by omega)]
    · rw [if_neg h2, if_neg (by omega)]
  · rw [if_neg h1, if_neg (by omega)]
theorem res_self {t : Tb} (h : t.Ok) : (t.res (t.L.length : Nat)).L = t.L := by
  have hn : szN ((t.L.length : Nat) : Int) = t.L.length := by have := h.len; unfold szN inN; omega
  unfold Tb.res
  rw [hn]
  refine bools_ext (by simp [resL]) fun j hj => ?_
  rw [len_resL] at hj
  rw [getD_resL, if_pos hj, if_pos hj]
set_option maxHeartbeats 8000000 in
set_option maxRecDepth 100000 in
theorem sizes_core (nx ny nz : Nat) (hx : nx < 65536) (hy : ny < 65536) (hz : nz < 65536) (la : Option Addr) (ln lc : Nat) (AL : List Ac) (w : World) (h : AcsIn w (.slice la ln lc) AL) : Calls Try.prog 7 #[.agg #[.int .u16 (nx : Nat), .int .u16 (ny : Nat), .int .u16 (nz : Nat)], .slice la ln lc] w fun e w' => e = .returned (.bool true) ∧ Below w.heap.size w w' := by
  have HAC := Lib.hid h
  have HLN := Lib.hid (show AL.length = ln by obtain ⟨a, c, e⟩ := h.shape; injection e with _ e _; exact e.symm)
  have HML := Lib.hid (show ln ≤ maxLen by rw [← HLN.out]; exact h.maxl)
  clear h
  obtain ⟨cx, hcx⟩ : ∃ cx, cx = nx % 600 := ⟨_, rfl⟩
  have r1 : ((nx : Nat) : Int).tmod 600 = (cx : Nat) := by rw [hcx, Int.tmod_eq_emod_of_nonneg (by omega)]; rfl
  have r2 : ((nx : Nat) : Int) % 600 = (cx : Nat) := by rw [hcx]; rfl
  have r3 : IntKind.i64.wrap ((cx : Nat) : Int) = (cx : Nat) := by rw [IntKind.wrap_i64]; omega
  have Hcx := Lib.hid (show cx < 600 by omega)
  clear hcx
  obtain ⟨cy, hcy⟩ : ∃ cy, cy = ny % 600 := ⟨_, rfl⟩
  have s1 : ((ny : Nat) : Int).tmod 600 = (cy : Nat) := by rw [hcy, Int.tmod_eq_emod_of_nonneg (by omega)]; rfl
  have s2 : ((ny : Nat) : Int) % 600 = (cy : Nat) := by rw [hcy]; rfl
  have s3 : IntKind.i64.wrap ((cy : Nat) : Int) = (cy : Nat) := by rw [IntKind.wrap_i64]; omega
  have Hcy := Lib.hid (show cy < 600 by omega)
  clear hcy
  obtain ⟨cz, hcz⟩ : ∃ cz, cz = nz % 600 := ⟨_, rfl⟩
  have t1 : ((nz : Nat) : Int).tmod 600 = (cz : Nat) := by rw [hcz, Int.tmod_eq_emod_of_nonneg (by omega)]; rfl
  have t2 : ((nz : Nat) : Int) % 600 = (cz : Nat) := by rw [hcz]; rfl
  have t3 : IntKind.i64.wrap ((cz : Nat) : Int) = (cz : Nat) := by rw [IntKind.wrap_i64]; omega
  have Hcz := Lib.hid (show cz < 600 by omega)
  clear hcz
  obtain ⟨T0, hT0⟩ : ∃ T0, T0 = newM (cx : Nat) 0 := ⟨_, rfl⟩
  have HNEW := Lib.hid (fun w => new_any (cx : Nat) 0 w)
  have HOK0 := Lib.hid (show T0.Ok by rw [hT0]; exact newM_ok _ (by decide))
  rw [← hT0] at HNEW
  clear hT0 hx hy hz
  obtain ⟨b2, hb2⟩ : ∃ b, b = w.heap.size := ⟨_, rfl⟩
  obtain ⟨w1, hw1⟩ : ∃ x, x = w.alloc (.cells #[.int .u16 (nx : Nat), .int .u16 (ny : Nat), .int .u16 (nz : Nat)] 57) := ⟨_, rfl⟩
  have HB := Lib.hid (show Below w.heap.size w w1 by rw [hw1]; exact (Below.refl _ _).alloc (Nat.le_refl _) _)
  have HA3 := Lib.hid (show w1.cell? ⟨b2, 0, none⟩ = some (.int .u16 (nx : Nat)) ∧ w1.cell? ⟨b2, 1, none⟩ = some (.int .u16 (ny : Nat)) ∧ w1.cell? ⟨b2, 2, none⟩ = some (.int .u16 (nz : Nat)) by rw [hw1, hb2]; simp)
  have H3 := Lib.hid (show ∀ wx, Below w1.heap.size w1 wx → wx.cell? ⟨b2, 0, none⟩ = some (.int .u16 (nx : Nat)) ∧ wx.cell? ⟨b2, 1, none⟩ = some (.int .u16 (ny : Nat)) ∧ wx.cell? ⟨b2, 2, none⟩ = some (.int .u16 (nz : Nat)) from fun wx hx => ⟨(hx.cell (World.block_lt_of_cell? w1 _ HA3.out.1)).trans HA3.out.1, (hx.cell (World.block_lt_of_cell? w1 _ HA3.out.2.1)).trans HA3.out.2.1, (hx.cell (World.block_lt_of_cell? w1 _ HA3.out.2.2)).trans HA3.out.2.2⟩)
  clear HA3
  go_enter Try.func7, Try.ntmps7
  go_upto_region 1 with (fail)
  rw [← hw1, ← hb2]
  clear hw1 hb2
  go_wp2_with fail
  refine (works_any _).mono ?_
  rintro e y1 ⟨rfl, bb⟩
  have HX1 := Lib.hid bb
  clear bb
  obtain ⟨a0, a1, a2⟩ := H3.out _ HX1.out
  go_wp2_with fail
  refine (HNEW.out _).mono ?_
  rintro e y2 ⟨rfl, bb⟩
  have HX2 := Lib.hid (HX1.out.trans (bb.mono HX1.out.size))
  clear bb HNEW r1 r2 r3 a0 a1 a2 HX1
  obtain ⟨bT, hbT⟩ : ∃ b, b = y2.heap.size := ⟨_, rfl⟩
  obtain ⟨y3, hy3⟩ : ∃ x, x = y2.alloc (.cells (tbC T0) TB) := ⟨_, rfl⟩
  have bb : Below y2.heap.size y2 y3 := by rw [hy3]; exact (Below.refl _ _).alloc (Nat.le_refl _) _
  have HX3 := Lib.hid (HX2.out.trans (bb.mono HX2.out.size))
  have HBT := Lib.hid (show w1.heap.size ≤ bT by rw [hbT]; exact HX2.out.size)
  have HT0 := Lib.hid (show Below w1.heap.size w1 y3 ∧ TbAt y3 bT (runS AL T0 0) from ⟨HX3.out, by unfold TbAt; rw [runS_zero, hy3, hbT]; exact World.alloc_heap_new y2 _⟩)
  replace HAC := Lib.hid (HAC.out.below HB.out)
  clear bb
  go_upto_block 0 with (fail)
  rw [← hy3, ← hbT]
  clear hy3 hbT HX2 HX3
  go_cut [] (fun wc => ∃ i : Nat, Hid (Below w1.heap.size w1 wc ∧ TbAt wc bT (runS AL T0 i)))
  case first =>
    go_wp2_with fail
    go_loopw [6] (fun v wr => ∃ i : Nat, v = .int .i64 (i : Nat) ∧ Hid (i ≤ ln ∧ i ≤ 20) ∧ Hid (Below w1.heap.size w1 wr ∧ TbAt wr bT (runS AL T0 i))) (fun v wr => 30 - (intOf v).toNat)
    case atStart => exact ⟨0, rfl, Lib.hid ⟨Nat.zero_le _, Nat.zero_le _⟩, HT0⟩
    case round =>
      obtain ⟨i, rfl, HI, HK⟩ := hrel
      by_cases h1 : i < ln
      · by_cases h2 : i < 20
        · have g2 : (i : Int) < 20 := by omega
          have H12 := Lib.hid (And.intro h1 h2)
          obtain ⟨g, o, u, hla, a0, a1, a2, a3, hs, hok⟩ := (HAC.out.below HK.out.1).at (i := i) (by rw [HLN.out]; exact h1)
          obtain ⟨tn, htn⟩ : ∃ tn, tn = runS AL T0 (i + 1) := ⟨_, rfl⟩
          have HTN := Lib.hid htn
          rw [runS_more T0 (by rw [HLN.out]; exact h1)] at htn
          have htok := runS_ok (AL := AL) HOK0.out i
          obtain ⟨t, ht⟩ : ∃ t, t = runS AL T0 i := ⟨_, rfl⟩
          rw [← ht] at HK htn htok
          obtain ⟨a, ha⟩ : ∃ a, a = AcK AL i := ⟨_, rfl⟩
          rw [← ha] at htn a0 a1 a3 hs hok
          obtain ⟨r, hr⟩ : ∃ r, r = a.what % 9 := ⟨_, rfl⟩
          have v1 : ((a.what : Nat) : Int).tmod 9 = (r : Nat) := by rw [hr, Int.tmod_eq_emod_of_nonneg (by omega)]; rfl
          have v2 : ((a.what : Nat) : Int) % 9 = (r : Nat) := by rw [hr]; rfl
          have u1 : IntKind.i64.wrap ((i : Int) + 1) = ((i + 1 : Nat) : Int) := by rw [IntKind.wrap_i64]; omega
          subst hla
          unfold actS at htn
          rw [← hr] at htn
          clear ht ha hr
          by_cases h6 : r < 6
          · have g6 : (r : Int) < 6 := by omega
            rw [if_pos h6] at htn
            have HD := Lib.hid (fun w (h : S16 w u a.l) => does_any a u t hok htok w h)
            rw [← htn] at HD
            have HS := Lib.hid hs
            clear htn hs hok htok h6
            have KEEP := Lib.hid (show ∀ wx, Below wr.heap.size wr wx → (wx.cell? ⟨g, o + i * 4, none⟩ = some (.int .u8 (a.what : Nat)) ∧ wx.cell? ⟨g, o + i * 4 + 1, none⟩ = some (.bool a.high) ∧ wx.cell? ⟨g, o + i * 4 + 2, none⟩ = some u ∧ wx.cell? ⟨g, o + i * 4 + 3, none⟩ = some (.int .i16 a.cols)) ∧ wx.cell? ⟨bT, 0, none⟩ = some (wV t.L 0) ∧ wx.cell? ⟨bT, 1, none⟩ = some (wV t.L 1) ∧ wx.cell? ⟨bT, 2, none⟩ = some (wV t.L 2) ∧ wx.cell? ⟨bT, 3, none⟩ = some (wV t.L 3) ∧ wx.cell? ⟨bT, 4, none⟩ = some (wV t.L 4) ∧ wx.cell? ⟨bT, 5, none⟩ = some (wV t.L 5) ∧ wx.cell? ⟨bT, 6, none⟩ = some (wV t.L 6) ∧ wx.cell? ⟨bT, 7, none⟩ = some (wV t.L 7) ∧ wx.cell? ⟨bT, 8, none⟩ = some (.int .i64 (t.L.length : Nat)) ∧ wx.cell? ⟨bT, 9, none⟩ = some (.int .u8 (t.b : Nat)) ∧ wx.cell? ⟨bT, 10, none⟩ = some (.int .u8 (t.l : Nat)) from fun wx hx => ⟨⟨(hx.cell (World.block_lt_of_cell? wr _ a0)).trans a0, (hx.cell (World.block_lt_of_cell? wr _ a1)).trans a1, (hx.cell (World.block_lt_of_cell? wr _ a2)).trans a2, (hx.cell (World.block_lt_of_cell? wr _ a3)).trans a3⟩, (HK.out.2.below hx).cells⟩)
            obtain ⟨c0, c1, c2, c3, c4, c5, c6, c7, c8, c9, c10⟩ := HK.out.2.cells
            go_upto_region 8 with (fail)
            clear a0 a1 a2 a3 c0 c1 c2 c3 c4 c5 c6 c7 c8 c9 c10
            refine region_but (S := (fun wx => (wx.cell? ⟨g, o + i * 4, none⟩ = some (.int .u8 (a.what : Nat)) ∧ wx.cell? ⟨g, o + i * 4 + 1, none⟩ = some (.bool a.high) ∧ wx.cell? ⟨g, o + i * 4 + 2, none⟩ = some u ∧ wx.cell? ⟨g, o + i * 4 + 3, none⟩ = some (.int .i16 a.cols)) ∧ wx.cell? ⟨bT, 0, none⟩ = some (wV t.L 0) ∧ wx.cell? ⟨bT, 1, none⟩ = some (wV t.L 1) ∧ wx.cell? ⟨bT, 2, none⟩ = some (wV t.L 2) ∧ wx.cell? ⟨bT, 3, none⟩ = some (wV t.L 3) ∧ wx.cell? ⟨bT, 4, none⟩ = some (wV t.L 4) ∧ wx.cell? ⟨bT, 5, none⟩ = some (wV t.L 5) ∧ wx.cell? ⟨bT, 6, none⟩ = some (wV t.L 6) ∧ wx.cell? ⟨bT, 7, none⟩ = some (wV t.L 7) ∧ wx.cell? ⟨bT, 8, none⟩ = some (.int .i64 (t.L.length : Nat)) ∧ wx.cell? ⟨bT, 9, none⟩ = some (.int .u8 (t.b : Nat)) ∧ wx.cell? ⟨bT, 10, none⟩ = some (.int .u8 (t.l : Nat)))) 6 (by kernel_rfl) (KEEP.out _ ((Below.refl _ _).drew)) (fun hHeld => ?_)
            obtain ⟨wz, hwz⟩ : ∃ X, X = wr.drew := ⟨_, rfl⟩
            have HX := Lib.hid (show Below wr.heap.size wr wz by rw [hwz]; exact (Below.refl _ _).drew)
            replace hHeld := KEEP.out _ HX.out
            rw [← hwz]
            clear hwz
            refine ti 0 rfl (fun w hSw => by (try dsimp only at hSw); go_simp; try with_reducible rfl) ?_
            go_frame
            refine ti 1 rfl (fun w hSw => by (try dsimp only at hSw); go_simp; try with_reducible rfl) ?_
            go_frame
            refine ti 2 rfl (fun w hSw => by (try dsimp only at hSw); go_simp; try with_reducible rfl) ?_
            go_frame
            refine ti 3 rfl (fun w hSw => by (try dsimp only at hSw); go_simp; try with_reducible rfl) ?_
            go_frame
            refine ti 4 rfl (fun w hSw => by (try dsimp only at hSw); go_simp; try with_reducible rfl) ?_
            go_frame
            refine th 5 rfl (by kernel_rfl) (by decide) (by kernel_rfl) (fun K hK => ?_)
            go_simp
            refine (HD.out _ (HS.out.below HX.out)).mono ?_
            rintro e wd ⟨rfl, bb⟩
            replace HX := Lib.hid (HX.out.trans (bb.mono HX.out.size))
            clear bb
            go_wp2_with fail
            refine hK.out _ _ (KEEP.out _ HX.out) (fun hHeld => ?_)
            clear hK K
            try go_frame
            obtain ⟨d0, d1, d2, d3, d4, d5, d6, d7, d8, d9, d10⟩ := (HK.out.2.below HX.out).cells
            have f := zeros_at (HK.out.2.below HX.out)
            have f0 := f 0
            have f1 := f 1
            have f2 := f 2
            have f3 := f 3
            have f4 := f 4
            have f5 := f 5
            have f6 := f 6
            have f7 := f 7
            have f8 := f 8
            have f9 := f 9
            have f10 := f 10
            clear f
            refine tx rfl (by kernel_rfl) (by kernel_rfl) (by kernel_rfl) (fun K hK => ?_)
            go_simp
            refine hK.out _ _ ?_
            clear hK K hHeld KEEP
            try go_frame
            go_wp2
            go_roundw
            case rel =>
              refine ⟨i + 1, by go_num, Lib.hid ⟨H12.out.1, H12.out.2⟩, Lib.hid ⟨?_, ?_⟩⟩
              · exact (HK.out.1.trans (HX.out.mono HK.out.1.size)).trans ((putT_below (b := bT) (Nat.le_refl _) tn).mono HBT.out)
              · rw [← HTN.out]
                exact putT_at (HK.out.2.below HX.out) tn
            case measure => simp only [intOf]; have := H12.out; omega
          · have g6 : ¬ (r : Int) < 6 := by omega
            rw [if_neg h6] at htn
            clear h6 hs hok htok
            have HTN2 := Lib.hid htn
            clear htn
            go_wp2
            go_roundw
            case rel =>
              refine ⟨i + 1, by go_num, Lib.hid ⟨H12.out.1, H12.out.2⟩, Lib.hid ⟨HK.out.1, ?_⟩⟩
              rw [← HTN.out, HTN2.out]
              exact HK.out.2
            case measure => simp only [intOf]; have := H12.out; omega
        · have g2 : ¬ (i : Int) < 20 := by omega
          go_wp2
          go_meet
          case rel => exact ⟨i, Lib.hid HK.out⟩
      · go_wp2
        go_meet
        case rel => exact ⟨i, Lib.hid HK.out⟩
  case rest =>
    obtain ⟨i, HC⟩ := hcut
    have HOK := Lib.hid (runS_ok (AL := AL) HOK0.out i)
    obtain ⟨t, ht⟩ : ∃ t, t = runS AL T0 i := ⟨_, rfl⟩
    rw [← ht] at HC HOK
    clear ht HT0 HOK0 HAC
    obtain ⟨w4, hw4⟩ : ∃ x, x = wc := ⟨_, rfl⟩
    rw [← hw4] at HC ⊢
    clear hw4
    obtain ⟨tA, htA⟩ : ∃ A, A = t.res (cy : Nat) := ⟨_, rfl⟩
    obtain ⟨tC, htC⟩ : ∃ C, C = tA.res (cz : Nat) := ⟨_, rfl⟩
    have HOA := Lib.hid (show tA.Ok by rw [htA]; exact HOK.out.res _)
    have HOC := Lib.hid (show tC.Ok by rw [htC]; exact HOA.out.res _)
    have HRA := Lib.hid (fun w => res_any t HOK.out (cy : Nat) w)
    have HRC := Lib.hid (fun w => res_any tA HOA.out (cz : Nat) w)
    rw [← htA] at HRA
    rw [← htC] at HRC
    have HLC := Lib.hid (show tC.l = t.l ∧ tC.L.length = min 512 cz ∧ tA.L.length = min 512 cy by
      rw [htC, htA]
      have := Hcy.out
      have := Hcz.out
      refine ⟨rfl, ?_, ?_⟩
      · simp only [Tb.res, len_resL]
        unfold szN inN
        omega
      · simp only [Tb.res, len_resL]
        unfold szN inN
        omega)
    have HWH := Lib.hid (show ∀ c, c < tC.L.length → hasM tC.L (c : Nat) = if c < min (min t.L.length tA.L.length) tC.L.length then hasM t.L (c : Nat) else firstB c by
      rw [htC, htA]
      simp only [Tb.res, len_resL]
      exact fun c hc => res_has t.L _ _ c hc)
    clear htA htC
    obtain ⟨a0, a1, a2⟩ := H3.out _ HC.out.1
    obtain ⟨c0, c1, c2, c3, c4, c5, c6, c7, c8, c9, c10⟩ := HC.out.2.cells
    go_wp2_with fail
    refine (HRA.out _).mono ?_
    rintro e y4 ⟨rfl, bb⟩
    have HT4 := Lib.hid (HC.out.2.below bb)
    have HX4 := Lib.hid (HC.out.1.trans (bb.mono HC.out.1.size))
    clear bb HRA a0 a1 a2 c0 c1 c2 c3 c4 c5 c6 c7 c8 c9 c10 s1 s2 s3 HC
    obtain ⟨bA, hbA⟩ : ∃ b, b = y4.heap.size := ⟨_, rfl⟩
    obtain ⟨y5, hy5⟩ : ∃ x, x = y4.alloc (.cells (tbC tA) TB) := ⟨_, rfl⟩
    have bb : Below y4.heap.size y4 y5 := by rw [hy5]; exact (Below.refl _ _).alloc (Nat.le_refl _) _
    have HTA5 := Lib.hid (show TbAt y5 bA tA by unfold TbAt; rw [hy5, hbA]; exact World.alloc_heap_new y4 _)
    have HT5 := Lib.hid (HT4.out.below bb)
    have HX5 := Lib.hid (HX4.out.trans (bb.mono HX4.out.size))
    clear bb
    go_upto_region 10 with (fail)
    rw [← hy5, ← hbA]
    clear hy5 hbA HT4 HX4
    obtain ⟨a0, a1, a2⟩ := H3.out _ HX5.out
    obtain ⟨c0, c1, c2, c3, c4, c5, c6, c7, c8, c9, c10⟩ := HTA5.out.cells
    go_wp2_with fail
    refine (HRC.out _).mono ?_
    rintro e y6 ⟨rfl, bb⟩
    have HT6 := Lib.hid (HT5.out.below bb)
    have HTA6 := Lib.hid (HTA5.out.below bb)
    have HX6 := Lib.hid (HX5.out.trans (bb.mono HX5.out.size))
    clear bb HRC a0 a1 a2 c0 c1 c2 c3 c4 c5 c6 c7 c8 c9 c10 HT5 HTA5 HX5
    obtain ⟨bC, hbC⟩ : ∃ b, b = y6.heap.size := ⟨_, rfl⟩
    obtain ⟨y7, hy7⟩ : ∃ x, x = y6.alloc (.cells (tbC tC) TB) := ⟨_, rfl⟩
    have bb : Below y6.heap.size y6 y7 := by rw [hy7]; exact (Below.refl _ _).alloc (Nat.le_refl _) _
    have HTC7 := Lib.hid (show TbAt y7 bC tC by unfold TbAt; rw [hy7, hbC]; exact World.alloc_heap_new y6 _)
    have HT7 := Lib.hid (HT6.out.below bb)
    have HTA7 := Lib.hid (HTA6.out.below bb)
    have HX7 := Lib.hid (HX6.out.trans (bb.mono HX6.out.size))
    clear bb
    go_upto_region 11 with (fail)
    rw [← hy7, ← hbC]
    clear hy7 hbC HT6 HTA6 HX6
    obtain ⟨lw, hlw⟩ : ∃ lw, lw = min (min t.L.length tA.L.length) tC.L.length := ⟨_, rfl⟩
    rw [← hlw] at HWH
    have HLW := Lib.hid hlw
    clear hlw
    have HCT := Lib.hid (fun w => cols_any t w)
    have HCA := Lib.hid (fun w => cols_any tA w)
    have HCC := Lib.hid (fun w => cols_any tC w)
    have KEEP := Lib.hid (show ∀ wx, Below y7.heap.size y7 wx → (wx.cell? ⟨bT, 0, none⟩ = some (wV t.L 0) ∧ wx.cell? ⟨bT, 1, none⟩ = some (wV t.L 1) ∧ wx.cell? ⟨bT, 2, none⟩ = some (wV t.L 2) ∧ wx.cell? ⟨bT, 3, none⟩ = some (wV t.L 3) ∧ wx.cell? ⟨bT, 4, none⟩ = some (wV t.L 4) ∧ wx.cell? ⟨bT, 5, none⟩ = some (wV t.L 5) ∧ wx.cell? ⟨bT, 6, none⟩ = some (wV t.L 6) ∧ wx.cell? ⟨bT, 7, none⟩ = some (wV t.L 7) ∧ wx.cell? ⟨bT, 8, none⟩ = some (.int .i64 (t.L.length : Nat)) ∧ wx.cell? ⟨bT, 9, none⟩ = some (.int .u8 (t.b : Nat)) ∧ wx.cell? ⟨bT, 10, none⟩ = some (.int .u8 (t.l : Nat))) ∧ (wx.cell? ⟨bA, 0, none⟩ = some (wV tA.L 0) ∧ wx.cell? ⟨bA, 1, none⟩ = some (wV tA.L 1) ∧ wx.cell? ⟨bA, 2, none⟩ = some (wV tA.L 2) ∧ wx.cell? ⟨bA, 3, none⟩ = some (wV tA.L 3) ∧ wx.cell? ⟨bA, 4, none⟩ = some (wV tA.L 4) ∧ wx.cell? ⟨bA, 5, none⟩ = some (wV tA.L 5) ∧ wx.cell? ⟨bA, 6, none⟩ = some (wV tA.L 6) ∧ wx.cell? ⟨bA, 7, none⟩ = some (wV tA.L 7) ∧ wx.cell? ⟨bA, 8, none⟩ = some (.int .i64 (tA.L.length : Nat)) ∧ wx.cell? ⟨bA, 9, none⟩ = some (.int .u8 (tA.b : Nat)) ∧ wx.cell? ⟨bA, 10, none⟩ = some (.int .u8 (tA.l : Nat))) ∧ wx.cell? ⟨bC, 0, none⟩ = some (wV tC.L 0) ∧ wx.cell? ⟨bC, 1, none⟩ = some (wV tC.L 1) ∧ wx.cell? ⟨bC, 2, none⟩ = some (wV tC.L 2) ∧ wx.cell? ⟨bC, 3, none⟩ = some (wV tC.L 3) ∧ wx.cell? ⟨bC, 4, none⟩ = some (wV tC.L 4) ∧ wx.cell? ⟨bC, 5, none⟩ = some (wV tC.L 5) ∧ wx.cell? ⟨bC, 6, none⟩ = some (wV tC.L 6) ∧ wx.cell? ⟨bC, 7, none⟩ = some (wV tC.L 7) ∧ wx.cell? ⟨bC, 8, none⟩ = some (.int .i64 (tC.L.length : Nat)) ∧ wx.cell? ⟨bC, 9, none⟩ = some (.int .u8 (tC.b : Nat)) ∧ wx.cell? ⟨bC, 10, none⟩ = some (.int .u8 (tC.l : Nat)) from fun wx hx => ⟨(HT7.out.below hx).cells, (HTA7.out.below hx).cells, (HTC7.out.below hx).cells⟩)
    go_cut [9] (fun v9 wc => v9 = .int .i64 (lw : Nat) ∧ Hid (Below y7.heap.size y7 wc))
    case first =>
      refine region_but (S := (fun wx => (wx.cell? ⟨bT, 0, none⟩ = some (wV t.L 0) ∧ wx.cell? ⟨bT, 1, none⟩ = some (wV t.L 1) ∧ wx.cell? ⟨bT, 2, none⟩ = some (wV t.L 2) ∧ wx.cell? ⟨bT, 3, none⟩ = some (wV t.L 3) ∧ wx.cell? ⟨bT, 4, none⟩ = some (wV t.L 4) ∧ wx.cell? ⟨bT, 5, none⟩ = some (wV t.L 5) ∧ wx.cell? ⟨bT, 6, none⟩ = some (wV t.L 6) ∧ wx.cell? ⟨bT, 7, none⟩ = some (wV t.L 7) ∧ wx.cell? ⟨bT, 8, none⟩ = some (.int .i64 (t.L.length : Nat)) ∧ wx.cell? ⟨bT, 9, none⟩ = some (.int .u8 (t.b : Nat)) ∧ wx.cell? ⟨bT, 10, none⟩ = some (.int .u8 (t.l : Nat))) ∧ (wx.cell? ⟨bA, 0, none⟩ = some (wV tA.L 0) ∧ wx.cell? ⟨bA, 1, none⟩ = some (wV tA.L 1) ∧ wx.cell? ⟨bA, 2, none⟩ = some (wV tA.L 2) ∧ wx.cell? ⟨bA, 3, none⟩ = some (wV tA.L 3) ∧ wx.cell? ⟨bA, 4, none⟩ = some (wV tA.L 4) ∧ wx.cell? ⟨bA, 5, none⟩ = some (wV tA.L 5) ∧ wx.cell? ⟨bA, 6, none⟩ = some (wV tA.L 6) ∧ wx.cell? ⟨bA, 7, none⟩ = some (wV tA.L 7) ∧ wx.cell? ⟨bA, 8, none⟩ = some (.int .i64 (tA.L.length : Nat)) ∧ wx.cell? ⟨bA, 9, none⟩ = some (.int .u8 (tA.b : Nat)) ∧ wx.cell? ⟨bA, 10, none⟩ = some (.int .u8 (tA.l : Nat))) ∧ wx.cell? ⟨bC, 0, none⟩ = some (wV tC.L 0) ∧ wx.cell? ⟨bC, 1, none⟩ = some (wV tC.L 1) ∧ wx.cell? ⟨bC, 2, none⟩ = some (wV tC.L 2) ∧ wx.cell? ⟨bC, 3, none⟩ = some (wV tC.L 3) ∧ wx.cell? ⟨bC, 4, none⟩ = some (wV tC.L 4) ∧ wx.cell? ⟨bC, 5, none⟩ = some (wV tC.L 5) ∧ wx.cell? ⟨bC, 6, none⟩ = some (wV tC.L 6) ∧ wx.cell? ⟨bC, 7, none⟩ = some (wV tC.L 7) ∧ wx.cell? ⟨bC, 8, none⟩ = some (.int .i64 (tC.L.length : Nat)) ∧ wx.cell? ⟨bC, 9, none⟩ = some (.int .u8 (tC.b : Nat)) ∧ wx.cell? ⟨bC, 10, none⟩ = some (.int .u8 (tC.l : Nat)))) 7 (by kernel_rfl) (KEEP.out _ ((Below.refl _ _).drew)) (fun hHeld => ?_)
      obtain ⟨wz, hwz⟩ : ∃ X, X = y7.drew := ⟨_, rfl⟩
      have HX := Lib.hid (show Below y7.heap.size y7 wz by rw [hwz]; exact (Below.refl _ _).drew)
      replace hHeld := KEEP.out _ HX.out
      rw [← hwz]
      clear hwz
      refine ti 0 rfl (fun w hSw => by (try dsimp only at hSw); go_simp; try with_reducible rfl) ?_
      go_frame
      refine ti 2 rfl (fun w hSw => by (try dsimp only at hSw); go_simp; try with_reducible rfl) ?_
      go_frame
      refine ti 4 rfl (fun w hSw => by (try dsimp only at hSw); go_simp; try with_reducible rfl) ?_
      go_frame
      refine th 1 rfl (by kernel_rfl) (by decide) (by kernel_rfl) (fun K hK => ?_)
      go_simp
      refine (HCT.out _).mono ?_
      rintro e z1 ⟨rfl, bb⟩
      replace HX := Lib.hid (HX.out.trans (bb.mono HX.out.size))
      clear bb
      go_wp2_with fail
      refine hK.out _ _ (KEEP.out _ HX.out) (fun hHeld => ?_)
      clear hK K
      try go_frame
      refine th 3 rfl (by kernel_rfl) (by decide) (by kernel_rfl) (fun K hK => ?_)
      go_simp
      refine (HCA.out _).mono ?_
      rintro e z2 ⟨rfl, bb⟩
      replace HX := Lib.hid (HX.out.trans (bb.mono HX.out.size))
      clear bb
      go_wp2_with fail
      refine hK.out _ _ (KEEP.out _ HX.out) (fun hHeld => ?_)
      clear hK K
      try go_frame
      refine th 5 rfl (by kernel_rfl) (by decide) (by kernel_rfl) (fun K hK => ?_)
      go_simp
      refine (HCC.out _).mono ?_
      rintro e z3 ⟨rfl, bb⟩
      replace HX := Lib.hid (HX.out.trans (bb.mono HX.out.size))
      clear bb
      go_wp2_with fail
      refine hK.out _ _ (KEEP.out _ HX.out) (fun hHeld => ?_)
      clear hK K
      try go_frame
      have hmin : ∀ w, (Builtin.min_ #[3, 3, 3] 3 #[.int .i64 (t.L.length : Nat), .int .i64 (tA.L.length : Nat), .int .i64 (tC.L.length : Nat)]).run Try.prog w = .ok (.int .i64 (lw : Nat)) w := fun w => by
        rw [run_min_int3, HLW.out]
        congr 2
        split <;> split <;> omega
      refine ti 6 rfl (fun w hSw => by (try dsimp only at hSw); go_simp; try with_reducible rfl) ?_
      go_frame
      refine tx rfl (by kernel_rfl) (by kernel_rfl) (by kernel_rfl) (fun K hK => ?_)
      go_simp
      refine hK.out _ _ ?_
      clear hK K hHeld KEEP
      try go_frame
      go_wp2
      go_meet
      case rel => exact ⟨rfl, HX⟩
    case rest =>
      obtain ⟨rfl, HCB⟩ := hcut
      obtain ⟨y8, hy8⟩ : ∃ x, x = wc := ⟨_, rfl⟩
      rw [← hy8] at HCB ⊢
      clear hy8 KEEP
      have HT8 := Lib.hid (HT7.out.below HCB.out)
      have HTA8 := Lib.hid (HTA7.out.below HCB.out)
      have HTC8 := Lib.hid (HTC7.out.below HCB.out)
      have HX8 := Lib.hid (HX7.out.trans (HCB.out.mono HX7.out.size))
      clear HT7 HTA7 HTC7 HX7 HCB
      obtain ⟨nc, hnc⟩ : ∃ n, n = tC.L.length := ⟨_, rfl⟩
      have HNC := Lib.hid hnc
      have HNC5 := Lib.hid (show nc ≤ 512 by rw [hnc]; exact HOC.out.len)
      rw [← hnc] at HCC
      clear hnc
      go_upto_block 2 with (fail)
      go_cut [] (fun wc => Hid (Below y8.heap.size y8 wc))
      case first =>
        go_wp2_with fail
        go_loopw [10] (fun v wr => ∃ c : Nat, v = .int .i64 (c : Nat) ∧ Hid (c ≤ nc) ∧ Hid (Below y8.heap.size y8 wr)) (fun v wr => nc - (intOf v).toNat)
        case atStart => exact ⟨0, rfl, Lib.hid (Nat.zero_le _), Lib.hid (Below.refl _ _)⟩
        case round =>
          obtain ⟨c, rfl, HI, HK⟩ := hrel
          have HTr := Lib.hid (HT8.out.below HK.out)
          have HTCr := Lib.hid (HTC8.out.below HK.out)
          obtain ⟨c0, c1, c2, c3, c4, c5, c6, c7, c8, c9, c10⟩ := HTCr.out.cells
          go_wp2_with fail
          refine (HCC.out _).mono ?_
          rintro e z1 ⟨rfl, bb⟩
          have HT1 := Lib.hid (HTr.out.below bb)
          have HTC1 := Lib.hid (HTCr.out.below bb)
          have HX1 := Lib.hid (HK.out.trans (bb.mono HK.out.size))
          clear bb HTr HTCr c0 c1 c2 c3 c4 c5 c6 c7 c8 c9 c10
          by_cases hlt : c < nc
          · have HLT := Lib.hid hlt
            have u1 : IntKind.i64.wrap ((c : Int) + 1) = ((c + 1 : Nat) : Int) := by rw [IntKind.wrap_i64]; have := HNC5.out; omega
            obtain ⟨fb, hfb⟩ : ∃ f, f = firstB c := ⟨_, rfl⟩
            obtain ⟨wv, hwv⟩ : ∃ v, v = hasM tC.L (c : Nat) := ⟨_, rfl⟩
            have HFB := Lib.hid hfb
            have HHC := Lib.hid (fun w => has_val tC HOC.out (c : Nat) wv hwv.symm w)
            have HWV := Lib.hid (show wv = if c < lw then hasM t.L (c : Nat) else fb by rw [hwv, hfb, HNC.out] at *; exact HWH.out c HLT.out)
            clear hfb hwv
            go_upto_region 15 with (fail)
            go_cut [11] (fun v11 wc => v11 = .bool fb ∧ Hid (wc = z1))
            case first =>
              by_cases h0 : c = 0
              · have g0 : ¬ (0 : Int) < (c : Int) := by omega
                have g0n : ¬ 0 < c := by omega
                have HE := Lib.hid (show fb = false by rw [HFB.out]; unfold firstB; exact decide_eq_false (by omega))
                clear h0
                go_wp2
                go_meet
                case rel => exact ⟨by rw [HE.out], Lib.hid rfl⟩
              · have g0 : (0 : Int) < (c : Int) := by omega
                have g0n : 0 < c := by omega
                by_cases h8 : c % 8 = 0
                · have q1 : ((c : Nat) : Int).tmod 8 = 0 := by rw [Int.tmod_eq_emod_of_nonneg (by omega)]; omega
                  have q2 : ((c : Nat) : Int) % 8 = 0 := by omega
                  have HE := Lib.hid (show fb = true by rw [HFB.out]; unfold firstB; exact decide_eq_true ⟨by omega, h8⟩)
                  clear h8 h0
                  go_wp2
                  go_meet
                  case rel => exact ⟨by rw [HE.out], Lib.hid rfl⟩
                · obtain ⟨r, hr⟩ : ∃ r, r = c % 8 := ⟨_, rfl⟩
                  have q1 : ((c : Nat) : Int).tmod 8 = (r : Nat) := by rw [hr, Int.tmod_eq_emod_of_nonneg (by omega)]; rfl
                  have q2 : ((c : Nat) : Int) % 8 = (r : Nat) := by rw [hr]; rfl
                  have q3 : ((r : Int) == 0) = false := by
                    have : ¬ r = 0 := by rw [hr]; exact h8
                    simp [this]
                  have HE := Lib.hid (show fb = false by rw [HFB.out]; unfold firstB; exact decide_eq_false (fun q => h8 q.2))
                  clear h8 h0 hr
                  go_wp2
                  go_meet
                  case rel => exact ⟨by rw [HE.out], Lib.hid rfl⟩
            case rest =>
              obtain ⟨rfl, HCE⟩ := hcut
              rw [HCE.out]
              by_cases hcl : c < lw
              · have HHT := Lib.hid (fun w => has_val t HOK.out (c : Nat) wv (by rw [HWV.out, if_pos hcl]) w)
                obtain ⟨c0, c1, c2, c3, c4, c5, c6, c7, c8, c9, c10⟩ := HT1.out.cells
                go_wp2_with fail
                refine (HHT.out _).mono ?_
                rintro e z2 ⟨rfl, bb⟩
                have HTC2 := Lib.hid (HTC1.out.below bb)
                have HX2 := Lib.hid (HX1.out.trans (bb.mono HX1.out.size))
                clear bb c0 c1 c2 c3 c4 c5 c6 c7 c8 c9 c10 HHT
                obtain ⟨c0, c1, c2, c3, c4, c5, c6, c7, c8, c9, c10⟩ := HTC2.out.cells
                go_wp2_with fail
                refine (HHC.out _).mono ?_
                rintro e z3 ⟨rfl, bb⟩
                have HX3 := Lib.hid (HX2.out.trans (bb.mono HX2.out.size))
                clear bb c0 c1 c2 c3 c4 c5 c6 c7 c8 c9 c10 HHC
                cases wv
                all_goals
                  go_wp2
                  go_roundw
                  case rel => exact ⟨c + 1, by go_num, Lib.hid HLT.out, HX3⟩
                  case measure => simp only [intOf]; have := HLT.out; omega
              · have HWF := Lib.hid (show fb = wv by rw [HWV.out, if_neg hcl])
                rw [HWF.out]
                obtain ⟨c0, c1, c2, c3, c4, c5, c6, c7, c8, c9, c10⟩ := HTC1.out.cells
                go_wp2_with fail
                refine (HHC.out _).mono ?_
                rintro e z3 ⟨rfl, bb⟩
                have HX3 := Lib.hid (HX1.out.trans (bb.mono HX1.out.size))
                clear bb c0 c1 c2 c3 c4 c5 c6 c7 c8 c9 c10 HHC
                cases wv
                all_goals
                  go_wp2
                  go_roundw
                  case rel => exact ⟨c + 1, by go_num, Lib.hid HLT.out, HX3⟩
                  case measure => simp only [intOf]; have := HLT.out; omega
          · go_wp2
            go_meet
            case rel => exact HX1
      case rest =>
        obtain ⟨y9, hy9⟩ : ∃ x, x = wc := ⟨_, rfl⟩
        rw [← hy9] at hcut ⊢
        have HCB := Lib.hid hcut.out
        clear hcut hy9
        have HT9 := Lib.hid (HT8.out.below HCB.out)
        have HTC9 := Lib.hid (HTC8.out.below HCB.out)
        have HX9 := Lib.hid (HX8.out.trans (HCB.out.mono HX8.out.size))
        clear HT8 HTA8 HTC8 HX8 HCB
        have HLT := Lib.hid (fun w => label_any t w)
        have HLCc := Lib.hid (fun w => label_any tC w)
        rw [HLC.out.1] at HLCc
        have HRS := Lib.hid (fun w => res_any t HOK.out (t.L.length : Nat) w)
        have hq : ∀ w, (Op.equalIn 10000 TB (tbV (t.res (t.L.length : Nat))) (tbV t)).run Try.prog w = .ok true w := fun w => by
          rw [eqTb _ t (HOK.out.res _) w]
          congr 1
          exact decide_eq_true ⟨res_self HOK.out, rfl, rfl⟩
        obtain ⟨ts, hts⟩ : ∃ s, s = t.res (t.L.length : Nat) := ⟨_, rfl⟩
        rw [← hts] at HRS hq
        clear hts
        obtain ⟨n9, hn9⟩ : ∃ n, n = min 512 cz := ⟨_, rfl⟩
        have HN9 := Lib.hid (show nc = n9 by rw [HNC.out, hn9]; exact HLC.out.2.1)
        rw [HN9.out] at HCC
        obtain ⟨a0, a1, a2⟩ := H3.out _ HX9.out
        have KEEP := Lib.hid (show ∀ wx, Below y9.heap.size y9 wx → (wx.cell? ⟨b2, 2, none⟩ = some (.int .u16 (nz : Nat))) ∧ (wx.cell? ⟨bT, 0, none⟩ = some (wV t.L 0) ∧ wx.cell? ⟨bT, 1, none⟩ = some (wV t.L 1) ∧ wx.cell? ⟨bT, 2, none⟩ = some (wV t.L 2) ∧ wx.cell? ⟨bT, 3, none⟩ = some (wV t.L 3) ∧ wx.cell? ⟨bT, 4, none⟩ = some (wV t.L 4) ∧ wx.cell? ⟨bT, 5, none⟩ = some (wV t.L 5) ∧ wx.cell? ⟨bT, 6, none⟩ = some (wV t.L 6) ∧ wx.cell? ⟨bT, 7, none⟩ = some (wV t.L 7) ∧ wx.cell? ⟨bT, 8, none⟩ = some (.int .i64 (t.L.length : Nat)) ∧ wx.cell? ⟨bT, 9, none⟩ = some (.int .u8 (t.b : Nat)) ∧ wx.cell? ⟨bT, 10, none⟩ = some (.int .u8 (t.l : Nat))) ∧ wx.cell? ⟨bC, 0, none⟩ = some (wV tC.L 0) ∧ wx.cell? ⟨bC, 1, none⟩ = some (wV tC.L 1) ∧ wx.cell? ⟨bC, 2, none⟩ = some (wV tC.L 2) ∧ wx.cell? ⟨bC, 3, none⟩ = some (wV tC.L 3) ∧ wx.cell? ⟨bC, 4, none⟩ = some (wV tC.L 4) ∧ wx.cell? ⟨bC, 5, none⟩ = some (wV tC.L 5) ∧ wx.cell? ⟨bC, 6, none⟩ = some (wV tC.L 6) ∧ wx.cell? ⟨bC, 7, none⟩ = some (wV tC.L 7) ∧ wx.cell? ⟨bC, 8, none⟩ = some (.int .i64 (tC.L.length : Nat)) ∧ wx.cell? ⟨bC, 9, none⟩ = some (.int .u8 (tC.b : Nat)) ∧ wx.cell? ⟨bC, 10, none⟩ = some (.int .u8 (tC.l : Nat)) from fun wx hx => ⟨(hx.cell (World.block_lt_of_cell? y9 _ a2)).trans a2, (HT9.out.below hx).cells, (HTC9.out.below hx).cells⟩)
        have HN9E := Lib.hid hn9
        clear a0 a1 a2 hn9
        by_cases hp : cz < 512
        · have hpi : (cz : Int) < 512 := by omega
          have hn : n9 = cz := by rw [HN9E.out]; omega
          rw [hn] at HCC
          clear hp hn
          go_upto_region 20 with (fail)
          refine region_but (S := (fun wx => (wx.cell? ⟨b2, 2, none⟩ = some (.int .u16 (nz : Nat))) ∧ (wx.cell? ⟨bT, 0, none⟩ = some (wV t.L 0) ∧ wx.cell? ⟨bT, 1, none⟩ = some (wV t.L 1) ∧ wx.cell? ⟨bT, 2, none⟩ = some (wV t.L 2) ∧ wx.cell? ⟨bT, 3, none⟩ = some (wV t.L 3) ∧ wx.cell? ⟨bT, 4, none⟩ = some (wV t.L 4) ∧ wx.cell? ⟨bT, 5, none⟩ = some (wV t.L 5) ∧ wx.cell? ⟨bT, 6, none⟩ = some (wV t.L 6) ∧ wx.cell? ⟨bT, 7, none⟩ = some (wV t.L 7) ∧ wx.cell? ⟨bT, 8, none⟩ = some (.int .i64 (t.L.length : Nat)) ∧ wx.cell? ⟨bT, 9, none⟩ = some (.int .u8 (t.b : Nat)) ∧ wx.cell? ⟨bT, 10, none⟩ = some (.int .u8 (t.l : Nat))) ∧ wx.cell? ⟨bC, 0, none⟩ = some (wV tC.L 0) ∧ wx.cell? ⟨bC, 1, none⟩ = some (wV tC.L 1) ∧ wx.cell? ⟨bC, 2, none⟩ = some (wV tC.L 2) ∧ wx.cell? ⟨bC, 3, none⟩ = some (wV tC.L 3) ∧ wx.cell? ⟨bC, 4, none⟩ = some (wV tC.L 4) ∧ wx.cell? ⟨bC, 5, none⟩ = some (wV tC.L 5) ∧ wx.cell? ⟨bC, 6, none⟩ = some (wV tC.L 6) ∧ wx.cell? ⟨bC, 7, none⟩ = some (wV tC.L 7) ∧ wx.cell? ⟨bC, 8, none⟩ = some (.int .i64 (tC.L.length : Nat)) ∧ wx.cell? ⟨bC, 9, none⟩ = some (.int .u8 (tC.b : Nat)) ∧ wx.cell? ⟨bC, 10, none⟩ = some (.int .u8 (tC.l : Nat)))) 23 (by kernel_rfl) (KEEP.out _ ((Below.refl _ _).drew)) (fun hHeld => ?_)
          obtain ⟨wz, hwz⟩ : ∃ X, X = y9.drew := ⟨_, rfl⟩
          have HX := Lib.hid (show Below y9.heap.size y9 wz by rw [hwz]; exact (Below.refl _ _).drew)
          replace hHeld := KEEP.out _ HX.out
          rw [← hwz]
          clear hwz
          refine ti 0 rfl (fun w hSw => by (try dsimp only at hSw); go_simp; try with_reducible rfl) ?_
          go_frame
          refine ti 2 rfl (fun w hSw => by (try dsimp only at hSw); go_simp; try with_reducible rfl) ?_
          go_frame
          refine th 1 rfl (by kernel_rfl) (by decide) (by kernel_rfl) (fun K hK => ?_)
          go_simp
          refine (HLCc.out _).mono ?_
          rintro e z1 ⟨rfl, bb⟩
          replace HX := Lib.hid (HX.out.trans (bb.mono HX.out.size))
          clear bb
          go_wp2_with fail
          refine hK.out _ _ (KEEP.out _ HX.out) (fun hHeld => ?_)
          clear hK K
          try go_frame
          refine th 3 rfl (by kernel_rfl) (by decide) (by kernel_rfl) (fun K hK => ?_)
          go_simp
          refine (HLT.out _).mono ?_
          rintro e z2 ⟨rfl, bb⟩
          replace HX := Lib.hid (HX.out.trans (bb.mono HX.out.size))
          clear bb
          go_wp2_with fail
          refine hK.out _ _ (KEEP.out _ HX.out) (fun hHeld => ?_)
          clear hK K
          try go_frame
          refine ti 4 rfl (fun w hSw => by (try dsimp only at hSw); go_simp; try with_reducible rfl) ?_
          go_frame
          refine ti 5 rfl (fun w hSw => by (try dsimp only at hSw); go_simp; try with_reducible rfl) ?_
          go_frame
          refine ti 6 rfl (fun w hSw => by (try dsimp only at hSw); go_simp; try with_reducible rfl) ?_
          go_frame
          refine ti 8 rfl (fun w hSw => by (try dsimp only at hSw); go_simp; try with_reducible rfl) ?_
          go_frame
          refine ti 9 rfl (fun w hSw => by (try dsimp only at hSw); go_simp; try with_reducible rfl) ?_
          go_frame
          refine ti 10 rfl (fun w hSw => by (try dsimp only at hSw); go_simp; try with_reducible rfl) ?_
          go_frame
          refine ti 11 rfl (fun w hSw => by (try dsimp only at hSw); go_simp; try with_reducible rfl) ?_
          go_frame
          refine ti 12 rfl (fun w hSw => by (try dsimp only at hSw); go_simp; try with_reducible rfl) ?_
          go_frame
          refine th 7 rfl (by kernel_rfl) (by decide) (by kernel_rfl) (fun K hK => ?_)
          go_simp
          refine (HCC.out _).mono ?_
          rintro e z3 ⟨rfl, bb⟩
          replace HX := Lib.hid (HX.out.trans (bb.mono HX.out.size))
          clear bb
          go_wp2_with fail
          refine hK.out _ _ (KEEP.out _ HX.out) (fun hHeld => ?_)
          clear hK K
          try go_frame
          refine ti 13 rfl (fun w hSw => by (try dsimp only at hSw); go_simp; try with_reducible rfl) ?_
          go_frame
          refine ti 14 rfl (fun w hSw => by (try dsimp only at hSw); go_simp; try with_reducible rfl) ?_
          go_frame
          refine ti 15 rfl (fun w hSw => by (try dsimp only at hSw); go_simp; try with_reducible rfl) ?_
          go_frame
          refine ti 16 rfl (fun w hSw => by (try dsimp only at hSw); go_simp; try with_reducible rfl) ?_
          go_frame
          refine ti 17 rfl (fun w hSw => by (try dsimp only at hSw); go_simp; try with_reducible rfl) ?_
          go_frame
          refine ti 20 rfl (fun w hSw => by (try dsimp only at hSw); go_simp; try with_reducible rfl) ?_
          go_frame
          refine th 18 rfl (by kernel_rfl) (by decide) (by kernel_rfl) (fun K hK => ?_)
          go_simp
          refine (HCT.out _).mono ?_
          rintro e z4 ⟨rfl, bb⟩
          replace HX := Lib.hid (HX.out.trans (bb.mono HX.out.size))
          clear bb
          go_wp2_with fail
          refine hK.out _ _ (KEEP.out _ HX.out) (fun hHeld => ?_)
          clear hK K
          try go_frame
          refine th 19 rfl (by kernel_rfl) (by decide) (by kernel_rfl) (fun K hK => ?_)
          go_simp
          refine (HRS.out _).mono ?_
          rintro e z5 ⟨rfl, bb⟩
          replace HX := Lib.hid (HX.out.trans (bb.mono HX.out.size))
          clear bb
          go_wp2_with fail
          refine hK.out _ _ (KEEP.out _ HX.out) (fun hHeld => ?_)
          clear hK K
          try go_frame
          refine ti 21 rfl (fun w hSw => by (try dsimp only at hSw); go_simp; try with_reducible rfl) ?_
          go_frame
          refine ti 22 rfl (fun w hSw => by (try dsimp only at hSw); go_simp; try with_reducible rfl) ?_
          go_frame
          refine tx rfl (by kernel_rfl) (by kernel_rfl) (by kernel_rfl) (fun K hK => ?_)
          go_simp
          refine hK.out _ _ ?_
          clear hK K hHeld KEEP
          try go_frame
          go_wp2
          go_ret
          exact ⟨rfl, (HB.out.trans (HX9.out.mono HB.out.size)).trans (HX.out.mono (HB.out.trans (HX9.out.mono HB.out.size)).size)⟩
        · have hpi : ¬ (cz : Int) < 512 := by omega
          have hn : n9 = 512 := by rw [HN9E.out]; omega
          rw [hn] at HCC
          clear hp hn
          go_upto_region 20 with (fail)
          refine region_but (S := (fun wx => (wx.cell? ⟨b2, 2, none⟩ = some (.int .u16 (nz : Nat))) ∧ (wx.cell? ⟨bT, 0, none⟩ = some (wV t.L 0) ∧ wx.cell? ⟨bT, 1, none⟩ = some (wV t.L 1) ∧ wx.cell? ⟨bT, 2, none⟩ = some (wV t.L 2) ∧ wx.cell? ⟨bT, 3, none⟩ = some (wV t.L 3) ∧ wx.cell? ⟨bT, 4, none⟩ = some (wV t.L 4) ∧ wx.cell? ⟨bT, 5, none⟩ = some (wV t.L 5) ∧ wx.cell? ⟨bT, 6, none⟩ = some (wV t.L 6) ∧ wx.cell? ⟨bT, 7, none⟩ = some (wV t.L 7) ∧ wx.cell? ⟨bT, 8, none⟩ = some (.int .i64 (t.L.length : Nat)) ∧ wx.cell? ⟨bT, 9, none⟩ = some (.int .u8 (t.b : Nat)) ∧ wx.cell? ⟨bT, 10, none⟩ = some (.int .u8 (t.l : Nat))) ∧ wx.cell? ⟨bC, 0, none⟩ = some (wV tC.L 0) ∧ wx.cell? ⟨bC, 1, none⟩ = some (wV tC.L 1) ∧ wx.cell? ⟨bC, 2, none⟩ = some (wV tC.L 2) ∧ wx.cell? ⟨bC, 3, none⟩ = some (wV tC.L 3) ∧ wx.cell? ⟨bC, 4, none⟩ = some (wV tC.L 4) ∧ wx.cell? ⟨bC, 5, none⟩ = some (wV tC.L 5) ∧ wx.cell? ⟨bC, 6, none⟩ = some (wV tC.L 6) ∧ wx.cell? ⟨bC, 7, none⟩ = some (wV tC.L 7) ∧ wx.cell? ⟨bC, 8, none⟩ = some (.int .i64 (tC.L.length : Nat)) ∧ wx.cell? ⟨bC, 9, none⟩ = some (.int .u8 (tC.b : Nat)) ∧ wx.cell? ⟨bC, 10, none⟩ = some (.int .u8 (tC.l : Nat)))) 23 (by kernel_rfl) (KEEP.out _ ((Below.refl _ _).drew)) (fun hHeld => ?_)
          obtain ⟨wz, hwz⟩ : ∃ X, X = y9.drew := ⟨_, rfl⟩
          have HX := Lib.hid (show Below y9.heap.size y9 wz by rw [hwz]; exact (Below.refl _ _).drew)
          replace hHeld := KEEP.out _ HX.out
          rw [← hwz]
          clear hwz
          refine ti 0 rfl (fun w hSw => by (try dsimp only at hSw); go_simp; try with_reducible rfl) ?_
          go_frame
          refine ti 2 rfl (fun w hSw => by (try dsimp only at hSw); go_simp; try with_reducible rfl) ?_
          go_frame
          refine th 1 rfl (by kernel_rfl) (by decide) (by kernel_rfl) (fun K hK => ?_)
          go_simp
          refine (HLCc.out _).mono ?_
          rintro e z1 ⟨rfl, bb⟩
          replace HX := Lib.hid (HX.out.trans (bb.mono HX.out.size))
          clear bb
          go_wp2_with fail
          refine hK.out _ _ (KEEP.out _ HX.out) (fun hHeld => ?_)
          clear hK K
          try go_frame
          refine th 3 rfl (by kernel_rfl) (by decide) (by kernel_rfl) (fun K hK => ?_)
          go_simp
          refine (HLT.out _).mono ?_
          rintro e z2 ⟨rfl, bb⟩
          replace HX := Lib.hid (HX.out.trans (bb.mono HX.out.size))
          clear bb
          go_wp2_with fail
          refine hK.out _ _ (KEEP.out _ HX.out) (fun hHeld => ?_)
          clear hK K
          try go_frame
          refine ti 4 rfl (fun w hSw => by (try dsimp only at hSw); go_simp; try with_reducible rfl) ?_
          go_frame
          refine ti 5 rfl (fun w hSw => by (try dsimp only at hSw); go_simp; try with_reducible rfl) ?_
          go_frame
          refine ti 6 rfl (fun w hSw => by (try dsimp only at hSw); go_simp; try with_reducible rfl) ?_
          go_frame
          refine ti 8 rfl (fun w hSw => by (try dsimp only at hSw); go_simp; try with_reducible rfl) ?_
          go_frame
          refine ti 9 rfl (fun w hSw => by (try dsimp only at hSw); go_simp; try with_reducible rfl) ?_
          go_frame
          refine ti 10 rfl (fun w hSw => by (try dsimp only at hSw); go_simp; try with_reducible rfl) ?_
          go_frame
          refine ti 11 rfl (fun w hSw => by (try dsimp only at hSw); go_simp; try with_reducible rfl) ?_
          go_frame
          refine ti 12 rfl (fun w hSw => by (try dsimp only at hSw); go_simp; try with_reducible rfl) ?_
          go_frame
          refine th 7 rfl (by kernel_rfl) (by decide) (by kernel_rfl) (fun K hK => ?_)
          go_simp
          refine (HCC.out _).mono ?_
          rintro e z3 ⟨rfl, bb⟩
          replace HX := Lib.hid (HX.out.trans (bb.mono HX.out.size))
          clear bb
          go_wp2_with fail
          refine hK.out _ _ (KEEP.out _ HX.out) (fun hHeld => ?_)
          clear hK K
          try go_frame
          refine ti 13 rfl (fun w hSw => by (try dsimp only at hSw); go_simp; try with_reducible rfl) ?_
          go_frame
          refine ti 14 rfl (fun w hSw => by (try dsimp only at hSw); go_simp; try with_reducible rfl) ?_
          go_frame
          refine ti 15 rfl (fun w hSw => by (try dsimp only at hSw); go_simp; try with_reducible rfl) ?_
          go_frame
          refine ti 16 rfl (fun w hSw => by (try dsimp only at hSw); go_simp; try with_reducible rfl) ?_
          go_frame
          refine ti 17 rfl (fun w hSw => by (try dsimp only at hSw); go_simp; try with_reducible rfl) ?_
          go_frame
          refine ti 20 rfl (fun w hSw => by (try dsimp only at hSw); go_simp; try with_reducible rfl) ?_
          go_frame
          refine th 18 rfl (by kernel_rfl) (by decide) (by kernel_rfl) (fun K hK => ?_)
          go_simp
          refine (HCT.out _).mono ?_
          rintro e z4 ⟨rfl, bb⟩
          replace HX := Lib.hid (HX.out.trans (bb.mono HX.out.size))
          clear bb
          go_wp2_with fail
          refine hK.out _ _ (KEEP.out _ HX.out) (fun hHeld => ?_)
          clear hK K
          try go_frame
          refine th 19 rfl (by kernel_rfl) (by decide) (by kernel_rfl) (fun K hK => ?_)
          go_simp
          refine (HRS.out _).mono ?_
          rintro e z5 ⟨rfl, bb⟩
          replace HX := Lib.hid (HX.out.trans (bb.mono HX.out.size))
          clear bb
          go_wp2_with fail
          refine hK.out _ _ (KEEP.out _ HX.out) (fun hHeld => ?_)
          clear hK K
          try go_frame
          refine ti 21 rfl (fun w hSw => by (try dsimp only at hSw); go_simp; try with_reducible rfl) ?_
          go_frame
          refine ti 22 rfl (fun w hSw => by (try dsimp only at hSw); go_simp; try with_reducible rfl) ?_
          go_frame
          refine tx rfl (by kernel_rfl) (by kernel_rfl) (by kernel_rfl) (fun K hK => ?_)
          go_simp
          refine hK.out _ _ ?_
          clear hK K hHeld KEEP
          try go_frame
          go_wp2
          go_ret
          exact ⟨rfl, (HB.out.trans (HX9.out.mono HB.out.size)).trans (HX.out.mono (HB.out.trans (HX9.out.mono HB.out.size)).size)⟩
end Go.Proofs.Ytmdpdogjpdkanaa.Lab
