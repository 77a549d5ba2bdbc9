/- Walked by Next, tab by tab, all tab stops come: TabsWalks. -/
import Derived.Test.YtmfbknmcmopjnaaTbWorks
import Derived.Test.YtmfbknmcmopjnaaTbOpen
set_option linter.unusedVariables false
namespace Go.Proofs.Ytmfbknmcmopjnaa.Lab
open Go Go.RowKit Go.Shelf

/-- Acts, one behind the other. -/
def runT (AL : List Ac) (t : Tb) (i : Nat) : Tb := (AL.take i).foldl (fun t a => doT a t) t
theorem runT_zero (AL : List Ac) (t : Tb) : runT AL t 0 = t := rfl
theorem runT_more {AL : List Ac} (t : Tb) {i : Nat} (h : i < AL.length) : runT AL t (i + 1) = doT (AcK AL i) (runT AL t i) := by
  unfold runT
  rw [List.take_succ_eq_append_getElem h, List.foldl_append, AcK_eq h]
  rfl
theorem runT_ok {AL : List Ac} {t : Tb} (h : t.Ok) : ∀ i, (runT AL t i).Ok := by
  intro i
  unfold runT
  generalize AL.take i = K
  induction K generalizing t with
  | nil => exact h
  | cons a K ih => exact ih (doT_ok h)
theorem new_base (c : Int) : (newM c 0).b = 0 := rfl
theorem doT_base (a : Ac) (t : Tb) : (doT a t).b = t.b := by
  unfold doT
  repeat' split
  all_goals rfl
theorem runT_base (AL : List Ac) : ∀ (i : Nat) (t : Tb), (runT AL t i).b = t.b := by
  intro i t
  unfold runT
  generalize AL.take i = K
  induction K generalizing t with
  | nil => rfl
  | cons a K ih => exact (ih (doT a t)).trans (doT_base a t)
def atZ (L : List Bool) (i : Nat) : Int := if i = 0 then -1 else (((stops L).getD (i - 1) 0 : Nat) : Int)
theorem atZ_zero (L : List Bool) : atZ L 0 = -1 := rfl
theorem atZ_next (L : List Bool) (i : Nat) : atZ L (i + 1) = (((stops L).getD i 0 : Nat) : Int) := by
  unfold atZ
  rw [if_neg (by omega), Nat.add_sub_cancel]
theorem getD_in {α : Type} {Q : List α} {i : Nat} (h : i < Q.length) (d e : α) : Q.getD i d = Q.getD i e := by
  rw [List.getD_eq_getElem?_getD, List.getD_eq_getElem?_getD, List.getElem?_eq_getElem h]
  rfl
theorem getD_at {α : Type} {Q : List α} {i : Nat} (h : i < Q.length) (d : α) : Q.getD i d = Q[i] := by
  rw [List.getD_eq_getElem?_getD, List.getElem?_eq_getElem h]
  rfl
theorem walk_next {L : List Bool} {i : Nat} (hi : i ≤ (stops L).length) : nextM L (atZ L i) 1 = (stops L).getD i (lastM L) := by
  cases i with
  | zero => rw [atZ_zero]; exact next_start L
  | succ i =>
    rw [atZ_next]
    rw [getD_at hi]
    exact next_stop hi
theorem stop_up {L : List Bool} {i : Nat} (h : i + 1 < (stops L).length) : (stops L).getD i 0 < (stops L).getD (i + 1) 0 := by
  rw [getD_at (by omega), getD_at h]
  exact List.pairwise_iff_getElem.1 (stops_lt L) _ _ (by omega) h (by omega)
def backZ (L : List Bool) (j : Nat) : Nat := if j = (stops L).length then L.length else (stops L).getD j 0
theorem walk_back {L : List Bool} {j : Nat} (h : j ≤ (stops L).length) : backM L (backZ L j : Nat) 1 = if j = 0 then 0 else (stops L).getD (j - 1) 0 := by
  unfold backZ
  rcases Nat.lt_or_ge j (stops L).length with h1 | h1
  · rw [if_neg (by omega), getD_at h1, back_stop h1]
    cases j with
    | zero => simp
    | succ j =>
      rw [if_neg (by omega), List.getD_eq_getElem?_getD, List.getElem?_reverse (by simp; omega), Nat.add_sub_cancel, List.getD_eq_getElem?_getD]
      simp only [List.length_take]
      rw [List.getElem?_take_of_lt (by omega), show min (j + 1) (stops L).length - 1 - 0 = j by omega]
  · obtain rfl : j = (stops L).length := by omega
    rw [if_pos rfl, back_end]
    cases hq : (stops L).length with
    | zero =>
      have : stops L = [] := List.eq_nil_of_length_eq_zero hq
      rw [this]
      rfl
    | succ q =>
      rw [if_neg (by omega), List.getD_eq_getElem?_getD, List.getElem?_reverse (by omega), Nat.add_sub_cancel, List.getD_eq_getElem?_getD, hq]
      rfl
theorem has_stop {L : List Bool} {i : Nat} (h : i < (stops L).length) : hasM L (((stops L).getD i 0 : Nat) : Int) = true := by
  rw [getD_at h]
  have := (mem_stops.1 (List.getElem_mem h)).2
  unfold hasM
  rw [decide_eq_true (by omega), Int.toNat_natCast, this]
  rfl
theorem next_zero (L : List Bool) : nextM L 0 ((0 : Nat) : Int) = 0 := by unfold nextM edgeM inN; rw [if_pos (by decide)]; omega
theorem back_last (L : List Bool) : backM L (lastM L : Nat) ((0 : Nat) : Int) = lastM L := by unfold backM edgeM inN; rw [if_pos (by decide)]; omega
set_option maxHeartbeats 8000000 in
set_option maxRecDepth 100000 in
theorem walks_core (n : Nat) (hn : n < 65536) (la : Option Addr) (ln lc : Nat) (AL : List Ac) (m : Nat) (hm : m < 256) (w : World) (h : AcsIn w (.slice la ln lc) AL) : Calls Try.prog 4 #[.int .u16 (n : Nat), .slice la ln lc, .int .u8 (m : Nat)] w fun e w' => e = .returned (.bool true) ∧ Below w.heap.size w w' := by
  have HAC := Lib.hid h
  have HLN := Lib.hid (show AL.length = ln by obtain ⟨a, c, e⟩ := h.shape; injection e with _ e _; exact e.symm)
  have HML := Lib.hid (show ln ≤ maxLen by rw [← HLN.out]; exact h.maxl)
  have HM := Lib.hid hm
  clear h hm
  obtain ⟨c, hc⟩ : ∃ c, c = n % 600 := ⟨_, rfl⟩
  have r1 : ((n : Nat) : Int).tmod 600 = (c : Nat) := by rw [hc, Int.tmod_eq_emod_of_nonneg (by omega)]; rfl
  have r2 : ((n : Nat) : Int) % 600 = (c : Nat) := by rw [hc]; rfl
  have r3 : IntKind.i64.wrap ((c : Nat) : Int) = (c : Nat) := by rw [IntKind.wrap_i64]; omega
  clear hc
  obtain ⟨T0, hT0⟩ : ∃ T0, T0 = newM (c : Nat) 0 := ⟨_, rfl⟩
  have HNEW := Lib.hid (fun w => new_any (c : Nat) 0 w)
  have HOK0 := Lib.hid (show T0.Ok by rw [hT0]; exact newM_ok _ (by decide))
  rw [← hT0] at HNEW
  clear hT0 hn
  go_enter Try.func4, Try.ntmps4
  go_wp2_with fail
  refine (works_any _).mono ?_
  rintro e y1 ⟨rfl, bb⟩
  have HB := Lib.hid bb
  clear bb
  go_wp2_with fail
  refine (HNEW.out _).mono ?_
  rintro e y2 ⟨rfl, bb⟩
  replace HB := Lib.hid (HB.out.trans (bb.mono HB.out.size))
  clear bb HNEW r1 r2 r3
  obtain ⟨bT, hbT⟩ : ∃ b, b = y2.heap.size := ⟨_, rfl⟩
  obtain ⟨y3, hy3⟩ : ∃ x, x = y2.alloc (.cells (tbC T0) TB) := ⟨_, rfl⟩
  have bb : Below y2.heap.size y2 y3 := by rw [hy3]; exact (Below.refl _ _).alloc (Nat.le_refl _) _
  have HBT := Lib.hid (show w.heap.size ≤ bT by rw [hbT]; exact HB.out.size)
  have HT0 := Lib.hid (show Below w.heap.size w y3 ∧ TbAt y3 bT (runT AL T0 0) from ⟨HB.out.trans (bb.mono HB.out.size), by unfold TbAt; rw [runT_zero, hy3, hbT]; exact World.alloc_heap_new y2 _⟩)
  clear bb
  go_upto_block 0 with (fail)
  rw [← hy3, ← hbT]
  clear hy3 hbT HB
  go_cut [] (fun wc => ∃ i : Nat, Hid (Below w.heap.size w wc ∧ TbAt wc bT (runT AL T0 i)))
  case first =>
    go_wp2_with fail
    go_loopw [8] (fun v wr => ∃ i : Nat, v = .int .i64 (i : Nat) ∧ Hid (i ≤ ln ∧ i ≤ 40) ∧ Hid (Below w.heap.size w wr ∧ TbAt wr bT (runT AL T0 i))) (fun v wr => 50 - (intOf v).toNat)
    case atStart => exact ⟨0, rfl, Lib.hid ⟨Nat.zero_le _, Nat.zero_le _⟩, HT0⟩
    case round =>
      obtain ⟨i, rfl, HI, HK⟩ := hrel
      by_cases h1 : i < ln
      · by_cases h2 : i < 40
        · have g2 : (i : Int) < 40 := by omega
          have H12 := Lib.hid (And.intro h1 h2)
          obtain ⟨g, o, u, hla, a0, a1, a2, a3, hs, hok⟩ := (HAC.out.below HK.out.1).at (i := i) (by rw [HLN.out]; exact h1)
          obtain ⟨tn, htn⟩ : ∃ tn, tn = runT AL T0 (i + 1) := ⟨_, rfl⟩
          have HTN := Lib.hid htn
          rw [runT_more T0 (by rw [HLN.out]; exact h1)] at htn
          have htok := runT_ok (AL := AL) HOK0.out i
          obtain ⟨t, ht⟩ : ∃ t, t = runT AL T0 i := ⟨_, rfl⟩
          rw [← ht] at HK htn htok
          obtain ⟨a, ha⟩ : ∃ a, a = AcK AL i := ⟨_, rfl⟩
          rw [← ha] at htn a0 a1 a3 hs hok
          have HD := Lib.hid (fun w (h : S16 w u a.l) => does_any a u t hok htok w h)
          rw [← htn] at HD
          have HS := Lib.hid hs
          subst hla
          clear ht ha htn hs hok htok
          have KEEP := Lib.hid (show ∀ wx, Below wr.heap.size wr wx → (wx.cell? ⟨g, o + i * 4, none⟩ = some (.int .u8 (a.what : Nat)) ∧ wx.cell? ⟨g, o + i * 4 + 1, none⟩ = some (.bool a.high) ∧ wx.cell? ⟨g, o + i * 4 + 2, none⟩ = some u ∧ wx.cell? ⟨g, o + i * 4 + 3, none⟩ = some (.int .i16 a.cols)) ∧ wx.cell? ⟨bT, 0, none⟩ = some (wV t.L 0) ∧ wx.cell? ⟨bT, 1, none⟩ = some (wV t.L 1) ∧ wx.cell? ⟨bT, 2, none⟩ = some (wV t.L 2) ∧ wx.cell? ⟨bT, 3, none⟩ = some (wV t.L 3) ∧ wx.cell? ⟨bT, 4, none⟩ = some (wV t.L 4) ∧ wx.cell? ⟨bT, 5, none⟩ = some (wV t.L 5) ∧ wx.cell? ⟨bT, 6, none⟩ = some (wV t.L 6) ∧ wx.cell? ⟨bT, 7, none⟩ = some (wV t.L 7) ∧ wx.cell? ⟨bT, 8, none⟩ = some (.int .i64 (t.L.length : Nat)) ∧ wx.cell? ⟨bT, 9, none⟩ = some (.int .u8 (t.b : Nat)) ∧ wx.cell? ⟨bT, 10, none⟩ = some (.int .u8 (t.l : Nat)) from fun wx hx => ⟨⟨(hx.cell (World.block_lt_of_cell? wr _ a0)).trans a0, (hx.cell (World.block_lt_of_cell? wr _ a1)).trans a1, (hx.cell (World.block_lt_of_cell? wr _ a2)).trans a2, (hx.cell (World.block_lt_of_cell? wr _ a3)).trans a3⟩, (HK.out.2.below hx).cells⟩)
          have u1 : IntKind.i64.wrap ((i : Int) + 1) = ((i + 1 : Nat) : Int) := by rw [IntKind.wrap_i64]; omega
          obtain ⟨c0, c1, c2, c3, c4, c5, c6, c7, c8, c9, c10⟩ := HK.out.2.cells
          go_upto_region 7 with (fail)
          clear a0 a1 a2 a3 c0 c1 c2 c3 c4 c5 c6 c7 c8 c9 c10
          refine region_but (S := (fun wx => (wx.cell? ⟨g, o + i * 4, none⟩ = some (.int .u8 (a.what : Nat)) ∧ wx.cell? ⟨g, o + i * 4 + 1, none⟩ = some (.bool a.high) ∧ wx.cell? ⟨g, o + i * 4 + 2, none⟩ = some u ∧ wx.cell? ⟨g, o + i * 4 + 3, none⟩ = some (.int .i16 a.cols)) ∧ wx.cell? ⟨bT, 0, none⟩ = some (wV t.L 0) ∧ wx.cell? ⟨bT, 1, none⟩ = some (wV t.L 1) ∧ wx.cell? ⟨bT, 2, none⟩ = some (wV t.L 2) ∧ wx.cell? ⟨bT, 3, none⟩ = some (wV t.L 3) ∧ wx.cell? ⟨bT, 4, none⟩ = some (wV t.L 4) ∧ wx.cell? ⟨bT, 5, none⟩ = some (wV t.L 5) ∧ wx.cell? ⟨bT, 6, none⟩ = some (wV t.L 6) ∧ wx.cell? ⟨bT, 7, none⟩ = some (wV t.L 7) ∧ wx.cell? ⟨bT, 8, none⟩ = some (.int .i64 (t.L.length : Nat)) ∧ wx.cell? ⟨bT, 9, none⟩ = some (.int .u8 (t.b : Nat)) ∧ wx.cell? ⟨bT, 10, none⟩ = some (.int .u8 (t.l : Nat)))) 6 (by kernel_rfl) (KEEP.out _ ((Below.refl _ _).drew)) (fun hHeld => ?_)
          obtain ⟨wz, hwz⟩ : ∃ X, X = wr.drew := ⟨_, rfl⟩
          have HX := Lib.hid (show Below wr.heap.size wr wz by rw [hwz]; exact (Below.refl _ _).drew)
          replace hHeld := KEEP.out _ HX.out
          rw [← hwz]
          clear hwz
          refine ti 0 rfl (fun w hSw => by (try dsimp only at hSw); go_simp; try with_reducible rfl) ?_
          go_frame
          refine ti 1 rfl (fun w hSw => by (try dsimp only at hSw); go_simp; try with_reducible rfl) ?_
          go_frame
          refine ti 2 rfl (fun w hSw => by (try dsimp only at hSw); go_simp; try with_reducible rfl) ?_
          go_frame
          refine ti 3 rfl (fun w hSw => by (try dsimp only at hSw); go_simp; try with_reducible rfl) ?_
          go_frame
          refine ti 4 rfl (fun w hSw => by (try dsimp only at hSw); go_simp; try with_reducible rfl) ?_
          go_frame
          refine th 5 rfl (by kernel_rfl) (by decide) (by kernel_rfl) (fun K hK => ?_)
          go_simp
          refine (HD.out _ (HS.out.below HX.out)).mono ?_
          rintro e wd ⟨rfl, bb⟩
          replace HX := Lib.hid (HX.out.trans (bb.mono HX.out.size))
          clear bb
          go_wp2_with fail
          refine hK.out _ _ (KEEP.out _ HX.out) (fun hHeld => ?_)
          clear hK K
          try go_frame
          obtain ⟨d0, d1, d2, d3, d4, d5, d6, d7, d8, d9, d10⟩ := (HK.out.2.below HX.out).cells
          have f := zeros_at (HK.out.2.below HX.out)
          have f0 := f 0
          have f1 := f 1
          have f2 := f 2
          have f3 := f 3
          have f4 := f 4
          have f5 := f 5
          have f6 := f 6
          have f7 := f 7
          have f8 := f 8
          have f9 := f 9
          have f10 := f 10
          clear f
          refine tx rfl (by kernel_rfl) (by kernel_rfl) (by kernel_rfl) (fun K hK => ?_)
          go_simp
          refine hK.out _ _ ?_
          clear hK K hHeld KEEP
          try go_frame
          go_wp2
          go_roundw
          case rel =>
            refine ⟨i + 1, by go_num, Lib.hid ⟨H12.out.1, H12.out.2⟩, Lib.hid ⟨?_, ?_⟩⟩
            · exact (HK.out.1.trans (HX.out.mono HK.out.1.size)).trans ((putT_below (b := bT) (Nat.le_refl _) tn).mono HBT.out)
            · rw [← HTN.out]
              exact putT_at (HK.out.2.below HX.out) tn
          case measure => simp only [intOf]; have := H12.out; omega
        · have g2 : ¬ (i : Int) < 40 := by omega
          go_wp2
          go_meet
          case rel => exact ⟨i, Lib.hid HK.out⟩
      · go_wp2
        go_meet
        case rel => exact ⟨i, Lib.hid HK.out⟩
  case rest =>
    obtain ⟨i, HC⟩ := hcut
    have HOK := Lib.hid (runT_ok (AL := AL) HOK0.out i)
    obtain ⟨t, ht⟩ : ∃ t, t = runT AL T0 i := ⟨_, rfl⟩
    rw [← ht] at HC HOK
    clear ht HT0 HOK0
    obtain ⟨w4, hw4⟩ : ∃ x, x = wc := ⟨_, rfl⟩
    rw [← hw4] at HC ⊢
    clear hw4
    obtain ⟨c0, c1, c2, c3, c4, c5, c6, c7, c8, c9, c10⟩ := HC.out.2.cells
    have HLI := Lib.hid (fun w => list_any t HOK.out.len w)
    go_wp2_with fail
    refine (HLI.out _).mono ?_
    rintro e y1 ⟨v9, rfl, ow, bb⟩
    obtain ⟨q, hq⟩ : ∃ q, q = (stops t.L).length := ⟨_, rfl⟩
    have HQ0 := Lib.hid (isIn_of ow)
    obtain ⟨va, vc, hv9⟩ := own_shape ow
    rw [← hq] at hv9
    subst hv9
    have HQL := Lib.hid hq
    have HB := Lib.hid (HC.out.1.trans (bb.mono HC.out.1.size))
    have HT := Lib.hid (HC.out.2.below bb)
    clear ow bb HLI HC hq c0 c1 c2 c3 c4 c5 c6 c7 c8 c9 c10
    have HQLE := Lib.hid (show q ≤ 512 ∧ t.L.length ≤ 512 by have := stops_len t.L; have := HOK.out.len; have := HQL.out; omega)
    obtain ⟨la1, hla1⟩ : ∃ x, x = lastM t.L := ⟨_, rfl⟩
    have HLA := Lib.hid hla1
    go_upto_region 9 with (fail)
    go_cut [10] (fun v10 wc => v10 = .int .i64 (la1 : Nat) ∧ Hid (Below y1.heap.size y1 wc))
    case first =>
      obtain ⟨c0, c1, c2, c3, c4, c5, c6, c7, c8, c9, c10⟩ := HT.out.cells
      have HCO := Lib.hid (fun w => cols_any t w)
      go_wp2_with fail
      refine (HCO.out _).mono ?_
      rintro e y2 ⟨rfl, bb⟩
      have HBB := Lib.hid bb
      clear bb HCO
      have u1 : IntKind.i64.wrap ((t.L.length : Int) - 1) = (t.L.length : Int) - 1 := by rw [IntKind.wrap_i64]; have := HQLE.out; omega
      go_wp2
      all_goals
        go_meet
        case rel =>
          refine ⟨?_, HBB⟩
          rw [HLA.out]
          unfold lastM
          congr 1
          omega
    case rest =>
      obtain ⟨rfl, HCB⟩ := hcut
      obtain ⟨y2, hy2⟩ : ∃ x, x = wc := ⟨_, rfl⟩
      rw [← hy2] at HCB ⊢
      clear hy2 hla1
      have HT2 := Lib.hid (HT.out.below HCB.out)
      have HB2 := Lib.hid (HB.out.trans (HCB.out.mono HB.out.size))
      have HQ2 := Lib.hid (HQ0.out.below HCB.out)
      clear HT HB HQ0 HCB
      have HNX := Lib.hid (fun c w => next_any t HOK.out.len c 1 (by decide) w)
      have HBK := Lib.hid (fun c w => back_any t HOK.out.len c 1 (by decide) w)
      have HCO := Lib.hid (fun w => cols_any t w)
      go_upto_block 2 with (fail)
      go_cut [11] (fun v11 wc => v11 = .int .i64 (atZ t.L q) ∧ Hid (Below y2.heap.size y2 wc))
      case first =>
        go_wp2_with fail
        go_loopw [11, 12] (fun v x wr => ∃ i : Nat, x = .int .i64 (i : Nat) ∧ v = .int .i64 (atZ t.L i) ∧ Hid (i ≤ q) ∧ Hid (Below y2.heap.size y2 wr)) (fun v x wr => q - (intOf x).toNat)
        case atStart => exact ⟨0, rfl, rfl, Lib.hid (Nat.zero_le _), Lib.hid (Below.refl _ _)⟩
        case round =>
          rename_i v x
          obtain ⟨i, rfl, rfl, HI, HK⟩ := hrel
          have HTr := Lib.hid (HT2.out.below HK.out)
          have HQr := Lib.hid (HQ2.out.below HK.out)
          by_cases hlt : i < q
          · have HLT := Lib.hid hlt
            obtain ⟨x, hx⟩ : ∃ x, x = (stops t.L).getD i 0 := ⟨_, rfl⟩
            have HX0 := Lib.hid hx
            have HWN := Lib.hid (show nextM t.L (atZ t.L i) 1 = x by rw [walk_next (by rw [← HQL.out]; exact HI.out), hx]; exact getD_in (by rw [← HQL.out]; exact HLT.out) _ _)
            have HN1 := Lib.hid (fun w => HNX.out (atZ t.L i) w)
            rw [HWN.out] at HN1
            have HHS := Lib.hid (fun w => has_val t HOK.out (x : Nat) true (by rw [hx]; exact has_stop (by rw [← HQL.out]; exact HLT.out)) w)
            have HXL := Lib.hid (show x < t.L.length by rw [hx, getD_at (by rw [← HQL.out]; exact HLT.out)]; exact stop_lt _)
            obtain ⟨az, haz⟩ : ∃ az, az = atZ t.L i := ⟨_, rfl⟩
            rw [← haz] at HN1 ⊢
            have u1 : IntKind.i64.wrap ((i : Int) + 1) = ((i + 1 : Nat) : Int) := by rw [IntKind.wrap_i64]; have := HQLE.out; omega
            clear hx haz
            obtain ⟨c0, c1, c2, c3, c4, c5, c6, c7, c8, c9, c10⟩ := HTr.out.cells
            go_wp2_with fail
            refine (HN1.out _).mono ?_
            rintro e y4 ⟨rfl, bb⟩
            have HB4 := Lib.hid bb
            clear bb HN1 c0 c1 c2 c3 c4 c5 c6 c7 c8 c9 c10
            have HT4 := Lib.hid (HTr.out.below HB4.out)
            obtain ⟨g, o, hva, hc⟩ := (HQr.out.below HB4.out).get (i := i) (by rw [List.length_map, ← HQL.out]; exact HLT.out)
            have hcx : y4.cell? ⟨g, o + i, none⟩ = some (.int .i64 (x : Nat)) := by
              rw [hc, HX0.out, getD_at (by rw [← HQL.out]; exact HLT.out)]
              simp
            clear hc
            have g5 : ¬ (t.L.length : Int) ≤ (x : Int) := by have := HXL.out; omega
            have g5n : ¬ t.L.length ≤ x := by have := HXL.out; omega
            by_cases h0 : i = 0
            · obtain rfl : 0 = i := h0.symm
              clear h0
              rw [Nat.add_zero] at hcx
              subst hva
              have KEEP := Lib.hid (show ∀ wx, Below y4.heap.size y4 wx → wx.cell? ⟨g, o, none⟩ = some (.int .i64 (x : Nat)) ∧ wx.cell? ⟨bT, 0, none⟩ = some (wV t.L 0) ∧ wx.cell? ⟨bT, 1, none⟩ = some (wV t.L 1) ∧ wx.cell? ⟨bT, 2, none⟩ = some (wV t.L 2) ∧ wx.cell? ⟨bT, 3, none⟩ = some (wV t.L 3) ∧ wx.cell? ⟨bT, 4, none⟩ = some (wV t.L 4) ∧ wx.cell? ⟨bT, 5, none⟩ = some (wV t.L 5) ∧ wx.cell? ⟨bT, 6, none⟩ = some (wV t.L 6) ∧ wx.cell? ⟨bT, 7, none⟩ = some (wV t.L 7) ∧ wx.cell? ⟨bT, 8, none⟩ = some (.int .i64 (t.L.length : Nat)) ∧ wx.cell? ⟨bT, 9, none⟩ = some (.int .u8 (t.b : Nat)) ∧ wx.cell? ⟨bT, 10, none⟩ = some (.int .u8 (t.l : Nat)) from fun wx hx => ⟨(hx.cell (World.block_lt_of_cell? y4 _ hcx)).trans hcx, (HT4.out.below hx).cells⟩)
              clear hcx
              go_upto_region 15 with (fail)
              refine region_but (S := (fun wx => wx.cell? ⟨g, o, none⟩ = some (.int .i64 (x : Nat)) ∧ wx.cell? ⟨bT, 0, none⟩ = some (wV t.L 0) ∧ wx.cell? ⟨bT, 1, none⟩ = some (wV t.L 1) ∧ wx.cell? ⟨bT, 2, none⟩ = some (wV t.L 2) ∧ wx.cell? ⟨bT, 3, none⟩ = some (wV t.L 3) ∧ wx.cell? ⟨bT, 4, none⟩ = some (wV t.L 4) ∧ wx.cell? ⟨bT, 5, none⟩ = some (wV t.L 5) ∧ wx.cell? ⟨bT, 6, none⟩ = some (wV t.L 6) ∧ wx.cell? ⟨bT, 7, none⟩ = some (wV t.L 7) ∧ wx.cell? ⟨bT, 8, none⟩ = some (.int .i64 (t.L.length : Nat)) ∧ wx.cell? ⟨bT, 9, none⟩ = some (.int .u8 (t.b : Nat)) ∧ wx.cell? ⟨bT, 10, none⟩ = some (.int .u8 (t.l : Nat)))) 33 (by kernel_rfl) (KEEP.out _ ((Below.refl _ _).drew)) (fun hHeld => ?_)
              obtain ⟨wz, hwz⟩ : ∃ X, X = y4.drew := ⟨_, rfl⟩
              have HX := Lib.hid (show Below y4.heap.size y4 wz by rw [hwz]; exact (Below.refl _ _).drew)
              replace hHeld := KEEP.out _ HX.out
              rw [← hwz]
              clear hwz
              refine ti 0 rfl (fun w hSw => by (try dsimp only at hSw); go_simp; try with_reducible rfl) ?_
              go_frame
              refine ti 1 rfl (fun w hSw => by (try dsimp only at hSw); go_simp; try with_reducible rfl) ?_
              go_frame
              refine ti 2 rfl (fun w hSw => by (try dsimp only at hSw); go_simp; try with_reducible rfl) ?_
              go_frame
              refine ti 3 rfl (fun w hSw => by (try dsimp only at hSw); go_simp; try with_reducible rfl) ?_
              go_frame
              refine ti 4 rfl (fun w hSw => by (try dsimp only at hSw); go_simp; try with_reducible rfl) ?_
              go_frame
              refine ti 5 rfl (fun w hSw => by (try dsimp only at hSw); go_simp; try with_reducible rfl) ?_
              go_frame
              refine ti 6 rfl (fun w hSw => by (try dsimp only at hSw); go_simp; try with_reducible rfl) ?_
              go_frame
              refine ti 7 rfl (fun w hSw => by (try dsimp only at hSw); go_simp; try with_reducible rfl) ?_
              go_frame
              refine ti 8 rfl (fun w hSw => by (try dsimp only at hSw); go_simp; try with_reducible rfl) ?_
              go_frame
              refine th 9 rfl (by kernel_rfl) (by decide) (by kernel_rfl) (fun K hK => ?_)
              go_simp
              refine (HHS.out _).mono ?_
              rintro e y5 ⟨rfl, bb⟩
              replace HX := Lib.hid (HX.out.trans (bb.mono HX.out.size))
              clear bb
              go_wp2_with fail
              refine hK.out _ _ (KEEP.out _ HX.out) (fun hHeld => ?_)
              clear hK K
              try go_frame
              refine ti 10 rfl (fun w hSw => by (try dsimp only at hSw); go_simp; try with_reducible rfl) ?_
              go_frame
              refine ti 11 rfl (fun w hSw => by (try dsimp only at hSw); go_simp; try with_reducible rfl) ?_
              go_frame
              refine ti 12 rfl (fun w hSw => by (try dsimp only at hSw); go_simp; try with_reducible rfl) ?_
              go_frame
              refine ti 13 rfl (fun w hSw => by (try dsimp only at hSw); go_simp; try with_reducible rfl) ?_
              go_frame
              refine ti 14 rfl (fun w hSw => by (try dsimp only at hSw); go_simp; try with_reducible rfl) ?_
              go_frame
              refine ti 15 rfl (fun w hSw => by (try dsimp only at hSw); go_simp; try with_reducible rfl) ?_
              go_frame
              refine ts 16 rfl ?_
              go_frame
              refine ts 17 rfl ?_
              go_frame
              refine ts 18 rfl ?_
              go_frame
              refine ts 19 rfl ?_
              go_frame
              refine ts 20 rfl ?_
              go_frame
              refine ts 21 rfl ?_
              go_frame
              refine ts 22 rfl ?_
              go_frame
              refine ts 23 rfl ?_
              go_frame
              refine ts 24 rfl ?_
              go_frame
              refine ts 25 rfl ?_
              go_frame
              refine ti 26 rfl (fun w hSw => by (try dsimp only at hSw); go_simp; try with_reducible rfl) ?_
              go_frame
              refine ti 27 rfl (fun w hSw => by (try dsimp only at hSw); go_simp; try with_reducible rfl) ?_
              go_frame
              refine ti 28 rfl (fun w hSw => by (try dsimp only at hSw); go_simp; try with_reducible rfl) ?_
              go_frame
              refine ti 29 rfl (fun w hSw => by (try dsimp only at hSw); go_simp; try with_reducible rfl) ?_
              go_frame
              refine ti 30 rfl (fun w hSw => by (try dsimp only at hSw); go_simp; try with_reducible rfl) ?_
              go_frame
              refine th 31 rfl (by kernel_rfl) (by decide) (by kernel_rfl) (fun K hK => ?_)
              go_simp
              refine (HCO.out _).mono ?_
              rintro e y6 ⟨rfl, bb⟩
              replace HX := Lib.hid (HX.out.trans (bb.mono HX.out.size))
              clear bb
              go_wp2_with fail
              refine hK.out _ _ (KEEP.out _ HX.out) (fun hHeld => ?_)
              clear hK K
              try go_frame
              refine ti 32 rfl (fun w hSw => by (try dsimp only at hSw); go_simp; try with_reducible rfl) ?_
              go_frame
              refine tx rfl (by kernel_rfl) (by kernel_rfl) (by kernel_rfl) (fun K hK => ?_)
              go_simp
              refine hK.out _ _ ?_
              clear hK K hHeld KEEP
              try go_frame
              go_wp2
              go_roundw
              case rel => exact ⟨0 + 1, by go_num, by rw [atZ_next, ← HX0.out], Lib.hid (by have := HLT.out; omega), Lib.hid ((HK.out.trans (HB4.out.mono HK.out.size)).trans (HX.out.mono (HK.out.trans (HB4.out.mono HK.out.size)).size))⟩
              case measure => simp only [intOf]; have := HLT.out; omega
            · obtain ⟨k, hk⟩ : ∃ k, i = k + 1 := ⟨i - 1, by omega⟩
              obtain ⟨x2, hx2⟩ : ∃ x, x = (stops t.L).getD k 0 := ⟨_, rfl⟩
              have hcx2 : y4.cell? ⟨g, o + k, none⟩ = some (.int .i64 (x2 : Nat)) := by
                obtain ⟨g2, o2, hva2, hc2⟩ := (HQr.out.below HB4.out).get (i := k) (by rw [List.length_map, ← HQL.out]; have := HLT.out; omega)
                rw [hva] at hva2
                injection hva2 with e1
                injection e1 with e2 e3 _
                rw [e2, e3, hc2, hx2, getD_at (by rw [← HQL.out]; have := HLT.out; omega)]
                simp
              have HLTX := Lib.hid (show x2 < x by rw [hx2, HX0.out, hk]; exact stop_up (by rw [← HQL.out, ← hk]; exact HLT.out))
              have g6 : ¬ (x : Int) ≤ (x2 : Int) := by have := HLTX.out; omega
              have g6n : ¬ x ≤ x2 := by have := HLTX.out; omega
              have g7 : (0 : Int) < (i : Int) := by omega
              have g7n : 0 < i := by omega
              have u2 : IntKind.i64.wrap ((i : Int) - 1) = (k : Nat) := by rw [IntKind.wrap_i64]; have := HQLE.out; have := HLT.out; omega
              have hkq : k < q := by have := HLT.out; omega
              clear h0 hk hx2
              subst hva
              have KEEP := Lib.hid (show ∀ wx, Below y4.heap.size y4 wx → wx.cell? ⟨g, o + i, none⟩ = some (.int .i64 (x : Nat)) ∧ wx.cell? ⟨g, o + k, none⟩ = some (.int .i64 (x2 : Nat)) ∧ wx.cell? ⟨bT, 0, none⟩ = some (wV t.L 0) ∧ wx.cell? ⟨bT, 1, none⟩ = some (wV t.L 1) ∧ wx.cell? ⟨bT, 2, none⟩ = some (wV t.L 2) ∧ wx.cell? ⟨bT, 3, none⟩ = some (wV t.L 3) ∧ wx.cell? ⟨bT, 4, none⟩ = some (wV t.L 4) ∧ wx.cell? ⟨bT, 5, none⟩ = some (wV t.L 5) ∧ wx.cell? ⟨bT, 6, none⟩ = some (wV t.L 6) ∧ wx.cell? ⟨bT, 7, none⟩ = some (wV t.L 7) ∧ wx.cell? ⟨bT, 8, none⟩ = some (.int .i64 (t.L.length : Nat)) ∧ wx.cell? ⟨bT, 9, none⟩ = some (.int .u8 (t.b : Nat)) ∧ wx.cell? ⟨bT, 10, none⟩ = some (.int .u8 (t.l : Nat)) from fun wx hx => ⟨(hx.cell (World.block_lt_of_cell? y4 _ hcx)).trans hcx, (hx.cell (World.block_lt_of_cell? y4 _ hcx2)).trans hcx2, (HT4.out.below hx).cells⟩)
              clear hcx hcx2
              go_upto_region 15 with (fail)
              refine region_but (S := (fun wx => wx.cell? ⟨g, o + i, none⟩ = some (.int .i64 (x : Nat)) ∧ wx.cell? ⟨g, o + k, none⟩ = some (.int .i64 (x2 : Nat)) ∧ wx.cell? ⟨bT, 0, none⟩ = some (wV t.L 0) ∧ wx.cell? ⟨bT, 1, none⟩ = some (wV t.L 1) ∧ wx.cell? ⟨bT, 2, none⟩ = some (wV t.L 2) ∧ wx.cell? ⟨bT, 3, none⟩ = some (wV t.L 3) ∧ wx.cell? ⟨bT, 4, none⟩ = some (wV t.L 4) ∧ wx.cell? ⟨bT, 5, none⟩ = some (wV t.L 5) ∧ wx.cell? ⟨bT, 6, none⟩ = some (wV t.L 6) ∧ wx.cell? ⟨bT, 7, none⟩ = some (wV t.L 7) ∧ wx.cell? ⟨bT, 8, none⟩ = some (.int .i64 (t.L.length : Nat)) ∧ wx.cell? ⟨bT, 9, none⟩ = some (.int .u8 (t.b : Nat)) ∧ wx.cell? ⟨bT, 10, none⟩ = some (.int .u8 (t.l : Nat)))) 33 (by kernel_rfl) (KEEP.out _ ((Below.refl _ _).drew)) (fun hHeld => ?_)
              obtain ⟨wz, hwz⟩ : ∃ X, X = y4.drew := ⟨_, rfl⟩
              have HX := Lib.hid (show Below y4.heap.size y4 wz by rw [hwz]; exact (Below.refl _ _).drew)
              replace hHeld := KEEP.out _ HX.out
              rw [← hwz]
              clear hwz
              refine ti 0 rfl (fun w hSw => by (try dsimp only at hSw); go_simp; try with_reducible rfl) ?_
              go_frame
              refine ti 1 rfl (fun w hSw => by (try dsimp only at hSw); go_simp; try with_reducible rfl) ?_
              go_frame
              refine ti 2 rfl (fun w hSw => by (try dsimp only at hSw); go_simp; try with_reducible rfl) ?_
              go_frame
              refine ti 3 rfl (fun w hSw => by (try dsimp only at hSw); go_simp; try with_reducible rfl) ?_
              go_frame
              refine ti 4 rfl (fun w hSw => by (try dsimp only at hSw); go_simp; try with_reducible rfl) ?_
              go_frame
              refine ti 5 rfl (fun w hSw => by (try dsimp only at hSw); go_simp; try with_reducible rfl) ?_
              go_frame
              refine ti 6 rfl (fun w hSw => by (try dsimp only at hSw); go_simp; try with_reducible rfl) ?_
              go_frame
              refine ti 7 rfl (fun w hSw => by (try dsimp only at hSw); go_simp; try with_reducible rfl) ?_
              go_frame
              refine ti 8 rfl (fun w hSw => by (try dsimp only at hSw); go_simp; try with_reducible rfl) ?_
              go_frame
              refine th 9 rfl (by kernel_rfl) (by decide) (by kernel_rfl) (fun K hK => ?_)
              go_simp
              refine (HHS.out _).mono ?_
              rintro e y5 ⟨rfl, bb⟩
              replace HX := Lib.hid (HX.out.trans (bb.mono HX.out.size))
              clear bb
              go_wp2_with fail
              refine hK.out _ _ (KEEP.out _ HX.out) (fun hHeld => ?_)
              clear hK K
              try go_frame
              refine ti 10 rfl (fun w hSw => by (try dsimp only at hSw); go_simp; try with_reducible rfl) ?_
              go_frame
              refine ti 11 rfl (fun w hSw => by (try dsimp only at hSw); go_simp; try with_reducible rfl) ?_
              go_frame
              refine ti 12 rfl (fun w hSw => by (try dsimp only at hSw); go_simp; try with_reducible rfl) ?_
              go_frame
              refine ti 13 rfl (fun w hSw => by (try dsimp only at hSw); go_simp; try with_reducible rfl) ?_
              go_frame
              refine ti 14 rfl (fun w hSw => by (try dsimp only at hSw); go_simp; try with_reducible rfl) ?_
              go_frame
              refine ti 15 rfl (fun w hSw => by (try dsimp only at hSw); go_simp; try with_reducible rfl) ?_
              go_frame
              refine ti 16 rfl (fun w hSw => by (try dsimp only at hSw); go_simp; try with_reducible rfl) ?_
              go_frame
              refine ti 17 rfl (fun w hSw => by (try dsimp only at hSw); go_simp; try with_reducible rfl) ?_
              go_frame
              refine ti 18 rfl (fun w hSw => by (try dsimp only at hSw); go_simp; try with_reducible rfl) ?_
              go_frame
              refine ti 19 rfl (fun w hSw => by (try dsimp only at hSw); go_simp; try with_reducible rfl) ?_
              go_frame
              refine ti 20 rfl (fun w hSw => by (try dsimp only at hSw); go_simp; try with_reducible rfl) ?_
              go_frame
              refine ti 21 rfl (fun w hSw => by (try dsimp only at hSw); go_simp; try with_reducible rfl) ?_
              go_frame
              refine ti 22 rfl (fun w hSw => by (try dsimp only at hSw); go_simp; try with_reducible rfl) ?_
              go_frame
              refine ti 23 rfl (fun w hSw => by (try dsimp only at hSw); go_simp; try with_reducible rfl) ?_
              go_frame
              refine ti 24 rfl (fun w hSw => by (try dsimp only at hSw); go_simp; try with_reducible rfl) ?_
              go_frame
              refine ti 25 rfl (fun w hSw => by (try dsimp only at hSw); go_simp; try with_reducible rfl) ?_
              go_frame
              refine ti 26 rfl (fun w hSw => by (try dsimp only at hSw); go_simp; try with_reducible rfl) ?_
              go_frame
              refine ti 27 rfl (fun w hSw => by (try dsimp only at hSw); go_simp; try with_reducible rfl) ?_
              go_frame
              refine ti 28 rfl (fun w hSw => by (try dsimp only at hSw); go_simp; try with_reducible rfl) ?_
              go_frame
              refine ti 29 rfl (fun w hSw => by (try dsimp only at hSw); go_simp; try with_reducible rfl) ?_
              go_frame
              refine ti 30 rfl (fun w hSw => by (try dsimp only at hSw); go_simp; try with_reducible rfl) ?_
              go_frame
              refine th 31 rfl (by kernel_rfl) (by decide) (by kernel_rfl) (fun K hK => ?_)
              go_simp
              refine (HCO.out _).mono ?_
              rintro e y6 ⟨rfl, bb⟩
              replace HX := Lib.hid (HX.out.trans (bb.mono HX.out.size))
              clear bb
              go_wp2_with fail
              refine hK.out _ _ (KEEP.out _ HX.out) (fun hHeld => ?_)
              clear hK K
              try go_frame
              refine ti 32 rfl (fun w hSw => by (try dsimp only at hSw); go_simp; try with_reducible rfl) ?_
              go_frame
              refine tx rfl (by kernel_rfl) (by kernel_rfl) (by kernel_rfl) (fun K hK => ?_)
              go_simp
              refine hK.out _ _ ?_
              clear hK K hHeld KEEP
              try go_frame
              go_wp2
              go_roundw
              case rel => exact ⟨i + 1, by go_num, by rw [atZ_next, ← HX0.out], Lib.hid (by have := HLT.out; omega), Lib.hid ((HK.out.trans (HB4.out.mono HK.out.size)).trans (HX.out.mono (HK.out.trans (HB4.out.mono HK.out.size)).size))⟩
              case measure => simp only [intOf]; have := HLT.out; omega
          · obtain rfl : i = q := by have := HI.out; omega
            go_wp2
            go_meet
            case rel => exact ⟨rfl, HK⟩
      case rest =>
        obtain ⟨rfl, HCB⟩ := hcut
        obtain ⟨y3, hy3⟩ : ∃ x, x = wc := ⟨_, rfl⟩
        rw [← hy3] at HCB ⊢
        clear hy3
        have HT3 := Lib.hid (HT2.out.below HCB.out)
        have HB3 := Lib.hid (HB2.out.trans (HCB.out.mono HB2.out.size))
        have HQ3 := Lib.hid (HQ2.out.below HCB.out)
        clear HT2 HB2 HQ2 HCB
        have HNL := Lib.hid (show ∀ w, Calls Try.prog 20 #[tbV t, .int .i64 (la1 : Nat), .int .i64 1] w fun e w' => e = .returned (.int .i64 (la1 : Nat)) ∧ Below w.heap.size w w' from fun w => by
          have h := HNX.out (la1 : Nat) w
          rw [HLA.out, next_last, ← HLA.out] at h
          exact h)
        have HNQ := Lib.hid (show ∀ w, Calls Try.prog 20 #[tbV t, .int .i64 (atZ t.L q), .int .i64 1] w fun e w' => e = .returned (.int .i64 (la1 : Nat)) ∧ Below w.heap.size w w' from fun w => by
          have h := HNX.out (atZ t.L q) w
          rw [walk_next (by rw [← HQL.out]; exact Nat.le_refl _), List.getD_eq_getElem?_getD, List.getElem?_eq_none (by rw [← HQL.out]; exact Nat.le_refl _), Option.getD_none, ← HLA.out] at h
          exact h)
        obtain ⟨az, haz⟩ : ∃ az, az = atZ t.L q := ⟨_, rfl⟩
        rw [← haz] at HNQ ⊢
        clear haz
        obtain ⟨c0, c1, c2, c3, c4, c5, c6, c7, c8, c9, c10⟩ := HT3.out.cells
        go_wp2_with fail
        refine (HNL.out _).mono ?_
        rintro e y4 ⟨rfl, bb⟩
        have HB4 := Lib.hid (HB3.out.trans (bb.mono HB3.out.size))
        have HT4 := Lib.hid (HT3.out.below bb)
        have HQ4 := Lib.hid (HQ3.out.below bb)
        clear bb HB3 HT3 HQ3 c0 c1 c2 c3 c4 c5 c6 c7 c8 c9 c10
        obtain ⟨c0, c1, c2, c3, c4, c5, c6, c7, c8, c9, c10⟩ := HT4.out.cells
        go_wp2_with fail
        refine (HNQ.out _).mono ?_
        rintro e y5 ⟨rfl, bb⟩
        have HB5 := Lib.hid (HB4.out.trans (bb.mono HB4.out.size))
        have HT5 := Lib.hid (HT4.out.below bb)
        have HQ5 := Lib.hid (HQ4.out.below bb)
        clear bb HB4 HT4 HQ4 HNL HNQ c0 c1 c2 c3 c4 c5 c6 c7 c8 c9 c10
        obtain ⟨c0, c1, c2, c3, c4, c5, c6, c7, c8, c9, c10⟩ := HT5.out.cells
        go_wp2_with fail
        refine (HCO.out _).mono ?_
        rintro e y6 ⟨rfl, bb⟩
        have HB6 := Lib.hid (HB5.out.trans (bb.mono HB5.out.size))
        have HT6 := Lib.hid (HT5.out.below bb)
        have HQ6 := Lib.hid (HQ5.out.below bb)
        clear bb HB5 HT5 HQ5 HCO c0 c1 c2 c3 c4 c5 c6 c7 c8 c9 c10
        have u1 : IntKind.i64.wrap ((q : Int) - 1) = (q : Int) - 1 := by rw [IntKind.wrap_i64]; have := HQLE.out; omega
        have HBZ := Lib.hid (show backZ t.L q = t.L.length by unfold backZ; rw [if_pos HQL.out])
        rw [← HBZ.out]
        go_upto_block 4 with (fail)
        go_cut [13] (fun v13 wc => v13 = .int .i64 (backZ t.L 0 : Nat) ∧ Hid (Below y6.heap.size y6 wc))
        case first =>
          go_wp2_with fail
          go_loopw [13, 14] (fun v x wr => ∃ (j : Nat) (z : Int), x = .int .i64 z ∧ Hid (z = (j : Int) - 1) ∧ v = .int .i64 (backZ t.L j : Nat) ∧ Hid (j ≤ q) ∧ Hid (Below y6.heap.size y6 wr)) (fun v x wr => (intOf x + 1).toNat)
          case atStart => exact ⟨q, (q : Int) - 1, rfl, Lib.hid rfl, rfl, Lib.hid (Nat.le_refl _), Lib.hid (Below.refl _ _)⟩
          case round =>
            rename_i v x
            obtain ⟨j, z, rfl, HZJ, rfl, HJ, HK⟩ := hrel
            clear u1
            by_cases h0 : j = 0
            · obtain rfl : z = -1 := by have := HZJ.out; omega
              go_wp2
              go_meet
              case rel => exact ⟨by rw [h0], HK⟩
            · obtain ⟨k, hk⟩ : ∃ k, j = k + 1 := ⟨j - 1, by omega⟩
              obtain rfl : z = (k : Int) := by have := HZJ.out; omega
              have HKQ := Lib.hid (show k < q by have := HJ.out; omega)
              obtain ⟨bz, hbz⟩ : ∃ b, b = backZ t.L k := ⟨_, rfl⟩
              have HBK2 := Lib.hid (show ∀ w, Calls Try.prog 22 #[tbV t, .int .i64 (backZ t.L j : Nat), .int .i64 1] w fun e w' => e = .returned (.int .i64 (bz : Nat)) ∧ Below w.heap.size w w' from fun w => by
                have h := HBK.out (backZ t.L j : Nat) w
                rw [walk_back (by rw [← HQL.out]; exact HJ.out), if_neg h0, show j - 1 = k by omega] at h
                rw [hbz, show backZ t.L k = (stops t.L).getD k 0 by unfold backZ; rw [if_neg (by rw [← HQL.out]; have := HKQ.out; omega)]]
                exact h)
              have HBZ2 := Lib.hid hbz
              have HTr := Lib.hid (HT6.out.below HK.out)
              obtain ⟨bj, hbj⟩ : ∃ b, b = backZ t.L j := ⟨_, rfl⟩
              rw [← hbj] at HBK2 ⊢
              have u1 : IntKind.i64.wrap ((k : Int) - 1) = (k : Int) - 1 := by rw [IntKind.wrap_i64]; have := HQLE.out; have := HKQ.out; omega
              clear hbz hbj hk h0 HZJ
              obtain ⟨c0, c1, c2, c3, c4, c5, c6, c7, c8, c9, c10⟩ := HTr.out.cells
              go_wp2_with fail
              refine (HBK2.out _).mono ?_
              rintro e y7 ⟨rfl, bb⟩
              have HB7 := Lib.hid (HK.out.trans (bb.mono HK.out.size))
              clear bb HBK2 c0 c1 c2 c3 c4 c5 c6 c7 c8 c9 c10
              obtain ⟨g, o, hva, hc⟩ := (HQ6.out.below HB7.out).get (i := k) (by rw [List.length_map, ← HQL.out]; exact HKQ.out)
              have hcx : y7.cell? ⟨g, o + k, none⟩ = some (.int .i64 (bz : Nat)) := by
                rw [hc, HBZ2.out]
                unfold backZ
                rw [if_neg (by rw [← HQL.out]; have := HKQ.out; omega), getD_at (by rw [← HQL.out]; exact HKQ.out)]
                simp
              subst hva
              have hkq := HKQ.out
              clear hc
              go_wp2
              go_roundw
              case rel => exact ⟨k, (k : Int) - 1, rfl, Lib.hid rfl, by rw [HBZ2.out], Lib.hid (by omega), HB7⟩
              case measure => simp only [intOf]; omega
        case rest =>
          obtain ⟨rfl, HCB⟩ := hcut
          obtain ⟨y7, hy7⟩ : ∃ x, x = wc := ⟨_, rfl⟩
          rw [← hy7] at HCB ⊢
          clear hy7 u1 HBZ
          have HT7 := Lib.hid (HT6.out.below HCB.out)
          have HB7 := Lib.hid (HB6.out.trans (HCB.out.mono HB6.out.size))
          clear HT6 HB6 HQ6 HCB
          have HB0 := Lib.hid (show ∀ w, Calls Try.prog 22 #[tbV t, .int .i64 (backZ t.L 0 : Nat), .int .i64 1] w fun e w' => e = .returned (.int .i64 0) ∧ Below w.heap.size w w' from fun w => by
            have h := HBK.out (backZ t.L 0 : Nat) w
            rw [walk_back (Nat.zero_le _), if_pos rfl] at h
            exact h)
          obtain ⟨bj, hbj⟩ : ∃ b, b = backZ t.L 0 := ⟨_, rfl⟩
          rw [← hbj] at HB0 ⊢
          clear hbj
          obtain ⟨c0, c1, c2, c3, c4, c5, c6, c7, c8, c9, c10⟩ := HT7.out.cells
          go_wp2_with fail
          refine (HB0.out _).mono ?_
          rintro e y8 ⟨rfl, bb⟩
          have HB8 := Lib.hid (HB7.out.trans (bb.mono HB7.out.size))
          have HT8 := Lib.hid (HT7.out.below bb)
          clear bb HB7 HT7 HB0 c0 c1 c2 c3 c4 c5 c6 c7 c8 c9 c10
          obtain ⟨p, hp⟩ : ∃ p, p = m % 20 := ⟨_, rfl⟩
          have r1 : ((m : Nat) : Int).tmod 20 = (p : Nat) := by rw [hp, Int.tmod_eq_emod_of_nonneg (by omega)]; rfl
          have r2 : ((m : Nat) : Int) % 20 = (p : Nat) := by rw [hp]; rfl
          have r3 : IntKind.i64.wrap ((p : Nat) : Int) = (p : Nat) := by rw [IntKind.wrap_i64]; omega
          have HP := Lib.hid (show p < 20 by omega)
          clear hp
          have HN0 := Lib.hid (next_zero t.L)
          have HL0 := Lib.hid (show backM t.L (la1 : Nat) ((0 : Nat) : Int) = la1 by rw [HLA.out]; exact back_last t.L)
          go_upto_block 6 with (fail)
          go_cut [15, 16] (fun v15 v16 wc => v15 = .int .i64 (nextM t.L 0 (p : Nat) : Nat) ∧ v16 = .int .i64 (backM t.L (la1 : Nat) (p : Nat) : Nat) ∧ Hid (Below y8.heap.size y8 wc))
          case first =>
            go_wp2_with fail
            go_loopw [15, 16, 17] (fun v x y wr => ∃ i : Nat, y = .int .i64 (i : Nat) ∧ v = .int .i64 (nextM t.L 0 (i : Nat) : Nat) ∧ x = .int .i64 (backM t.L (la1 : Nat) (i : Nat) : Nat) ∧ Hid (i ≤ p) ∧ Hid (Below y8.heap.size y8 wr)) (fun v x y wr => p - (intOf y).toNat)
            case atStart => exact ⟨0, rfl, by rw [HN0.out]; rfl, by rw [HL0.out], Lib.hid (Nat.zero_le _), Lib.hid (Below.refl _ _)⟩
            case round =>
              rename_i v x y
              obtain ⟨i, rfl, rfl, rfl, HI, HK⟩ := hrel
              by_cases hlt : i < p
              · have HLT := Lib.hid hlt
                have HTr := Lib.hid (HT8.out.below HK.out)
                obtain ⟨na, hna⟩ : ∃ a, a = nextM t.L 0 (i : Nat) := ⟨_, rfl⟩
                obtain ⟨ba, hba⟩ : ∃ a, a = backM t.L (la1 : Nat) (i : Nat) := ⟨_, rfl⟩
                obtain ⟨nb, hnb⟩ : ∃ a, a = nextM t.L 0 ((i + 1 : Nat) : Int) := ⟨_, rfl⟩
                obtain ⟨bb2, hbb⟩ : ∃ a, a = backM t.L (la1 : Nat) ((i + 1 : Nat) : Int) := ⟨_, rfl⟩
                have HNI := Lib.hid (fun w => HNX.out (na : Nat) w)
                have HBI := Lib.hid (fun w => HBK.out (ba : Nat) w)
                rw [show nextM t.L (na : Nat) 1 = nb by rw [hnb, hna, next_many]] at HNI
                rw [show backM t.L (ba : Nat) 1 = bb2 by rw [hbb, hba, HLA.out, back_many]] at HBI
                have HE1 := Lib.hid hnb
                have HE2 := Lib.hid hbb
                rw [← hna, ← hba]
                have u1 : IntKind.i64.wrap ((i : Int) + 1) = ((i + 1 : Nat) : Int) := by rw [IntKind.wrap_i64]; have := HP.out; omega
                clear hna hba hnb hbb
                obtain ⟨c0, c1, c2, c3, c4, c5, c6, c7, c8, c9, c10⟩ := HTr.out.cells
                go_wp2_with fail
                refine (HNI.out _).mono ?_
                rintro e y9 ⟨rfl, bb⟩
                have HB9 := Lib.hid (HK.out.trans (bb.mono HK.out.size))
                have HT9 := Lib.hid (HTr.out.below bb)
                clear bb HNI HTr c0 c1 c2 c3 c4 c5 c6 c7 c8 c9 c10
                obtain ⟨c0, c1, c2, c3, c4, c5, c6, c7, c8, c9, c10⟩ := HT9.out.cells
                go_wp2_with fail
                refine (HBI.out _).mono ?_
                rintro e z1 ⟨rfl, bb⟩
                have HBz := Lib.hid (HB9.out.trans (bb.mono HB9.out.size))
                clear bb HBI HT9 c0 c1 c2 c3 c4 c5 c6 c7 c8 c9 c10
                go_wp2
                go_roundw
                case rel => exact ⟨i + 1, by go_num, by rw [HE1.out], by rw [HE2.out], Lib.hid HLT.out, HBz⟩
                case measure => simp only [intOf]; have := HLT.out; omega
              · obtain rfl : i = p := by have := HI.out; omega
                go_wp2
                go_meet
                case rel => exact ⟨rfl, rfl, HK⟩
          case rest =>
            obtain ⟨rfl, rfl, HCB⟩ := hcut
            obtain ⟨y9, hy9⟩ : ∃ x, x = wc := ⟨_, rfl⟩
            rw [← hy9] at HCB ⊢
            clear hy9 HN0 HL0
            have HT9 := Lib.hid (HT8.out.below HCB.out)
            have HB9 := Lib.hid (HB8.out.trans (HCB.out.mono HB8.out.size))
            clear HT8 HB8 HCB
            have HNP := Lib.hid (fun w => next_any t HOK.out.len 0 (p : Nat) (by have := HP.out; omega) w)
            have HBP := Lib.hid (fun w => back_any t HOK.out.len (la1 : Nat) (p : Nat) (by have := HP.out; omega) w)
            obtain ⟨na, hna⟩ : ∃ a, a = nextM t.L 0 (p : Nat) := ⟨_, rfl⟩
            obtain ⟨ba, hba⟩ : ∃ a, a = backM t.L (la1 : Nat) (p : Nat) := ⟨_, rfl⟩
            rw [← hna] at HNP ⊢
            rw [← hba] at HBP ⊢
            clear hna hba
            obtain ⟨c0, c1, c2, c3, c4, c5, c6, c7, c8, c9, c10⟩ := HT9.out.cells
            go_wp2_with fail
            refine (HNP.out _).mono ?_
            rintro e z1 ⟨rfl, bb⟩
            have HBz := Lib.hid (HB9.out.trans (bb.mono HB9.out.size))
            have HTz := Lib.hid (HT9.out.below bb)
            clear bb HNP HT9 HB9 c0 c1 c2 c3 c4 c5 c6 c7 c8 c9 c10
            obtain ⟨c0, c1, c2, c3, c4, c5, c6, c7, c8, c9, c10⟩ := HTz.out.cells
            go_wp2_with fail
            refine (HBP.out _).mono ?_
            rintro e z2 ⟨rfl, bb⟩
            have HBy := Lib.hid (HBz.out.trans (bb.mono HBz.out.size))
            clear bb HBP HTz HBz c0 c1 c2 c3 c4 c5 c6 c7 c8 c9 c10
            go_wp2
            go_ret
            exact ⟨rfl, HBy.out⟩
end Go.Proofs.Ytmfbknmcmopjnaa.Lab
