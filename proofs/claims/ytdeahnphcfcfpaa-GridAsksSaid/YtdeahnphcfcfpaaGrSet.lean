/- The reference's Set of grids. -/
import Derived.Test.YtdeahnphcfcfpaaGrNew
namespace Go.Proofs.Ytdeahnphcfcfpaa.Lab
open Go Go.RowKit

/-- What lies at a place when a row is set. -/
def setE (G : List Cls) (n : Int) (R : Cls) (k : Nat) : Cls := if (k : Int) = n ∧ R.length = (rowG G 0).length then R else rowG G k
def setRG (G : List Cls) (n : Int) (R : Cls) : List Cls := if (isInB n G.length && decide (R.length = (rowG G 0).length)) = true then G.set n.toNat R else G
theorem setE_all (G : List Cls) (n : Int) (R : Cls) : (List.range G.length).map (setE G n R) = setRG G n R := by
  have hrow : ∀ k, k < G.length → some (rowG G k) = G[k]? := fun k hk => by
    unfold rowG
    rw [List.getD_eq_getElem?_getD, List.getElem?_eq_getElem hk]
    rfl
  refine List.ext_getElem? fun k => ?_
  rw [List.getElem?_map]
  by_cases hk : k < G.length
  · rw [List.getElem?_range hk, Option.map_some]
    unfold setE setRG
    by_cases hc : (isInB n G.length && decide (R.length = (rowG G 0).length)) = true
    · rw [if_pos hc]
      rw [Bool.and_eq_true, decide_eq_true_eq] at hc
      obtain ⟨i, rfl, hi⟩ := isInB_true hc.1
      rw [Int.toNat_natCast, List.getElem?_set]
      by_cases hki : k = i
      · subst hki
        rw [if_pos ⟨rfl, hc.2⟩, if_pos rfl, if_pos hk]
      · rw [if_neg (fun h => hki (by omega)), if_neg (fun h => hki h.symm), hrow k hk]
    · rw [if_neg hc, ← hrow k hk, if_neg]
      rintro ⟨h1, h2⟩
      refine hc ?_
      rw [Bool.and_eq_true, decide_eq_true_eq]
      exact ⟨by rw [← h1, isInB_nat]; exact decide_eq_true hk, h2⟩
  · have h1 : (List.range G.length)[k]? = none := List.getElem?_eq_none (by rw [List.length_range]; omega)
    rw [h1, Option.map_none]
    refine (List.getElem?_eq_none ?_).symm
    unfold setRG
    split
    · rw [List.length_set]; omega
    · omega
set_option maxHeartbeats 8000000 in
set_option maxRecDepth 100000 in
theorem rset_any (w : World) (lo base : Nat) (hv : Value) (H : List Hd) (n : Int) (uv : Value) (R : Cls) (h : GRow w lo base hv H) (h0 : 0 < H.length) (hn : H.length ≤ 600) (hlo : lo ≤ w.heap.size) (hu : RowIn w uv R) (hR : R.length ≤ 1000) (hm : 0 < (hdAt H 0).R.length) :
    Calls Try.prog 19 #[.agg #[hv], .int .i64 n, uv] w fun e w' => ∃ v' K, e = .returned (.agg #[v']) ∧ GRow w' lo w.heap.size v' K ∧ K.map (·.R) = setRG (H.map (·.R)) n R ∧ Below w.heap.size w w' := by
  obtain ⟨g, c, rfl, hbg, hgs⟩ := h.here h0
  obtain ⟨nn, hnn⟩ : ∃ nn, nn = H.length := ⟨_, rfl⟩
  rw [← hnn] at h ⊢
  obtain ⟨ua, uc, huv⟩ := hu.shape
  obtain ⟨lr, hlr⟩ : ∃ lr, lr = R.length := ⟨_, rfl⟩
  rw [← hlr] at huv
  subst huv
  obtain ⟨w0, hw0⟩ : ∃ W0, W0 = ((w.alloc (.cells #[.slice (some ⟨g, 0, none⟩) nn c] 29)).alloc (.cells #[.slice none 0 0] 29)).alloc (.cells #[.slice none 0 0] 29) := ⟨_, rfl⟩
  obtain ⟨b3, hb3⟩ : ∃ b, b = w.heap.size := ⟨_, rfl⟩
  obtain ⟨b6, hb6⟩ : ∃ b, b = w.heap.size + 1 := ⟨_, rfl⟩
  obtain ⟨b7, hb7⟩ : ∃ b, b = w.heap.size + 1 + 1 := ⟨_, rfl⟩
  have B0 : Below w.heap.size w w0 := by rw [hw0]; exact (((Below.refl _ _).alloc (Nat.le_refl _) _).alloc (by simp) _).alloc (by simp; omega) _
  have h3 : Lie w0 b3 [.slice (some ⟨g, 0, none⟩) nn c] := by rw [hw0]; exact ((Lie.new w _ _ b3 hb3).below ((Below.refl _ _).alloc (Nat.le_refl _) _)).below ((Below.refl _ _).alloc (Nat.le_refl _) _)
  have h6 : w0.heap[b6]? = some (.cells #[.slice none 0 0] 29 (0, 0)) := by
    have := World.alloc_heap_new (w.alloc (.cells #[.slice (some ⟨g, 0, none⟩) nn c] 29)) (.cells #[.slice none 0 0] 29)
    rw [World.size_alloc] at this
    rw [hw0, hb6, Below.heap_alloc _ _ _ (by simp)]
    exact this
  have h7 : w0.heap[b7]? = some (.cells #[.slice none 0 0] 29 (0, 0)) := by
    have := World.alloc_heap_new ((w.alloc (.cells #[.slice (some ⟨g, 0, none⟩) nn c] 29)).alloc (.cells #[.slice none 0 0] 29)) (.cells #[.slice none 0 0] 29)
    rw [World.size_alloc, World.size_alloc] at this
    rw [hw0, hb7]
    exact this
  have HNE := Lib.hid (show b3 = w.heap.size ∧ b6 = w.heap.size + 1 ∧ b7 = w.heap.size + 2 ∧ w0.heap.size = w.heap.size + 3 ∧ g < w.heap.size ∧ nn ≤ 600 ∧ lr ≤ 1000 ∧ 0 < nn by rw [hw0]; exact ⟨hb3, hb6, by omega, by simp, by omega, by omega, by omega, by omega⟩)
  have HB0 := Lib.hid B0
  have H6 := Lib.hid h6
  obtain ⟨m, hmm⟩ : ∃ m, m = (hdAt H 0).R.length := ⟨_, rfl⟩
  have HM := Lib.hid (show m = (rowG (H.map (·.R)) 0).length by rw [hmm, rowG_hd])
  have HLR := Lib.hid (show ([] : Cls).length + R.length ≤ 100000 by simp only [List.length_nil]; omega)
  have HLL := Lib.hid hlr
  have HMP := Lib.hid (show 0 < m by omega)
  have HU := Lib.hid (show ∀ W, Below w.heap.size w W → RowIn W (.slice ua lr uc) R from fun W k => hu.below k)
  have HLO := Lib.hid hlo
  have HC3 := Lib.hid (show ∀ W, Buts (· = b7) w0 W → W.cell? ⟨b3, 0, none⟩ = some (.slice (some ⟨g, 0, none⟩) nn c) from fun W k => Buts.cellK k (h3.at 0 rfl) (by have := HNE.out; show ¬ b3 = b7; omega))
  have HCK := Lib.hid (show ∀ W k x, Buts (· = b7) w0 W → k < nn → x = hdAt H k → W.cell? ⟨g, k, none⟩ = some (hdV x) from fun W k x kb hk hx => by
    refine Buts.cellK kb (v := hdV x) ?_ (by have := HNE.out; show ¬ g = b7; omega)
    rw [HB0.out.cell (p := ⟨g, k, none⟩) HNE.out.2.2.2.2.1, hx, hdAt_eq (by omega)]
    exact h.at (by omega))
  have HRK := Lib.hid (show ∀ W k x, Below w.heap.size w W → k < nn → x = hdAt H k → CRow W lo (hdV x) x.R from fun W k x kb hk hx => by
    rw [hx, hdAt_eq (by omega)]
    exact (h.row (by omega)).below kb)
  have HV0 := Lib.hid h7
  have HG0 := Lib.hid (show GRow w0 lo w0.heap.size (.slice none 0 0) [] from GRow.nil _ _ _)
  obtain ⟨N, hN⟩ : ∃ N, N = n := ⟨_, rfl⟩
  have HN := Lib.hid hN
  clear hN
  have HM0 := Lib.hid (show (([] : List Hd).map (·.R)) = (List.range 0).map (setE (H.map (·.R)) N R) from rfl)
  have HT0 := Lib.hid (Buts.refl (· = b7) w0)
  have HNN := Lib.hid hnn
  have HMM := Lib.hid (show (hdAt H 0).R.length = m from hmm.symm)
  have hn5 : nn ≤ 600 := by omega
  clear B0 h3 h6 h7 h hu hlo hn hR hm hmm hnn h0 hbg hgs hlr
  go_enter Try.func19, Try.ntmps19
  go_upto_region 2 with (fail)
  rw [← hw0, ← hb7, ← hb6, ← hb3]
  clear hw0 hb7 hb6 hb3
  go_wp2
  go_loopg [8] nn (fun G i wr => ∃ (k : Nat) (v : Value) (Kl : List Hd), i = .int .i64 k ∧ k ≤ nn ∧ nn - k ≤ G ∧ Hid (wr.heap[b7]? = some (.cells #[v] 29 (0, 0))) ∧ Hid (GRow wr lo w0.heap.size v Kl) ∧ Hid (Kl.map (·.R) = (List.range k).map (setE (H.map (·.R)) N R)) ∧ Hid (Buts (· = b7) w0 wr))
  case atStart => exact ⟨0, _, [], rfl, Nat.zero_le _, Nat.sub_le _ _, HV0, HG0, HM0, HT0⟩
  case round =>
    obtain ⟨k, v, Kl, rfl, hkn, hgk, H8, HGK, HMK, HBT⟩ := hrel
    clear HV0 HG0 HM0 HT0
    have c3 := HC3.out wr HBT.out
    by_cases hlt : k < nn
    · have HKL := Lib.hid (show Kl.length = k by have := congrArg List.length HMK.out; rwa [List.length_map, List.length_map, List.length_range] at this)
      have L8 := Lib.hid (show b7 < wr.heap.size from (Array.getElem?_eq_some_iff.1 H8.out).1)
      have C8 := Lib.hid (show wr.cell? ⟨b7, 0, none⟩ = some v by rw [cell_of_row wr b7 0 _ _ _ H8.out]; simp)
      have HBB := Lib.hid (show Below w.heap.size w wr from HB0.out.trans (HBT.out.below (C := w.heap.size) (fun i hi => by have := HNE.out; omega) HB0.out.size))
      have HW1 := Lib.hid (show lo ≤ wr.heap.size from Nat.le_trans HLO.out HBB.out.size)
      have HW2 := Lib.hid HBT.out.size
      have HLN := Lib.hid (show Kl.length + [Cel.z].length ≤ 100000 by rw [HKL.out]; simp only [List.length_cons, List.length_nil]; omega)
      have HVB := Lib.hid (show ∀ j, v.ownBlock = some j → w0.heap.size ≤ j from fun j hj => (HGK.out.1.lt j hj).1)
      have HX := Lib.hid (show Below wr.heap.size wr wr.drew from (Below.refl _ _).drew)
      obtain ⟨y, hy⟩ : ∃ y, y = hdAt H 0 := ⟨_, rfl⟩
      have c0 := HCK.out wr 0 y HBT.out (by omega) hy
      obtain ⟨lm, hlm⟩ : ∃ lm, lm = y.R.length := ⟨_, rfl⟩
      have HLM := Lib.hid (show lm = m by rw [hlm, hy]; exact HMM.out)
      have c0' : wr.cell? ⟨g, 0, none⟩ = some (.slice (some ⟨y.b, 0, none⟩) lm y.c) := by rw [hlm]; exact c0
      clear hlm c0
      by_cases hkn' : (k : Int) = n
      · subst hkn'
        by_cases hlm' : (lr : Int) = lm
        · obtain rfl : lr = lm := by omega
          have HEQ := Lib.hid (show R = setE (H.map (·.R)) N R k by
            unfold setE
            rw [if_pos ⟨HN.out.symm, by rw [← HM.out, ← HLL.out, ← HLM.out]⟩])
          have HR0 := Lib.hid (show 0 < R.length by have h1 := HLL.out; have h2 := HLM.out; have h3 := HMP.out; omega)
          clear hy
          go_upto_region 6 with (fail)
          refine wp_region_held_drew (S := fun _ => True) (by kernel_rfl) ?_ (fun hHeld => ?_)
          · trivial
          obtain ⟨wd, hwd⟩ : ∃ X, X = wr.drew := ⟨_, rfl⟩
          replace HX := Lib.hid (show Below wr.heap.size wr wd by rw [hwd]; exact HX.out)
          replace hHeld := trivial
          rw [← hwd]
          clear hwd
          refine tk 0 rfl (fun w hSw => by (try dsimp only at hSw); go_simp; try with_reducible rfl) ?_
          go_frame
          refine tk 3 rfl (fun w hSw => by (try dsimp only at hSw); go_simp; try with_reducible rfl) ?_
          go_frame
          refine two_at (i := 1) (j := 2) rfl rfl (by kernel_rfl) (by kernel_rfl) (by kernel_rfl) (fun K hK => ?_) (fun K hK => ?_)
          · have hc8 : wd.cell? ⟨b7, 0, none⟩ = some v := (HX.out.cell (p := ⟨b7, 0, none⟩) L8.out).trans C8.out
            go_simp
            clear hc8
            refine hK.out _ _ ?_ (fun hHeld => ?_)
            · trivial
            clear hK K
            try go_frame
            refine do_at (i := 2) rfl (by kernel_rfl) (by kernel_rfl) (fun K hK => ?_)
            obtain ⟨q0, hq0⟩ : ∃ q0, q0 = wd.heap.size := ⟨_, rfl⟩
            obtain ⟨we, hwe⟩ : ∃ X, X = wd.alloc (.cells #[] 42) := ⟨_, rfl⟩
            have bb : Below wd.heap.size wd we := by rw [hwe]; exact (Below.refl _ _).alloc (Nat.le_refl _) _
            have HE := Lib.hid (show CRow we lo (.slice (some ⟨q0, 0, none⟩) 0 0) [] by rw [hwe, hq0]; exact CRow.empty wd lo (Nat.le_trans HW1.out HX.out.size))
            have HQ := Lib.hid (show wr.heap.size ≤ q0 by rw [hq0]; exact HX.out.size)
            replace HX := Lib.hid (HX.out.trans (bb.mono HX.out.size))
            clear bb
            go_simp
            rw [← hwe, ← hq0]
            clear hwe hq0
            refine hK.out _ _ ?_ (fun hHeld => ?_)
            · trivial
            clear hK K
            try go_frame
            refine do_at (i := 4) rfl (by kernel_rfl) (by kernel_rfl) (fun K hK => ?_)
            refine wp_append_cells (.tmp 31) (.tmp 32) rfl lo _ [] rfl HE.out _ R rfl (HU.out _ (HBB.out.trans (HX.out.mono HBB.out.size))) HLR.out (Nat.le_trans HW1.out HX.out.size) ?_
            intro v' wf ow0 _ grow0
            rw [List.nil_append] at ow0
            obtain ⟨x, rfl, hxR, hxb, own⟩ := ow0.hd HR0.out
            have HXE := Lib.hid (show x.R = setE (H.map (·.R)) N R k by rw [hxR]; exact HEQ.out)
            have HO := Lib.hid own
            replace HX := Lib.hid (show Below wr.heap.size wr wf from ⟨grow0.os.trans HX.out.os, grow0.tape.trans HX.out.tape, grow0.output.trans HX.out.output, Nat.le_trans HX.out.size grow0.size, fun j hj => (grow0.block j (Nat.lt_of_lt_of_le hj HX.out.size) (fun e => by have h1 := HQ.out; have e2 : some j = some q0 := e; injection e2 with e2; omega)).trans (HX.out.block j hj)⟩)
            clear own hxR hxb ow0 grow0 HE
            refine hK.out _ _ ?_ (fun hHeld => ?_)
            · trivial
            clear hK K
            try go_frame
            refine do_at (i := 5) rfl (by kernel_rfl) (by kernel_rfl) (fun K hK => ?_)
            obtain ⟨q, hq⟩ : ∃ q, q = wf.heap.size := ⟨_, rfl⟩
            obtain ⟨wb, hwb⟩ : ∃ X, X = wf.alloc (.cells #[hdV x] 26) := ⟨_, rfl⟩
            have bb : Below wf.heap.size wf wb := by rw [hwb]; exact (Below.refl _ _).alloc (Nat.le_refl _) _
            have HI := Lib.hid (show GIn wb lo (.slice (some ⟨q, 0, none⟩) 1 1) [x] by rw [hwb]; exact GIn.one HO.out q hq)
            replace HX := Lib.hid (HX.out.trans (bb.mono HX.out.size))
            clear bb
            go_simp
            rw [← hwb, ← hq]
            clear hwb hq
            refine hK.out _ _ ?_ (fun hHeld => ?_)
            · trivial
            clear hK K
            try go_frame
            refine do_at (i := 6) rfl (by kernel_rfl) (by kernel_rfl) (fun K hK => ?_)
            refine wp_append_hds (.tmp 30) (.tmp 34) rfl lo w0.heap.size v Kl rfl (HGK.out.below HX.out) _ [x] rfl HI.out HLN.out (Nat.le_trans HW2.out HX.out.size) ?_
            intro v' wa ga growa
            obtain ⟨va, vc, hvs⟩ := ga.shape
            obtain ⟨ln, hln⟩ : ∃ ln, ln = (Kl ++ [x]).length := ⟨_, rfl⟩
            rw [← hln] at hvs
            subst hvs
            clear hln
            have HGA := Lib.hid ga
            have HGW := Lib.hid (show Buts (· = b7) w0 wa from ⟨growa.os.trans (HX.out.os.trans HBT.out.os), growa.tape.trans (HX.out.tape.trans HBT.out.tape), growa.output.trans (HX.out.output.trans HBT.out.output), Nat.le_trans HBT.out.size (Nat.le_trans HX.out.size growa.size), fun j hj hn => by rw [growa.block j (Nat.lt_of_lt_of_le (Nat.lt_of_lt_of_le hj HBT.out.size) HX.out.size) (fun e => by have := HVB.out j e.symm; omega), HX.out.block j (Nat.lt_of_lt_of_le hj HBT.out.size), HBT.out.block j hj hn]⟩)
            have H8A := Lib.hid (show wa.heap[b7]? = some (.cells #[v] 29 (0, 0)) from (growa.block b7 (Nat.lt_of_lt_of_le L8.out HX.out.size) (fun e => by have := HVB.out b7 e.symm; have := HNE.out; omega)).trans ((HX.out.block b7 L8.out).trans H8.out))
            clear ga growa
            refine hK.out _ _ ?_ (fun hHeld => ?_)
            · trivial
            clear hK K
            try go_frame
            refine tk 7 rfl (fun w hSw => by (try dsimp only at hSw); go_simp; try with_reducible rfl) ?_
            go_frame
            refine do_at (i := 8) rfl (by kernel_rfl) (by kernel_rfl) (fun K hK => ?_)
            have hc8 : wa.cell? ⟨b7, 0, none⟩ = some v := by rw [cell_of_row wa b7 0 _ _ _ H8A.out]; simp
            have hf8 : wa.frozen? ⟨b7, 0, none⟩ = false := frozen_of_row wa b7 0 _ _ H8A.out
            go_simp
            clear hc8 hf8
            refine hK.out _ _ ?_ (fun hHeld => ?_)
            · trivial
            clear hK K
            try go_frame
            refine wpAnyH_done (by kernel_rfl) ?_ _
            have ha8 := Lib.hid (heap_set1 (v := .slice va ln vc) H8A.out)
            have hg8 := Lib.hid (show GRow (wa.setCell ⟨b7, 0, none⟩ (.slice va ln vc)) lo w0.heap.size (.slice va ln vc) (Kl ++ [x]) from HGA.out.asideR (But.set wa b7 0 _) H8A.out)
            have hb8 := Lib.hid (HGW.out.trans (Buts.but (S := (· = b7)) (But.set wa b7 0 (.slice va ln vc)) rfl))
            have hm8 := Lib.hid (show (Kl ++ [x]).map (·.R) = (List.range (k + 1)).map (setE (H.map (·.R)) N R) by rw [List.map_append, HMK.out, List.range_succ, List.map_append]; exact congrArg (_ ++ [·]) (HXE.out))
            clear hHeld HGA HGW H8A HX HI HO
            clear HVB HLN HW1 HW2 C8 L8 HKL H8 HGK HMK HBT HXE
            go_wp2
            go_roundg (nn - (k + 1))
            case rel => exact ⟨k + 1, _, _, by go_num, by omega, Nat.le_refl _, ha8, hg8, hm8, hb8⟩
            case measure => omega
          · obtain ⟨q0, hq0⟩ : ∃ q0, q0 = wd.heap.size := ⟨_, rfl⟩
            obtain ⟨we, hwe⟩ : ∃ X, X = wd.alloc (.cells #[] 42) := ⟨_, rfl⟩
            have bb : Below wd.heap.size wd we := by rw [hwe]; exact (Below.refl _ _).alloc (Nat.le_refl _) _
            have HE := Lib.hid (show CRow we lo (.slice (some ⟨q0, 0, none⟩) 0 0) [] by rw [hwe, hq0]; exact CRow.empty wd lo (Nat.le_trans HW1.out HX.out.size))
            have HQ := Lib.hid (show wr.heap.size ≤ q0 by rw [hq0]; exact HX.out.size)
            replace HX := Lib.hid (HX.out.trans (bb.mono HX.out.size))
            clear bb
            go_simp
            rw [← hwe, ← hq0]
            clear hwe hq0
            refine hK.out _ _ ?_ (fun hHeld => ?_)
            · trivial
            clear hK K
            try go_frame
            refine two_at (i := 1) (j := 4) rfl rfl (by kernel_rfl) (by kernel_rfl) (by kernel_rfl) (fun K hK => ?_) (fun K hK => ?_)
            · have hc8 : we.cell? ⟨b7, 0, none⟩ = some v := (HX.out.cell (p := ⟨b7, 0, none⟩) L8.out).trans C8.out
              go_simp
              clear hc8
              refine hK.out _ _ ?_ (fun hHeld => ?_)
              · trivial
              clear hK K
              try go_frame
              refine do_at (i := 4) rfl (by kernel_rfl) (by kernel_rfl) (fun K hK => ?_)
              refine wp_append_cells (.tmp 31) (.tmp 32) rfl lo _ [] rfl HE.out _ R rfl (HU.out _ (HBB.out.trans (HX.out.mono HBB.out.size))) HLR.out (Nat.le_trans HW1.out HX.out.size) ?_
              intro v' wf ow0 _ grow0
              rw [List.nil_append] at ow0
              obtain ⟨x, rfl, hxR, hxb, own⟩ := ow0.hd HR0.out
              have HXE := Lib.hid (show x.R = setE (H.map (·.R)) N R k by rw [hxR]; exact HEQ.out)
              have HO := Lib.hid own
              replace HX := Lib.hid (show Below wr.heap.size wr wf from ⟨grow0.os.trans HX.out.os, grow0.tape.trans HX.out.tape, grow0.output.trans HX.out.output, Nat.le_trans HX.out.size grow0.size, fun j hj => (grow0.block j (Nat.lt_of_lt_of_le hj HX.out.size) (fun e => by have h1 := HQ.out; have e2 : some j = some q0 := e; injection e2 with e2; omega)).trans (HX.out.block j hj)⟩)
              clear own hxR hxb ow0 grow0 HE
              refine hK.out _ _ ?_ (fun hHeld => ?_)
              · trivial
              clear hK K
              try go_frame
              refine do_at (i := 5) rfl (by kernel_rfl) (by kernel_rfl) (fun K hK => ?_)
              obtain ⟨q, hq⟩ : ∃ q, q = wf.heap.size := ⟨_, rfl⟩
              obtain ⟨wb, hwb⟩ : ∃ X, X = wf.alloc (.cells #[hdV x] 26) := ⟨_, rfl⟩
              have bb : Below wf.heap.size wf wb := by rw [hwb]; exact (Below.refl _ _).alloc (Nat.le_refl _) _
              have HI := Lib.hid (show GIn wb lo (.slice (some ⟨q, 0, none⟩) 1 1) [x] by rw [hwb]; exact GIn.one HO.out q hq)
              replace HX := Lib.hid (HX.out.trans (bb.mono HX.out.size))
              clear bb
              go_simp
              rw [← hwb, ← hq]
              clear hwb hq
              refine hK.out _ _ ?_ (fun hHeld => ?_)
              · trivial
              clear hK K
              try go_frame
              refine do_at (i := 6) rfl (by kernel_rfl) (by kernel_rfl) (fun K hK => ?_)
              refine wp_append_hds (.tmp 30) (.tmp 34) rfl lo w0.heap.size v Kl rfl (HGK.out.below HX.out) _ [x] rfl HI.out HLN.out (Nat.le_trans HW2.out HX.out.size) ?_
              intro v' wa ga growa
              obtain ⟨va, vc, hvs⟩ := ga.shape
              obtain ⟨ln, hln⟩ : ∃ ln, ln = (Kl ++ [x]).length := ⟨_, rfl⟩
              rw [← hln] at hvs
              subst hvs
              clear hln
              have HGA := Lib.hid ga
              have HGW := Lib.hid (show Buts (· = b7) w0 wa from ⟨growa.os.trans (HX.out.os.trans HBT.out.os), growa.tape.trans (HX.out.tape.trans HBT.out.tape), growa.output.trans (HX.out.output.trans HBT.out.output), Nat.le_trans HBT.out.size (Nat.le_trans HX.out.size growa.size), fun j hj hn => by rw [growa.block j (Nat.lt_of_lt_of_le (Nat.lt_of_lt_of_le hj HBT.out.size) HX.out.size) (fun e => by have := HVB.out j e.symm; omega), HX.out.block j (Nat.lt_of_lt_of_le hj HBT.out.size), HBT.out.block j hj hn]⟩)
              have H8A := Lib.hid (show wa.heap[b7]? = some (.cells #[v] 29 (0, 0)) from (growa.block b7 (Nat.lt_of_lt_of_le L8.out HX.out.size) (fun e => by have := HVB.out b7 e.symm; have := HNE.out; omega)).trans ((HX.out.block b7 L8.out).trans H8.out))
              clear ga growa
              refine hK.out _ _ ?_ (fun hHeld => ?_)
              · trivial
              clear hK K
              try go_frame
              refine tk 7 rfl (fun w hSw => by (try dsimp only at hSw); go_simp; try with_reducible rfl) ?_
              go_frame
              refine do_at (i := 8) rfl (by kernel_rfl) (by kernel_rfl) (fun K hK => ?_)
              have hc8 : wa.cell? ⟨b7, 0, none⟩ = some v := by rw [cell_of_row wa b7 0 _ _ _ H8A.out]; simp
              have hf8 : wa.frozen? ⟨b7, 0, none⟩ = false := frozen_of_row wa b7 0 _ _ H8A.out
              go_simp
              clear hc8 hf8
              refine hK.out _ _ ?_ (fun hHeld => ?_)
              · trivial
              clear hK K
              try go_frame
              refine wpAnyH_done (by kernel_rfl) ?_ _
              have ha8 := Lib.hid (heap_set1 (v := .slice va ln vc) H8A.out)
              have hg8 := Lib.hid (show GRow (wa.setCell ⟨b7, 0, none⟩ (.slice va ln vc)) lo w0.heap.size (.slice va ln vc) (Kl ++ [x]) from HGA.out.asideR (But.set wa b7 0 _) H8A.out)
              have hb8 := Lib.hid (HGW.out.trans (Buts.but (S := (· = b7)) (But.set wa b7 0 (.slice va ln vc)) rfl))
              have hm8 := Lib.hid (show (Kl ++ [x]).map (·.R) = (List.range (k + 1)).map (setE (H.map (·.R)) N R) by rw [List.map_append, HMK.out, List.range_succ, List.map_append]; exact congrArg (_ ++ [·]) (HXE.out))
              clear hHeld HGA HGW H8A HX HI HO
              clear HVB HLN HW1 HW2 C8 L8 HKL H8 HGK HMK HBT HXE
              go_wp2
              go_roundg (nn - (k + 1))
              case rel => exact ⟨k + 1, _, _, by go_num, by omega, Nat.le_refl _, ha8, hg8, hm8, hb8⟩
              case measure => omega
            · refine wp_append_cells (.tmp 31) (.tmp 32) rfl lo _ [] rfl HE.out _ R rfl (HU.out _ (HBB.out.trans (HX.out.mono HBB.out.size))) HLR.out (Nat.le_trans HW1.out HX.out.size) ?_
              intro v' wf ow0 _ grow0
              rw [List.nil_append] at ow0
              obtain ⟨x, rfl, hxR, hxb, own⟩ := ow0.hd HR0.out
              have HXE := Lib.hid (show x.R = setE (H.map (·.R)) N R k by rw [hxR]; exact HEQ.out)
              have HO := Lib.hid own
              replace HX := Lib.hid (show Below wr.heap.size wr wf from ⟨grow0.os.trans HX.out.os, grow0.tape.trans HX.out.tape, grow0.output.trans HX.out.output, Nat.le_trans HX.out.size grow0.size, fun j hj => (grow0.block j (Nat.lt_of_lt_of_le hj HX.out.size) (fun e => by have h1 := HQ.out; have e2 : some j = some q0 := e; injection e2 with e2; omega)).trans (HX.out.block j hj)⟩)
              clear own hxR hxb ow0 grow0 HE
              refine hK.out _ _ ?_ (fun hHeld => ?_)
              · trivial
              clear hK K
              try go_frame
              refine two_at (i := 1) (j := 5) rfl rfl (by kernel_rfl) (by kernel_rfl) (by kernel_rfl) (fun K hK => ?_) (fun K hK => ?_)
              · have hc8 : wf.cell? ⟨b7, 0, none⟩ = some v := (HX.out.cell (p := ⟨b7, 0, none⟩) L8.out).trans C8.out
                go_simp
                clear hc8
                refine hK.out _ _ ?_ (fun hHeld => ?_)
                · trivial
                clear hK K
                try go_frame
                refine do_at (i := 5) rfl (by kernel_rfl) (by kernel_rfl) (fun K hK => ?_)
                obtain ⟨q, hq⟩ : ∃ q, q = wf.heap.size := ⟨_, rfl⟩
                obtain ⟨wb, hwb⟩ : ∃ X, X = wf.alloc (.cells #[hdV x] 26) := ⟨_, rfl⟩
                have bb : Below wf.heap.size wf wb := by rw [hwb]; exact (Below.refl _ _).alloc (Nat.le_refl _) _
                have HI := Lib.hid (show GIn wb lo (.slice (some ⟨q, 0, none⟩) 1 1) [x] by rw [hwb]; exact GIn.one HO.out q hq)
                replace HX := Lib.hid (HX.out.trans (bb.mono HX.out.size))
                clear bb
                go_simp
                rw [← hwb, ← hq]
                clear hwb hq
                refine hK.out _ _ ?_ (fun hHeld => ?_)
                · trivial
                clear hK K
                try go_frame
                refine do_at (i := 6) rfl (by kernel_rfl) (by kernel_rfl) (fun K hK => ?_)
                refine wp_append_hds (.tmp 30) (.tmp 34) rfl lo w0.heap.size v Kl rfl (HGK.out.below HX.out) _ [x] rfl HI.out HLN.out (Nat.le_trans HW2.out HX.out.size) ?_
                intro v' wa ga growa
                obtain ⟨va, vc, hvs⟩ := ga.shape
                obtain ⟨ln, hln⟩ : ∃ ln, ln = (Kl ++ [x]).length := ⟨_, rfl⟩
                rw [← hln] at hvs
                subst hvs
                clear hln
                have HGA := Lib.hid ga
                have HGW := Lib.hid (show Buts (· = b7) w0 wa from ⟨growa.os.trans (HX.out.os.trans HBT.out.os), growa.tape.trans (HX.out.tape.trans HBT.out.tape), growa.output.trans (HX.out.output.trans HBT.out.output), Nat.le_trans HBT.out.size (Nat.le_trans HX.out.size growa.size), fun j hj hn => by rw [growa.block j (Nat.lt_of_lt_of_le (Nat.lt_of_lt_of_le hj HBT.out.size) HX.out.size) (fun e => by have := HVB.out j e.symm; omega), HX.out.block j (Nat.lt_of_lt_of_le hj HBT.out.size), HBT.out.block j hj hn]⟩)
                have H8A := Lib.hid (show wa.heap[b7]? = some (.cells #[v] 29 (0, 0)) from (growa.block b7 (Nat.lt_of_lt_of_le L8.out HX.out.size) (fun e => by have := HVB.out b7 e.symm; have := HNE.out; omega)).trans ((HX.out.block b7 L8.out).trans H8.out))
                clear ga growa
                refine hK.out _ _ ?_ (fun hHeld => ?_)
                · trivial
                clear hK K
                try go_frame
                refine tk 7 rfl (fun w hSw => by (try dsimp only at hSw); go_simp; try with_reducible rfl) ?_
                go_frame
                refine do_at (i := 8) rfl (by kernel_rfl) (by kernel_rfl) (fun K hK => ?_)
                have hc8 : wa.cell? ⟨b7, 0, none⟩ = some v := by rw [cell_of_row wa b7 0 _ _ _ H8A.out]; simp
                have hf8 : wa.frozen? ⟨b7, 0, none⟩ = false := frozen_of_row wa b7 0 _ _ H8A.out
                go_simp
                clear hc8 hf8
                refine hK.out _ _ ?_ (fun hHeld => ?_)
                · trivial
                clear hK K
                try go_frame
                refine wpAnyH_done (by kernel_rfl) ?_ _
                have ha8 := Lib.hid (heap_set1 (v := .slice va ln vc) H8A.out)
                have hg8 := Lib.hid (show GRow (wa.setCell ⟨b7, 0, none⟩ (.slice va ln vc)) lo w0.heap.size (.slice va ln vc) (Kl ++ [x]) from HGA.out.asideR (But.set wa b7 0 _) H8A.out)
                have hb8 := Lib.hid (HGW.out.trans (Buts.but (S := (· = b7)) (But.set wa b7 0 (.slice va ln vc)) rfl))
                have hm8 := Lib.hid (show (Kl ++ [x]).map (·.R) = (List.range (k + 1)).map (setE (H.map (·.R)) N R) by rw [List.map_append, HMK.out, List.range_succ, List.map_append]; exact congrArg (_ ++ [·]) (HXE.out))
                clear hHeld HGA HGW H8A HX HI HO
                clear HVB HLN HW1 HW2 C8 L8 HKL H8 HGK HMK HBT HXE
                go_wp2
                go_roundg (nn - (k + 1))
                case rel => exact ⟨k + 1, _, _, by go_num, by omega, Nat.le_refl _, ha8, hg8, hm8, hb8⟩
                case measure => omega
              · obtain ⟨q, hq⟩ : ∃ q, q = wf.heap.size := ⟨_, rfl⟩
                obtain ⟨wb, hwb⟩ : ∃ X, X = wf.alloc (.cells #[hdV x] 26) := ⟨_, rfl⟩
                have bb : Below wf.heap.size wf wb := by rw [hwb]; exact (Below.refl _ _).alloc (Nat.le_refl _) _
                have HI := Lib.hid (show GIn wb lo (.slice (some ⟨q, 0, none⟩) 1 1) [x] by rw [hwb]; exact GIn.one HO.out q hq)
                replace HX := Lib.hid (HX.out.trans (bb.mono HX.out.size))
                clear bb
                go_simp
                rw [← hwb, ← hq]
                clear hwb hq
                refine hK.out _ _ ?_ (fun hHeld => ?_)
                · trivial
                clear hK K
                try go_frame
                refine do_at (i := 1) rfl (by kernel_rfl) (by kernel_rfl) (fun K hK => ?_)
                have hc8 : wb.cell? ⟨b7, 0, none⟩ = some v := (HX.out.cell (p := ⟨b7, 0, none⟩) L8.out).trans C8.out
                go_simp
                clear hc8
                refine hK.out _ _ ?_ (fun hHeld => ?_)
                · trivial
                clear hK K
                try go_frame
                refine do_at (i := 6) rfl (by kernel_rfl) (by kernel_rfl) (fun K hK => ?_)
                refine wp_append_hds (.tmp 30) (.tmp 34) rfl lo w0.heap.size v Kl rfl (HGK.out.below HX.out) _ [x] rfl HI.out HLN.out (Nat.le_trans HW2.out HX.out.size) ?_
                intro v' wa ga growa
                obtain ⟨va, vc, hvs⟩ := ga.shape
                obtain ⟨ln, hln⟩ : ∃ ln, ln = (Kl ++ [x]).length := ⟨_, rfl⟩
                rw [← hln] at hvs
                subst hvs
                clear hln
                have HGA := Lib.hid ga
                have HGW := Lib.hid (show Buts (· = b7) w0 wa from ⟨growa.os.trans (HX.out.os.trans HBT.out.os), growa.tape.trans (HX.out.tape.trans HBT.out.tape), growa.output.trans (HX.out.output.trans HBT.out.output), Nat.le_trans HBT.out.size (Nat.le_trans HX.out.size growa.size), fun j hj hn => by rw [growa.block j (Nat.lt_of_lt_of_le (Nat.lt_of_lt_of_le hj HBT.out.size) HX.out.size) (fun e => by have := HVB.out j e.symm; omega), HX.out.block j (Nat.lt_of_lt_of_le hj HBT.out.size), HBT.out.block j hj hn]⟩)
                have H8A := Lib.hid (show wa.heap[b7]? = some (.cells #[v] 29 (0, 0)) from (growa.block b7 (Nat.lt_of_lt_of_le L8.out HX.out.size) (fun e => by have := HVB.out b7 e.symm; have := HNE.out; omega)).trans ((HX.out.block b7 L8.out).trans H8.out))
                clear ga growa
                refine hK.out _ _ ?_ (fun hHeld => ?_)
                · trivial
                clear hK K
                try go_frame
                refine tk 7 rfl (fun w hSw => by (try dsimp only at hSw); go_simp; try with_reducible rfl) ?_
                go_frame
                refine do_at (i := 8) rfl (by kernel_rfl) (by kernel_rfl) (fun K hK => ?_)
                have hc8 : wa.cell? ⟨b7, 0, none⟩ = some v := by rw [cell_of_row wa b7 0 _ _ _ H8A.out]; simp
                have hf8 : wa.frozen? ⟨b7, 0, none⟩ = false := frozen_of_row wa b7 0 _ _ H8A.out
                go_simp
                clear hc8 hf8
                refine hK.out _ _ ?_ (fun hHeld => ?_)
                · trivial
                clear hK K
                try go_frame
                refine wpAnyH_done (by kernel_rfl) ?_ _
                have ha8 := Lib.hid (heap_set1 (v := .slice va ln vc) H8A.out)
                have hg8 := Lib.hid (show GRow (wa.setCell ⟨b7, 0, none⟩ (.slice va ln vc)) lo w0.heap.size (.slice va ln vc) (Kl ++ [x]) from HGA.out.asideR (But.set wa b7 0 _) H8A.out)
                have hb8 := Lib.hid (HGW.out.trans (Buts.but (S := (· = b7)) (But.set wa b7 0 (.slice va ln vc)) rfl))
                have hm8 := Lib.hid (show (Kl ++ [x]).map (·.R) = (List.range (k + 1)).map (setE (H.map (·.R)) N R) by rw [List.map_append, HMK.out, List.range_succ, List.map_append]; exact congrArg (_ ++ [·]) (HXE.out))
                clear hHeld HGA HGW H8A HX HI HO
                clear HVB HLN HW1 HW2 C8 L8 HKL H8 HGK HMK HBT HXE
                go_wp2
                go_roundg (nn - (k + 1))
                case rel => exact ⟨k + 1, _, _, by go_num, by omega, Nat.le_refl _, ha8, hg8, hm8, hb8⟩
                case measure => omega
        · have e2 : ((lr : Int) == (lm : Nat)) = false := by rw [beq_eq_false_iff_ne]; exact hlm'
          obtain ⟨x, hx⟩ : ∃ x, x = hdAt H k := ⟨_, rfl⟩
          have HSK := Lib.hid (show ∀ W, Buts (· = b7) w0 W → (fun wx => wx.cell? ⟨b3, 0, none⟩ = some (.slice (some ⟨g, 0, none⟩) nn c) ∧ wx.cell? ⟨g, k, none⟩ = some (hdV x)) W from fun W kb => ⟨HC3.out W kb, HCK.out W k x kb hlt hx⟩)
          have HO := Lib.hid (HRK.out wr k x HBB.out hlt hx)
          have HXE := Lib.hid (show x.R = setE (H.map (·.R)) N R k by
            unfold setE
            rw [if_neg (fun e => hlm' (by have h1 := e.2; rw [← HM.out, ← HLL.out, ← HLM.out] at h1; omega)), hx, rowG_hd])
          clear hx hy
          go_upto_region 7 with (fail)
          refine wp_region_held_drew (S := fun wx => wx.cell? ⟨b3, 0, none⟩ = some (.slice (some ⟨g, 0, none⟩) nn c) ∧ wx.cell? ⟨g, k, none⟩ = some (hdV x)) (by kernel_rfl) ?_ (fun hHeld => ?_)
          · exact HSK.out _ (HBT.out.trans (Buts.of HX.out))
          obtain ⟨wd, hwd⟩ : ∃ X, X = wr.drew := ⟨_, rfl⟩
          replace HX := Lib.hid (show Below wr.heap.size wr wd by rw [hwd]; exact HX.out)
          replace hHeld := HSK.out _ (HBT.out.trans (Buts.of HX.out))
          rw [← hwd]
          clear hwd
          refine tk 0 rfl (fun w hSw => by (try dsimp only at hSw); go_simp; try with_reducible rfl) ?_
          go_frame
          refine tk 2 rfl (fun w hSw => by (try dsimp only at hSw); go_simp; try with_reducible rfl) ?_
          go_frame
          refine tk 3 rfl (fun w hSw => by (try dsimp only at hSw); go_simp; try with_reducible rfl) ?_
          go_frame
          refine tk 4 rfl (fun w hSw => by (try dsimp only at hSw); go_simp; try with_reducible rfl) ?_
          go_frame
          refine tk 5 rfl (fun w hSw => by (try dsimp only at hSw); go_simp; try with_reducible rfl) ?_
          go_frame
          refine tk 6 rfl (fun w hSw => by (try dsimp only at hSw); go_simp; try with_reducible rfl) ?_
          go_frame
          refine two_at (i := 1) (j := 7) rfl rfl (by kernel_rfl) (by kernel_rfl) (by kernel_rfl) (fun K hK => ?_) (fun K hK => ?_)
          · have hc8 : wd.cell? ⟨b7, 0, none⟩ = some v := (HX.out.cell (p := ⟨b7, 0, none⟩) L8.out).trans C8.out
            go_simp
            clear hc8
            refine hK.out _ _ ?_ (fun hHeld => ?_)
            · exact HSK.out _ (HBT.out.trans (Buts.of HX.out))
            clear hK K
            try go_frame
            refine do_at (i := 7) rfl (by kernel_rfl) (by kernel_rfl) (fun K hK => ?_)
            obtain ⟨q, hq⟩ : ∃ q, q = wd.heap.size := ⟨_, rfl⟩
            obtain ⟨wb, hwb⟩ : ∃ X, X = wd.alloc (.cells #[hdV x] 26) := ⟨_, rfl⟩
            have bb : Below wd.heap.size wd wb := by rw [hwb]; exact (Below.refl _ _).alloc (Nat.le_refl _) _
            have HI := Lib.hid (show GIn wb lo (.slice (some ⟨q, 0, none⟩) 1 1) [x] by rw [hwb]; exact GIn.one (HO.out.below HX.out) q hq)
            replace HX := Lib.hid (HX.out.trans (bb.mono HX.out.size))
            clear bb
            go_simp
            rw [← hwb, ← hq]
            clear hwb hq
            refine hK.out _ _ ?_ (fun hHeld => ?_)
            · exact HSK.out _ (HBT.out.trans (Buts.of HX.out))
            clear hK K
            try go_frame
            refine do_at (i := 8) rfl (by kernel_rfl) (by kernel_rfl) (fun K hK => ?_)
            refine wp_append_hds (.tmp 38) (.tmp 44) rfl lo w0.heap.size v Kl rfl (HGK.out.below HX.out) _ [x] rfl HI.out HLN.out (Nat.le_trans HW2.out HX.out.size) ?_
            intro v' wa ga growa
            obtain ⟨va, vc, hvs⟩ := ga.shape
            obtain ⟨ln, hln⟩ : ∃ ln, ln = (Kl ++ [x]).length := ⟨_, rfl⟩
            rw [← hln] at hvs
            subst hvs
            clear hln
            have HGA := Lib.hid ga
            have HGW := Lib.hid (show Buts (· = b7) w0 wa from ⟨growa.os.trans (HX.out.os.trans HBT.out.os), growa.tape.trans (HX.out.tape.trans HBT.out.tape), growa.output.trans (HX.out.output.trans HBT.out.output), Nat.le_trans HBT.out.size (Nat.le_trans HX.out.size growa.size), fun j hj hn => by rw [growa.block j (Nat.lt_of_lt_of_le (Nat.lt_of_lt_of_le hj HBT.out.size) HX.out.size) (fun e => by have := HVB.out j e.symm; omega), HX.out.block j (Nat.lt_of_lt_of_le hj HBT.out.size), HBT.out.block j hj hn]⟩)
            have H8A := Lib.hid (show wa.heap[b7]? = some (.cells #[v] 29 (0, 0)) from (growa.block b7 (Nat.lt_of_lt_of_le L8.out HX.out.size) (fun e => by have := HVB.out b7 e.symm; have := HNE.out; omega)).trans ((HX.out.block b7 L8.out).trans H8.out))
            clear ga growa
            refine hK.out _ _ ?_ (fun hHeld => ?_)
            · exact HSK.out _ HGW.out
            clear hK K
            try go_frame
            refine tk 9 rfl (fun w hSw => by (try dsimp only at hSw); go_simp; try with_reducible rfl) ?_
            go_frame
            refine do_at (i := 10) rfl (by kernel_rfl) (by kernel_rfl) (fun K hK => ?_)
            have hc8 : wa.cell? ⟨b7, 0, none⟩ = some v := by rw [cell_of_row wa b7 0 _ _ _ H8A.out]; simp
            have hf8 : wa.frozen? ⟨b7, 0, none⟩ = false := frozen_of_row wa b7 0 _ _ H8A.out
            go_simp
            clear hc8 hf8
            refine hK.out _ _ ?_ (fun hHeld => ?_)
            · exact HSK.out _ (HGW.out.trans (Buts.but (S := (· = b7)) (But.set wa b7 0 _) rfl))
            clear hK K
            try go_frame
            refine wpAnyH_done (by kernel_rfl) ?_ _
            have ha8 := Lib.hid (heap_set1 (v := .slice va ln vc) H8A.out)
            have hg8 := Lib.hid (show GRow (wa.setCell ⟨b7, 0, none⟩ (.slice va ln vc)) lo w0.heap.size (.slice va ln vc) (Kl ++ [x]) from HGA.out.asideR (But.set wa b7 0 _) H8A.out)
            have hb8 := Lib.hid (HGW.out.trans (Buts.but (S := (· = b7)) (But.set wa b7 0 (.slice va ln vc)) rfl))
            have hm8 := Lib.hid (show (Kl ++ [x]).map (·.R) = (List.range (k + 1)).map (setE (H.map (·.R)) N R) by rw [List.map_append, HMK.out, List.range_succ, List.map_append]; exact congrArg (_ ++ [·]) (HXE.out))
            clear hHeld HGA HGW H8A HX HI HO
            clear HVB HLN HW1 HW2 C8 L8 HKL H8 HGK HMK HBT HXE
            go_wp2
            go_roundg (nn - (k + 1))
            case rel => exact ⟨k + 1, _, _, by go_num, by omega, Nat.le_refl _, ha8, hg8, hm8, hb8⟩
            case measure => omega
          · obtain ⟨q, hq⟩ : ∃ q, q = wd.heap.size := ⟨_, rfl⟩
            obtain ⟨wb, hwb⟩ : ∃ X, X = wd.alloc (.cells #[hdV x] 26) := ⟨_, rfl⟩
            have bb : Below wd.heap.size wd wb := by rw [hwb]; exact (Below.refl _ _).alloc (Nat.le_refl _) _
            have HI := Lib.hid (show GIn wb lo (.slice (some ⟨q, 0, none⟩) 1 1) [x] by rw [hwb]; exact GIn.one (HO.out.below HX.out) q hq)
            replace HX := Lib.hid (HX.out.trans (bb.mono HX.out.size))
            clear bb
            go_simp
            rw [← hwb, ← hq]
            clear hwb hq
            refine hK.out _ _ ?_ (fun hHeld => ?_)
            · exact HSK.out _ (HBT.out.trans (Buts.of HX.out))
            clear hK K
            try go_frame
            refine do_at (i := 1) rfl (by kernel_rfl) (by kernel_rfl) (fun K hK => ?_)
            have hc8 : wb.cell? ⟨b7, 0, none⟩ = some v := (HX.out.cell (p := ⟨b7, 0, none⟩) L8.out).trans C8.out
            go_simp
            clear hc8
            refine hK.out _ _ ?_ (fun hHeld => ?_)
            · exact HSK.out _ (HBT.out.trans (Buts.of HX.out))
            clear hK K
            try go_frame
            refine do_at (i := 8) rfl (by kernel_rfl) (by kernel_rfl) (fun K hK => ?_)
            refine wp_append_hds (.tmp 38) (.tmp 44) rfl lo w0.heap.size v Kl rfl (HGK.out.below HX.out) _ [x] rfl HI.out HLN.out (Nat.le_trans HW2.out HX.out.size) ?_
            intro v' wa ga growa
            obtain ⟨va, vc, hvs⟩ := ga.shape
            obtain ⟨ln, hln⟩ : ∃ ln, ln = (Kl ++ [x]).length := ⟨_, rfl⟩
            rw [← hln] at hvs
            subst hvs
            clear hln
            have HGA := Lib.hid ga
            have HGW := Lib.hid (show Buts (· = b7) w0 wa from ⟨growa.os.trans (HX.out.os.trans HBT.out.os), growa.tape.trans (HX.out.tape.trans HBT.out.tape), growa.output.trans (HX.out.output.trans HBT.out.output), Nat.le_trans HBT.out.size (Nat.le_trans HX.out.size growa.size), fun j hj hn => by rw [growa.block j (Nat.lt_of_lt_of_le (Nat.lt_of_lt_of_le hj HBT.out.size) HX.out.size) (fun e => by have := HVB.out j e.symm; omega), HX.out.block j (Nat.lt_of_lt_of_le hj HBT.out.size), HBT.out.block j hj hn]⟩)
            have H8A := Lib.hid (show wa.heap[b7]? = some (.cells #[v] 29 (0, 0)) from (growa.block b7 (Nat.lt_of_lt_of_le L8.out HX.out.size) (fun e => by have := HVB.out b7 e.symm; have := HNE.out; omega)).trans ((HX.out.block b7 L8.out).trans H8.out))
            clear ga growa
            refine hK.out _ _ ?_ (fun hHeld => ?_)
            · exact HSK.out _ HGW.out
            clear hK K
            try go_frame
            refine tk 9 rfl (fun w hSw => by (try dsimp only at hSw); go_simp; try with_reducible rfl) ?_
            go_frame
            refine do_at (i := 10) rfl (by kernel_rfl) (by kernel_rfl) (fun K hK => ?_)
            have hc8 : wa.cell? ⟨b7, 0, none⟩ = some v := by rw [cell_of_row wa b7 0 _ _ _ H8A.out]; simp
            have hf8 : wa.frozen? ⟨b7, 0, none⟩ = false := frozen_of_row wa b7 0 _ _ H8A.out
            go_simp
            clear hc8 hf8
            refine hK.out _ _ ?_ (fun hHeld => ?_)
            · exact HSK.out _ (HGW.out.trans (Buts.but (S := (· = b7)) (But.set wa b7 0 _) rfl))
            clear hK K
            try go_frame
            refine wpAnyH_done (by kernel_rfl) ?_ _
            have ha8 := Lib.hid (heap_set1 (v := .slice va ln vc) H8A.out)
            have hg8 := Lib.hid (show GRow (wa.setCell ⟨b7, 0, none⟩ (.slice va ln vc)) lo w0.heap.size (.slice va ln vc) (Kl ++ [x]) from HGA.out.asideR (But.set wa b7 0 _) H8A.out)
            have hb8 := Lib.hid (HGW.out.trans (Buts.but (S := (· = b7)) (But.set wa b7 0 (.slice va ln vc)) rfl))
            have hm8 := Lib.hid (show (Kl ++ [x]).map (·.R) = (List.range (k + 1)).map (setE (H.map (·.R)) N R) by rw [List.map_append, HMK.out, List.range_succ, List.map_append]; exact congrArg (_ ++ [·]) (HXE.out))
            clear hHeld HGA HGW H8A HX HI HO
            clear HVB HLN HW1 HW2 C8 L8 HKL H8 HGK HMK HBT HXE
            go_wp2
            go_roundg (nn - (k + 1))
            case rel => exact ⟨k + 1, _, _, by go_num, by omega, Nat.le_refl _, ha8, hg8, hm8, hb8⟩
            case measure => omega
      · have e1 : ((k : Int) == n) = false := by rw [beq_eq_false_iff_ne]; exact hkn'
        obtain ⟨x, hx⟩ : ∃ x, x = hdAt H k := ⟨_, rfl⟩
        have HSK := Lib.hid (show ∀ W, Buts (· = b7) w0 W → (fun wx => wx.cell? ⟨b3, 0, none⟩ = some (.slice (some ⟨g, 0, none⟩) nn c) ∧ wx.cell? ⟨g, k, none⟩ = some (hdV x)) W from fun W kb => ⟨HC3.out W kb, HCK.out W k x kb hlt hx⟩)
        have HO := Lib.hid (HRK.out wr k x HBB.out hlt hx)
        have HXE := Lib.hid (show x.R = setE (H.map (·.R)) N R k by
          unfold setE
          rw [if_neg (fun e => hkn' (e.1.trans HN.out)), hx, rowG_hd])
        clear hx hy
        go_upto_region 7 with (fail)
        refine wp_region_held_drew (S := fun wx => wx.cell? ⟨b3, 0, none⟩ = some (.slice (some ⟨g, 0, none⟩) nn c) ∧ wx.cell? ⟨g, k, none⟩ = some (hdV x)) (by kernel_rfl) ?_ (fun hHeld => ?_)
        · exact HSK.out _ (HBT.out.trans (Buts.of HX.out))
        obtain ⟨wd, hwd⟩ : ∃ X, X = wr.drew := ⟨_, rfl⟩
        replace HX := Lib.hid (show Below wr.heap.size wr wd by rw [hwd]; exact HX.out)
        replace hHeld := HSK.out _ (HBT.out.trans (Buts.of HX.out))
        rw [← hwd]
        clear hwd
        refine tk 0 rfl (fun w hSw => by (try dsimp only at hSw); go_simp; try with_reducible rfl) ?_
        go_frame
        refine tk 2 rfl (fun w hSw => by (try dsimp only at hSw); go_simp; try with_reducible rfl) ?_
        go_frame
        refine tk 3 rfl (fun w hSw => by (try dsimp only at hSw); go_simp; try with_reducible rfl) ?_
        go_frame
        refine tk 4 rfl (fun w hSw => by (try dsimp only at hSw); go_simp; try with_reducible rfl) ?_
        go_frame
        refine tk 5 rfl (fun w hSw => by (try dsimp only at hSw); go_simp; try with_reducible rfl) ?_
        go_frame
        refine tk 6 rfl (fun w hSw => by (try dsimp only at hSw); go_simp; try with_reducible rfl) ?_
        go_frame
        refine two_at (i := 1) (j := 7) rfl rfl (by kernel_rfl) (by kernel_rfl) (by kernel_rfl) (fun K hK => ?_) (fun K hK => ?_)
        · have hc8 : wd.cell? ⟨b7, 0, none⟩ = some v := (HX.out.cell (p := ⟨b7, 0, none⟩) L8.out).trans C8.out
          go_simp
          clear hc8
          refine hK.out _ _ ?_ (fun hHeld => ?_)
          · exact HSK.out _ (HBT.out.trans (Buts.of HX.out))
          clear hK K
          try go_frame
          refine do_at (i := 7) rfl (by kernel_rfl) (by kernel_rfl) (fun K hK => ?_)
          obtain ⟨q, hq⟩ : ∃ q, q = wd.heap.size := ⟨_, rfl⟩
          obtain ⟨wb, hwb⟩ : ∃ X, X = wd.alloc (.cells #[hdV x] 26) := ⟨_, rfl⟩
          have bb : Below wd.heap.size wd wb := by rw [hwb]; exact (Below.refl _ _).alloc (Nat.le_refl _) _
          have HI := Lib.hid (show GIn wb lo (.slice (some ⟨q, 0, none⟩) 1 1) [x] by rw [hwb]; exact GIn.one (HO.out.below HX.out) q hq)
          replace HX := Lib.hid (HX.out.trans (bb.mono HX.out.size))
          clear bb
          go_simp
          rw [← hwb, ← hq]
          clear hwb hq
          refine hK.out _ _ ?_ (fun hHeld => ?_)
          · exact HSK.out _ (HBT.out.trans (Buts.of HX.out))
          clear hK K
          try go_frame
          refine do_at (i := 8) rfl (by kernel_rfl) (by kernel_rfl) (fun K hK => ?_)
          refine wp_append_hds (.tmp 38) (.tmp 44) rfl lo w0.heap.size v Kl rfl (HGK.out.below HX.out) _ [x] rfl HI.out HLN.out (Nat.le_trans HW2.out HX.out.size) ?_
          intro v' wa ga growa
          obtain ⟨va, vc, hvs⟩ := ga.shape
          obtain ⟨ln, hln⟩ : ∃ ln, ln = (Kl ++ [x]).length := ⟨_, rfl⟩
          rw [← hln] at hvs
          subst hvs
          clear hln
          have HGA := Lib.hid ga
          have HGW := Lib.hid (show Buts (· = b7) w0 wa from ⟨growa.os.trans (HX.out.os.trans HBT.out.os), growa.tape.trans (HX.out.tape.trans HBT.out.tape), growa.output.trans (HX.out.output.trans HBT.out.output), Nat.le_trans HBT.out.size (Nat.le_trans HX.out.size growa.size), fun j hj hn => by rw [growa.block j (Nat.lt_of_lt_of_le (Nat.lt_of_lt_of_le hj HBT.out.size) HX.out.size) (fun e => by have := HVB.out j e.symm; omega), HX.out.block j (Nat.lt_of_lt_of_le hj HBT.out.size), HBT.out.block j hj hn]⟩)
          have H8A := Lib.hid (show wa.heap[b7]? = some (.cells #[v] 29 (0, 0)) from (growa.block b7 (Nat.lt_of_lt_of_le L8.out HX.out.size) (fun e => by have := HVB.out b7 e.symm; have := HNE.out; omega)).trans ((HX.out.block b7 L8.out).trans H8.out))
          clear ga growa
          refine hK.out _ _ ?_ (fun hHeld => ?_)
          · exact HSK.out _ HGW.out
          clear hK K
          try go_frame
          refine tk 9 rfl (fun w hSw => by (try dsimp only at hSw); go_simp; try with_reducible rfl) ?_
          go_frame
          refine do_at (i := 10) rfl (by kernel_rfl) (by kernel_rfl) (fun K hK => ?_)
          have hc8 : wa.cell? ⟨b7, 0, none⟩ = some v := by rw [cell_of_row wa b7 0 _ _ _ H8A.out]; simp
          have hf8 : wa.frozen? ⟨b7, 0, none⟩ = false := frozen_of_row wa b7 0 _ _ H8A.out
          go_simp
          clear hc8 hf8
          refine hK.out _ _ ?_ (fun hHeld => ?_)
          · exact HSK.out _ (HGW.out.trans (Buts.but (S := (· = b7)) (But.set wa b7 0 _) rfl))
          clear hK K
          try go_frame
          refine wpAnyH_done (by kernel_rfl) ?_ _
          have ha8 := Lib.hid (heap_set1 (v := .slice va ln vc) H8A.out)
          have hg8 := Lib.hid (show GRow (wa.setCell ⟨b7, 0, none⟩ (.slice va ln vc)) lo w0.heap.size (.slice va ln vc) (Kl ++ [x]) from HGA.out.asideR (But.set wa b7 0 _) H8A.out)
          have hb8 := Lib.hid (HGW.out.trans (Buts.but (S := (· = b7)) (But.set wa b7 0 (.slice va ln vc)) rfl))
          have hm8 := Lib.hid (show (Kl ++ [x]).map (·.R) = (List.range (k + 1)).map (setE (H.map (·.R)) N R) by rw [List.map_append, HMK.out, List.range_succ, List.map_append]; exact congrArg (_ ++ [·]) (HXE.out))
          clear hHeld HGA HGW H8A HX HI HO
          clear HVB HLN HW1 HW2 C8 L8 HKL H8 HGK HMK HBT HXE
          go_wp2
          go_roundg (nn - (k + 1))
          case rel => exact ⟨k + 1, _, _, by go_num, by omega, Nat.le_refl _, ha8, hg8, hm8, hb8⟩
          case measure => omega
        · obtain ⟨q, hq⟩ : ∃ q, q = wd.heap.size := ⟨_, rfl⟩
          obtain ⟨wb, hwb⟩ : ∃ X, X = wd.alloc (.cells #[hdV x] 26) := ⟨_, rfl⟩
          have bb : Below wd.heap.size wd wb := by rw [hwb]; exact (Below.refl _ _).alloc (Nat.le_refl _) _
          have HI := Lib.hid (show GIn wb lo (.slice (some ⟨q, 0, none⟩) 1 1) [x] by rw [hwb]; exact GIn.one (HO.out.below HX.out) q hq)
          replace HX := Lib.hid (HX.out.trans (bb.mono HX.out.size))
          clear bb
          go_simp
          rw [← hwb, ← hq]
          clear hwb hq
          refine hK.out _ _ ?_ (fun hHeld => ?_)
          · exact HSK.out _ (HBT.out.trans (Buts.of HX.out))
          clear hK K
          try go_frame
          refine do_at (i := 1) rfl (by kernel_rfl) (by kernel_rfl) (fun K hK => ?_)
          have hc8 : wb.cell? ⟨b7, 0, none⟩ = some v := (HX.out.cell (p := ⟨b7, 0, none⟩) L8.out).trans C8.out
          go_simp
          clear hc8
          refine hK.out _ _ ?_ (fun hHeld => ?_)
          · exact HSK.out _ (HBT.out.trans (Buts.of HX.out))
          clear hK K
          try go_frame
          refine do_at (i := 8) rfl (by kernel_rfl) (by kernel_rfl) (fun K hK => ?_)
          refine wp_append_hds (.tmp 38) (.tmp 44) rfl lo w0.heap.size v Kl rfl (HGK.out.below HX.out) _ [x] rfl HI.out HLN.out (Nat.le_trans HW2.out HX.out.size) ?_
          intro v' wa ga growa
          obtain ⟨va, vc, hvs⟩ := ga.shape
          obtain ⟨ln, hln⟩ : ∃ ln, ln = (Kl ++ [x]).length := ⟨_, rfl⟩
          rw [← hln] at hvs
          subst hvs
          clear hln
          have HGA := Lib.hid ga
          have HGW := Lib.hid (show Buts (· = b7) w0 wa from ⟨growa.os.trans (HX.out.os.trans HBT.out.os), growa.tape.trans (HX.out.tape.trans HBT.out.tape), growa.output.trans (HX.out.output.trans HBT.out.output), Nat.le_trans HBT.out.size (Nat.le_trans HX.out.size growa.size), fun j hj hn => by rw [growa.block j (Nat.lt_of_lt_of_le (Nat.lt_of_lt_of_le hj HBT.out.size) HX.out.size) (fun e => by have := HVB.out j e.symm; omega), HX.out.block j (Nat.lt_of_lt_of_le hj HBT.out.size), HBT.out.block j hj hn]⟩)
          have H8A := Lib.hid (show wa.heap[b7]? = some (.cells #[v] 29 (0, 0)) from (growa.block b7 (Nat.lt_of_lt_of_le L8.out HX.out.size) (fun e => by have := HVB.out b7 e.symm; have := HNE.out; omega)).trans ((HX.out.block b7 L8.out).trans H8.out))
          clear ga growa
          refine hK.out _ _ ?_ (fun hHeld => ?_)
          · exact HSK.out _ HGW.out
          clear hK K
          try go_frame
          refine tk 9 rfl (fun w hSw => by (try dsimp only at hSw); go_simp; try with_reducible rfl) ?_
          go_frame
          refine do_at (i := 10) rfl (by kernel_rfl) (by kernel_rfl) (fun K hK => ?_)
          have hc8 : wa.cell? ⟨b7, 0, none⟩ = some v := by rw [cell_of_row wa b7 0 _ _ _ H8A.out]; simp
          have hf8 : wa.frozen? ⟨b7, 0, none⟩ = false := frozen_of_row wa b7 0 _ _ H8A.out
          go_simp
          clear hc8 hf8
          refine hK.out _ _ ?_ (fun hHeld => ?_)
          · exact HSK.out _ (HGW.out.trans (Buts.but (S := (· = b7)) (But.set wa b7 0 _) rfl))
          clear hK K
          try go_frame
          refine wpAnyH_done (by kernel_rfl) ?_ _
          have ha8 := Lib.hid (heap_set1 (v := .slice va ln vc) H8A.out)
          have hg8 := Lib.hid (show GRow (wa.setCell ⟨b7, 0, none⟩ (.slice va ln vc)) lo w0.heap.size (.slice va ln vc) (Kl ++ [x]) from HGA.out.asideR (But.set wa b7 0 _) H8A.out)
          have hb8 := Lib.hid (HGW.out.trans (Buts.but (S := (· = b7)) (But.set wa b7 0 (.slice va ln vc)) rfl))
          have hm8 := Lib.hid (show (Kl ++ [x]).map (·.R) = (List.range (k + 1)).map (setE (H.map (·.R)) N R) by rw [List.map_append, HMK.out, List.range_succ, List.map_append]; exact congrArg (_ ++ [·]) (HXE.out))
          clear hHeld HGA HGW H8A HX HI HO
          clear HVB HLN HW1 HW2 C8 L8 HKL H8 HGK HMK HBT HXE
          go_wp2
          go_roundg (nn - (k + 1))
          case rel => exact ⟨k + 1, _, _, by go_num, by omega, Nat.le_refl _, ha8, hg8, hm8, hb8⟩
          case measure => omega
    · obtain rfl : k = nn := by omega
      have h6 := (HBT.out.block b6 (by have := HNE.out; omega) (by have := HNE.out; omega)).trans H6.out
      have c6 : wr.cell? ⟨b6, 0, none⟩ = some (.slice none 0 0) := by rw [cell_of_row wr b6 0 _ _ _ h6]; simp
      have f6 : wr.frozen? ⟨b6, 0, none⟩ = false := frozen_of_row wr b6 0 _ _ h6
      have c7 : wr.cell? ⟨b7, 0, none⟩ = some v := by rw [cell_of_row wr b7 0 _ _ _ H8.out]; simp
      obtain ⟨va, vc, hvs⟩ := HGK.out.shape
      obtain ⟨ln, hln⟩ : ∃ ln, ln = Kl.length := ⟨_, rfl⟩
      rw [← hln] at hvs
      subst hvs
      obtain ⟨xe, hxe⟩ : ∃ X, X = wr.setCell ⟨b6, 0, none⟩ (.slice va ln vc) := ⟨_, rfl⟩
      have HXE := Lib.hid (show xe.cell? ⟨b6, 0, none⟩ = some (.slice va ln vc) by rw [hxe]; exact World.cell?_setCell_same' _ _ _ (by rw [c6]; rfl))
      have HGE := Lib.hid (show GRow xe lo w0.heap.size (.slice va ln vc) Kl by rw [hxe]; exact HGK.out.asideR (But.set wr b6 0 _) h6)
      have HBE := Lib.hid (show Below w.heap.size w xe by rw [hxe]; exact (HB0.out.trans (HBT.out.below (C := w.heap.size) (fun i hi => by have := HNE.out; omega) HB0.out.size)).trans ((But.set wr b6 0 _).below (C := w.heap.size) (by have := HNE.out; omega) (Nat.le_trans HB0.out.size HBT.out.size)))
      have HME := Lib.hid (show Kl.map (·.R) = setRG (H.map (·.R)) n R by rw [HMK.out, HN.out, ← setE_all, List.length_map, HNN.out])
      clear h6 hln
      go_wp2
      rw [← hxe]
      clear hxe c6 f6 c7
      have q0 := HXE.out
      exact bodyPost_ret (v := .agg #[.slice va ln vc]) (by simp [results, Try.results19, go_sem, q0]) rfl ⟨_, rfl, Kl, HGE.out.lower (Nat.le_refl _) HB0.out.size, HME.out, HBE.out⟩
end Go.Proofs.Ytdeahnphcfcfpaa.Lab
