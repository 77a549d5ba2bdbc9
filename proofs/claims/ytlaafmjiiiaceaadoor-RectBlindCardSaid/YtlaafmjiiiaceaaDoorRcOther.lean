/- The reference's Other of a draft. -/
import Derived.Test.YtlaafmjiiiaceaaDoorRcGrid
import Derived.Test.YtlaafmjiiiaceaaDoorRcMath
set_option linter.unusedVariables false
namespace Go.Proofs.YtlaafmjiiiaceaaDoor.Lab
open Go Go.RowKit

def moreD (OO : List (List Dc)) (i : Nat) : List Dc := if OO.length = 0 then [] else OO.getD (i % OO.length) []
def othM (cols : Nat) (LL OO : List (List Dc)) : List Cls := (LL.take 8).mapIdx fun i L => otherM (cols % 31) L (moreD OO i)
theorem othM_len (cols : Nat) (LL OO : List (List Dc)) : (othM cols LL OO).length = min 8 LL.length := by unfold othM; rw [List.length_mapIdx, List.length_take]
theorem othM_at {cols k : Nat} {LL OO : List (List Dc)} (h : k < min 8 LL.length) : rowG (othM cols LL OO) k = otherM (cols % 31) (LL.getD k []) (moreD OO k) := by
  rw [rowG_eq (by rw [othM_len]; exact h)]
  simp only [othM, List.getElem_mapIdx, List.getElem_take]
  rw [List.getD_eq_getElem?_getD, List.getElem?_eq_getElem (by omega)]
  rfl
theorem oth_low (cols : Nat) (LL OO : List (List Dc)) : GLow (rowsM cols LL) (othM cols LL OO) := by
  refine glow_rows (by rw [rowsM_len, othM_len]) fun i hi => ?_
  rw [rowsM_len] at hi
  rw [rowsM_at hi, othM_at hi]
  exact (otherM_whole _ _ _).2
theorem othM_good (cols : Nat) (LL OO : List (List Dc)) : GG (othM cols LL OO) (cols % 31) := by
  have hl := oth_low cols LL OO
  have hg := rowsM_good cols LL
  refine ⟨fun R hR => ?_, by rw [othM_len]; omega, by omega⟩
  obtain ⟨i, hi, rfl⟩ := List.getElem_of_mem hR
  have hi' : i < min 8 LL.length := by rw [← othM_len cols LL OO]; exact hi
  have hi2 : i < (rowsM cols LL).length := by rw [rowsM_len]; exact hi'
  rw [← rowG_eq hi]
  obtain ⟨h1, h2, h3⟩ := hg.at hi2
  have hlow : LowE (rowG (rowsM cols LL) i) (rowG (othM cols LL OO) i) := hl.2 i hi2
  refine ⟨by rw [othM_at hi']; exact (otherM_whole _ _ _).1, hlow.1.symm.trans h2, fun j hj => ?_⟩
  have := hlow.2 j (by rw [hlow.1]; exact hj)
  rw [← this.1]
  exact h3 j (by rw [hlow.1]; exact hj)
set_option maxHeartbeats 8000000 in
set_option maxRecDepth 100000 in
theorem rother12_any (w : World) (cols : Nat) (lv : Value) (LL : List (List Dc)) (cols2 : Nat) (lv2 : Value) (OO : List (List Dc)) (hc : cols < 256) (hl : LnsIn w lv LL) (ho : LnsIn w lv2 OO) :
    Calls Tryd.prog 13 #[.agg #[.int .u8 (cols : Nat), lv], .agg #[.int .u8 (cols2 : Nat), lv2]] w fun e w' => ∃ v U, e = .returned v ∧ GSee w' v (othM cols LL OO) U ∧ Below w.heap.size w w' := by
  obtain ⟨la, lc, elv⟩ := hl.shape
  obtain ⟨us, hl1, hl2⟩ := hl
  obtain ⟨n, hn⟩ : ∃ n, n = LL.length := ⟨_, rfl⟩
  rw [← hn] at elv
  obtain ⟨ma, mc, emv⟩ := ho.shape
  obtain ⟨n2, hn2⟩ : ∃ n, n = OO.length := ⟨_, rfl⟩
  rw [← hn2] at emv
  have HO2 := Lib.hid ho
  rw [emv] at HO2
  have HN2 := Lib.hid hn2
  have HUN := Lib.hid (show us.length = n by rw [hn]; exact hl2.1)
  obtain ⟨nb, hnb⟩ : ∃ nb, nb = min 8 n := ⟨_, rfl⟩
  obtain ⟨c, hcc⟩ : ∃ c, c = cols % 31 := ⟨_, rfl⟩
  obtain ⟨G, hG⟩ : ∃ G, G = othM cols LL OO := ⟨_, rfl⟩
  have HGL := Lib.hid (show G.length = nb ∧ nb ≤ 8 ∧ (us.take 8).length = nb ∧ c < 31 by rw [hG, othM_len, ← hn, List.length_take, HUN.out]; omega)
  have HGR := Lib.hid (show ∀ k, (h : k < nb) → rowG G k = otherM c (LL.getD k []) (moreD OO k) from fun k h => by
    rw [hG, hcc]
    exact othM_at (by omega))
  obtain ⟨b1, hb1⟩ : ∃ b, b = w.heap.size := ⟨_, rfl⟩
  obtain ⟨b3, hb3⟩ : ∃ b, b = w.heap.size + 1 := ⟨_, rfl⟩
  obtain ⟨w0, hw0⟩ : ∃ x, x = (w.alloc (.cells #[.int .u8 (cols : Nat), .slice la n lc] 24)).alloc (.cells #[.int .u8 (cols2 : Nat), .slice ma n2 mc] 24) := ⟨_, rfl⟩
  have H1 := Lib.hid (show Lie w0 b1 [.int .u8 (cols : Nat), .slice la n lc] by rw [hw0]; exact (Lie.new w _ _ b1 hb1).below ((Below.refl _ _).alloc (Nat.le_refl _) _))
  have H3 := Lib.hid (show Lie w0 b3 [.int .u8 (cols2 : Nat), .slice ma n2 mc] by rw [hw0]; exact Lie.new _ _ _ b3 (by rw [hb3]; simp))
  have HB0 := Lib.hid (show Below w.heap.size w w0 by rw [hw0]; exact ((Below.refl _ _).alloc (Nat.le_refl _) _).alloc (by simp) _)
  have HD := Lib.hid (hl2.below HB0.out)
  have HLN := Lib.hid (rlines_any w0 cols lv us LL hc (hl1.below HB0.out) HD.out)
  replace HO2 := Lib.hid (HO2.out.below HB0.out)
  rw [elv, ← hcc] at HLN
  rw [elv, emv, ← hG]
  have q0 := H1.out.at 0 rfl
  have q1 := H1.out.at 1 rfl
  have HNL := Lib.hid (show n = LL.length ∧ (nb = n ∨ nb = 8) by omega)
  clear hl1 hl2 hn hnb hcc hG elv emv ho hn2
  go_enter Tryd.func13, Tryd.ntmps13
  go_upto_region 1 with (fail)
  rw [← hw0, ← hb3, ← hb1]
  clear hw0 hb1 hb3
  go_wp2_with fail
  refine HLN.out.mono ?_
  rintro e w1 ⟨v1, rfl, own1, bw1⟩
  obtain ⟨va, vc, hv1⟩ := own1.shape
  rw [HGL.out.2.2.1] at hv1
  have HO := Lib.hid own1
  rw [hv1] at HO
  subst hv1
  have HB1 := Lib.hid bw1
  have HBW := Lib.hid (show Below w.heap.size w w1 from HB0.out.trans (bw1.mono HB0.out.size))
  have HV0 := Lib.hid (show VRow w1 w1.heap.size (.slice none 0 0) (G.take 0) from VRow.nil _ _)
  replace H3 := Lib.hid (H3.out.below HB1.out)
  replace HO2 := Lib.hid (HO2.out.below HB1.out)
  clear own1 bw1 HLN q0 q1 H1
  go_wp2
  go_loopg [5, 7] nb (fun gl vv vi wr => ∃ (k : Nat), vi = .int .i64 k ∧ k ≤ nb ∧ nb - k ≤ gl ∧ Hid (VRow wr w1.heap.size vv (G.take k)) ∧ Hid (Below w1.heap.size w1 wr))
  case atStart => exact ⟨0, rfl, Nat.zero_le _, Nat.sub_le _ _, HV0, Lib.hid (Below.refl _ _)⟩
  case round =>
    obtain ⟨k, rfl, hkn, hgk, HV, HB⟩ := hrel
    clear HV0
    by_cases hlt : k < nb
    · have HLT := Lib.hid hlt
      have hl3 := H3.out.below HB.out
      have x1 := hl3.at 1 rfl
      obtain ⟨g, cp, e, hcap, hgs, hcell⟩ := HO.out.open (by rw [HGL.out.2.2.1]; omega)
      injection e with e1 e2 e3
      subst e1 e3
      have hk' : k < (us.take 8).length := by rw [HGL.out.2.2.1]; exact hlt
      obtain ⟨d0, d1⟩ := hcell k hk'
      have hku : k < us.length := by rw [List.length_take] at hk'; omega
      have hdk := HD.out.2 k (by rw [← HNL.out.1, ← HUN.out]; exact hku)
      obtain ⟨ua, uc, hs⟩ := hdk.shape
      have hus : (us.take 8).getD k undef = us.getD k undef := by
        rw [List.getD_eq_getElem?_getD, List.getD_eq_getElem?_getD, List.getElem?_take, if_pos (by have := HGL.out; omega)]
      rw [hus, hs] at d1
      rw [hs] at hdk
      obtain ⟨L, hL⟩ : ∃ L, L = LL[k]'(by rw [← HNL.out.1, ← HUN.out]; exact hku) := ⟨_, rfl⟩
      rw [← hL] at hdk d1
      obtain ⟨ul, hul⟩ : ∃ ul, ul = L.length := ⟨_, rfl⟩
      rw [← hul] at hdk d1
      have HCK := Lib.hid (show ∀ W, Below wr.heap.size wr W → W.cell? ⟨g, k * 2, none⟩ = some (.int .u8 (c : Nat)) ∧ W.cell? ⟨g, k * 2 + 1, none⟩ = some (.slice ua ul uc) from fun W kb => by
        have kb2 := HB.out.trans (kb.mono HB.out.size)
        exact ⟨(kb2.cell (p := ⟨g, k * 2, none⟩) hgs).trans d0, (kb2.cell (p := ⟨g, k * 2 + 1, none⟩) hgs).trans d1⟩)
      have HDK := Lib.hid (show ∀ W, Below wr.heap.size wr W → DsIn W (.slice ua ul uc) L from fun W kb => ((hdk.below HB1.out).below HB.out).below kb)
      have HRG := Lib.hid (show rowG G k = otherM c L (moreD OO k) by rw [HGR.out k hlt, hL, List.getD_eq_getElem?_getD, List.getElem?_eq_getElem (by rw [← HNL.out.1, ← HUN.out]; exact hku)]; rfl)
      clear hcell hcap hgs e2 hk' hku hdk hs hus d0 d1 hul hL
      by_cases h0 : n2 = 0
      · have hgt : ¬ (n2 : Int) > 0 := by omega
        have HM0 := Lib.hid (show moreD OO k = [] by unfold moreD; rw [if_pos (by rw [← HN2.out]; exact h0)])
        clear h0
        have HRC := Lib.hid (rother_any wr c (.slice ua ul uc) (.slice none 0 0) L (moreD OO k) (by have := HGL.out; omega) (HDK.out wr (Below.refl _ _)) (by rw [HM0.out]; exact DsIn.nil _ _ _))
        obtain ⟨f0, f1⟩ := HCK.out wr (Below.refl _ _)
        go_wp2_with fail
        refine HRC.out.mono ?_
        rintro e w2 ⟨r, rfl, own2, b2⟩
        obtain ⟨ra, rc, rfl⟩ := own2.sl
        obtain ⟨rl, hrl⟩ : ∃ rl, rl = (otherM c L (moreD OO k)).length := ⟨_, rfl⟩
        rw [← hrl] at own2 ⊢
        have HR2 := Lib.hid (own2.lower (Nat.zero_le _))
        have b3 : Below wr.heap.size wr w2 := b2
        have HV2 := Lib.hid (HV.out.below b3)
        have HB2 := Lib.hid (show Below w1.heap.size w1 w2 from HB.out.trans (b3.mono HB.out.size))
        obtain ⟨p, hpd⟩ : ∃ p, p = w2.heap.size := ⟨_, rfl⟩
        obtain ⟨wp, hwp⟩ : ∃ X, X = w2.alloc (.cells #[.slice ra rl rc] 49) := ⟨_, rfl⟩
        have hwb : Below w2.heap.size w2 wp := by rw [hwp]; exact (Below.refl _ _).alloc (Nat.le_refl _) _
        have HPL := Lib.hid (show Lie wp p [.slice ra rl rc] by rw [hwp]; exact Lie.new w2 _ _ p hpd)
        have HRP := Lib.hid (HR2.out.below hwb)
        have HVP := Lib.hid (HV2.out.below hwb)
        have HBP := Lib.hid (show Below w1.heap.size w1 wp from HB2.out.trans (hwb.mono HB2.out.size))
        have hlen : (G.take k).length ≤ 1000 := by rw [List.length_take]; have := HGL.out; omega
        clear own2 b2 b3 hrl hwb HRC HR2 HV2 HB2 f0 f1
        go_wp2_with (at_builtin; rw [← hwp, ← hpd]; clear hwp hpd; refine wpList_append_row1 rfl (.tmp 31) (.tmp 38) rfl w1.heap.size _ (G.take k) rfl HVP.out p (.slice ra rl rc) (otherM c L (moreD OO k)) rfl (HPL.out.at 0 rfl) HRP.out hlen HBP.out.size ?_)
        intro v' w6 own6 grow6
        have HV6 := Lib.hid (show VRow w6 w1.heap.size v' (G.take (k + 1)) by rw [take_snocG (by rw [HGL.out.1]; exact HLT.out), HRG.out]; exact own6)
        have HB6 := Lib.hid (show Below w1.heap.size w1 w6 from HBP.out.grown grow6 HBP.out.size (fun j hj => HVP.out.lt j hj))
        clear own6 grow6 HVP HBP HRP HPL HV HB HRG hlen HDK HCK
        go_wp2
        go_roundg (nb - (k + 1))
        case rel =>
          have hk8 : k ≤ 8 := by have := HGL.out; have := HLT.out; omega
          exact ⟨k + 1, by first | go_num | (refine congrArg _ ?_; unfold wrap64; omega), HLT.out, Nat.le_refl _, HV6, HB6⟩
        case measure => have := HLT.out; omega
      · have hgt : (n2 : Int) > 0 := by omega
        obtain ⟨q, hq⟩ : ∃ q, q = k % n2 := ⟨_, rfl⟩
        have hqn : q < n2 := by rw [hq]; exact Nat.mod_lt _ (by omega)
        have HQK := Lib.hid hq
        obtain ⟨us2, ⟨a2, c2, e2, hmx2, hop2⟩, hds2⟩ := HO2.out
        have hl2 : us2.length = n2 := hds2.1.trans HN2.out.symm
        rw [hl2] at e2 hop2 hmx2
        injection e2 with e3 e4 e5
        subst e3 e5
        clear e4
        obtain ⟨gm, om, ea, hgm, hcm⟩ := hop2 (by omega)
        subst ea
        obtain ⟨xx, hx0, hx1⟩ := hcm q hqn
        have hdq := hds2.2 q (by rw [← HN2.out]; exact hqn)
        obtain ⟨xa, xc, hsx⟩ := hdq.shape
        obtain ⟨xn, hxn⟩ : ∃ n, n = (OO[q]'(by rw [← HN2.out]; exact hqn)).length := ⟨_, rfl⟩
        rw [← hxn] at hsx
        rw [hsx] at hx1 hdq
        have HMD := Lib.hid (show moreD OO k = OO[q]'(by rw [← HN2.out]; exact hqn) by
          unfold moreD
          have e : k % OO.length = q := by rw [← HN2.out]; exact HQK.out.symm
          rw [if_neg (by rw [← HN2.out]; exact h0), e, List.getD_eq_getElem?_getD, List.getElem?_eq_getElem (by rw [← HN2.out]; exact hqn)]
          rfl)
        have HDM := Lib.hid (show ∀ W, Below wr.heap.size wr W → DsIn W (.slice xa xn xc) (moreD OO k) from fun W kb => by
          rw [HMD.out]
          exact (hdq.below HB.out).below kb)
        have hcq : wr.cell? ⟨gm, om + q * 2 + 1, none⟩ = some (.slice xa xn xc) := (HB.out.cell (p := ⟨gm, om + q * 2 + 1, none⟩) hgm).trans hx1
        have KEEP := Lib.hid (show ∀ W, Below wr.heap.size wr W → (fun wx => wx.cell? ⟨b3, 1, none⟩ = some (.slice (some ⟨gm, om, none⟩) n2 mc) ∧ wx.cell? ⟨gm, om + q * 2 + 1, none⟩ = some (.slice xa xn xc)) W from fun W kb => ⟨(hl3.below kb).at 1 rfl, (kb.cell (p := ⟨gm, om + q * 2 + 1, none⟩) (Nat.lt_of_lt_of_le hgm HB.out.size)).trans hcq⟩)
        have hk8 : k ≤ 8 := by have := HGL.out; omega
        have t1 : Int.tmod (k : Int) (n2 : Int) = (q : Int) := by rw [hq]; rfl
        have t2 : (k : Int) % (n2 : Int) = (q : Int) := by rw [hq]; rfl
        have t3 : IntKind.i64.wrap (q : Int) = (q : Int) := by have : q ≤ k := by rw [hq]; exact Nat.mod_le _ _
                                                               rw [IntKind.wrap_i64]; omega
        have t4 : ((n2 : Int) == 0) = false := by simp; omega
        have t5 : ¬ ((n2 : Int) = 0) := by omega
        have t6 : ¬ (n2 = 0) := h0
        clear hq hcm hop2 hmx2 hgm hx0 hx1 hdq hsx hxn hds2 hl2 h0 hcq
        go_wp2_with fail
        refine wp_region_held_drew (S := (fun wx => wx.cell? ⟨b3, 1, none⟩ = some (.slice (some ⟨gm, om, none⟩) n2 mc) ∧ wx.cell? ⟨gm, om + q * 2 + 1, none⟩ = some (.slice xa xn xc))) (by kernel_rfl) ?_ (fun hHeld => ?_)
        · exact KEEP.out _ ((Below.refl _ _).drew)
        obtain ⟨wd, hwd⟩ : ∃ X, X = wr.drew := ⟨_, rfl⟩
        have HX := Lib.hid (show Below wr.heap.size wr wd by rw [hwd]; exact (Below.refl _ _).drew)
        replace hHeld := KEEP.out _ HX.out
        rw [← hwd]
        clear hwd
        refine tk 0 rfl (fun w hSw => by (try dsimp only at hSw); go_simp; try with_reducible rfl) ?_
        go_frame
        refine tk 1 rfl (fun w hSw => by (try dsimp only at hSw); go_simp; try with_reducible rfl) ?_
        go_frame
        refine tk 2 rfl (fun w hSw => by (try dsimp only at hSw); go_simp; try with_reducible rfl) ?_
        go_frame
        refine tk 3 rfl (fun w hSw => by (try dsimp only at hSw); go_simp; try with_reducible rfl) ?_
        go_frame
        refine tk 4 rfl (fun w hSw => by (try dsimp only at hSw); go_simp; try with_reducible rfl) ?_
        go_frame
        refine tk 5 rfl (fun w hSw => by (try dsimp only at hSw); go_simp; try with_reducible rfl) ?_
        go_frame
        refine tk 6 rfl (fun w hSw => by (try dsimp only at hSw); go_simp; try with_reducible rfl) ?_
        go_frame
        refine tk 7 rfl (fun w hSw => by (try dsimp only at hSw); go_simp; try with_reducible rfl) ?_
        go_frame
        refine tk 8 rfl (fun w hSw => by (try dsimp only at hSw); go_simp; try with_reducible rfl) ?_
        go_frame
        refine tk 9 rfl (fun w hSw => by (try dsimp only at hSw); go_simp; try with_reducible rfl) ?_
        go_frame
        refine tk 10 rfl (fun w hSw => by (try dsimp only at hSw); go_simp; try with_reducible rfl) ?_
        go_frame
        refine wpAnyH_done (by kernel_rfl) ?_ _
        clear hHeld KEEP t1 t2 t3 t4 t5 t6
        have HRC := Lib.hid (rother_any wd c (.slice ua ul uc) (.slice xa xn xc) L (moreD OO k) (by have := HGL.out; omega) (HDK.out wd HX.out) (HDM.out wd HX.out))
        obtain ⟨f0, f1⟩ := HCK.out wd HX.out
        go_wp2_with fail
        refine HRC.out.mono ?_
        rintro e w2 ⟨r, rfl, own2, b2⟩
        obtain ⟨ra, rc, rfl⟩ := own2.sl
        obtain ⟨rl, hrl⟩ : ∃ rl, rl = (otherM c L (moreD OO k)).length := ⟨_, rfl⟩
        rw [← hrl] at own2 ⊢
        have HR2 := Lib.hid (own2.lower (Nat.zero_le _))
        have b3 : Below wr.heap.size wr w2 := HX.out.trans (b2.mono HX.out.size)
        have HV2 := Lib.hid (HV.out.below b3)
        have HB2 := Lib.hid (show Below w1.heap.size w1 w2 from HB.out.trans (b3.mono HB.out.size))
        obtain ⟨p, hpd⟩ : ∃ p, p = w2.heap.size := ⟨_, rfl⟩
        obtain ⟨wp, hwp⟩ : ∃ X, X = w2.alloc (.cells #[.slice ra rl rc] 49) := ⟨_, rfl⟩
        have hwb : Below w2.heap.size w2 wp := by rw [hwp]; exact (Below.refl _ _).alloc (Nat.le_refl _) _
        have HPL := Lib.hid (show Lie wp p [.slice ra rl rc] by rw [hwp]; exact Lie.new w2 _ _ p hpd)
        have HRP := Lib.hid (HR2.out.below hwb)
        have HVP := Lib.hid (HV2.out.below hwb)
        have HBP := Lib.hid (show Below w1.heap.size w1 wp from HB2.out.trans (hwb.mono HB2.out.size))
        have hlen : (G.take k).length ≤ 1000 := by rw [List.length_take]; have := HGL.out; omega
        clear own2 b2 b3 hrl hwb HRC HR2 HV2 HB2 f0 f1
        go_wp2_with (at_builtin; rw [← hwp, ← hpd]; clear hwp hpd; refine wpList_append_row1 rfl (.tmp 31) (.tmp 38) rfl w1.heap.size _ (G.take k) rfl HVP.out p (.slice ra rl rc) (otherM c L (moreD OO k)) rfl (HPL.out.at 0 rfl) HRP.out hlen HBP.out.size ?_)
        intro v' w6 own6 grow6
        have HV6 := Lib.hid (show VRow w6 w1.heap.size v' (G.take (k + 1)) by rw [take_snocG (by rw [HGL.out.1]; exact HLT.out), HRG.out]; exact own6)
        have HB6 := Lib.hid (show Below w1.heap.size w1 w6 from HBP.out.grown grow6 HBP.out.size (fun j hj => HVP.out.lt j hj))
        clear own6 grow6 HVP HBP HRP HPL HV HB HRG hlen HDK HCK
        go_wp2
        go_roundg (nb - (k + 1))
        case rel =>
          have hk8 : k ≤ 8 := by have := HGL.out; have := HLT.out; omega
          exact ⟨k + 1, by first | go_num | (refine congrArg _ ?_; unfold wrap64; omega), HLT.out, Nat.le_refl _, HV6, HB6⟩
        case measure => have := HLT.out; omega
    · obtain rfl : k = nb := by omega
      have HE := Lib.hid (show Below w.heap.size w wr from HBW.out.trans (HB.out.mono HBW.out.size))
      have HVE := Lib.hid (show VRow wr w1.heap.size u5 G by have := HV.out; rwa [List.take_of_length_le (by rw [HGL.out.1]; exact Nat.le_refl _)] at this)
      clear hlt
      go_wp2
      go_ret
      obtain ⟨U, hU⟩ := HVE.out.see
      exact ⟨u5, U, rfl, hU, HE.out⟩
end Go.Proofs.YtlaafmjiiiaceaaDoor.Lab
