/- GridCopies: the walk. -/
import Derived.Test.YtdeahnphcfcfpaaGreatGcEq
import Derived.Test.YtdeahnphcfcfpaaGreatGnDoK
import Derived.Test.YtdeahnphcfcfpaaGreatGdCopy
namespace Go.Proofs.YtdeahnphcfcfpaaGreat.Lab
open Go Go.RowKit

theorem doesN_any (X : Nat → Prop) (w : World) (lo p rb c m : Nat) (G : List Cls) (s : St) (hs : s.ok) (h : Gn w lo p rb c G X) (gd : Good G m) (hlo : lo ≤ w.heap.size) (hX : ∀ j, w.heap.size ≤ j → X j) : DoesN X w lo p rb m G s := by
  by_cases h6 : s.what % 10 = 6
  · exact doesN6 X w lo p rb c m G s hs h gd hlo hX h6
  by_cases h7 : s.what % 10 = 7
  · exact doesN7 X w lo p rb c m G s hs h gd hlo hX h7
  by_cases h8 : s.what % 10 = 8
  · exact doesN8 X w lo p rb c m G s hs h gd hlo hX h8
  by_cases h9 : s.what % 10 = 9
  · cases hc : canB (s.n % 12 : Nat) (s.m % 24 : Nat) with
    | true => exact doesN9y X w lo p rb c m G s hs h gd hlo hX h9 hc
    | false => exact doesN9n X w lo p rb c m G s hs h gd hlo hX h9 hc
  have he : s.what % 10 < 6 := by omega
  have hq : s.what % 6 = 0 ∨ s.what % 6 = 1 ∨ s.what % 6 = 2 ∨ s.what % 6 = 3 ∨ s.what % 6 = 4 ∨ s.what % 6 = 5 := by omega
  rcases hq with hq | hq | hq | hq | hq | hq
  · exact doesNK0 X w lo p rb c m G s hs h gd hlo hX he hq
  · exact doesNK1 X w lo p rb c m G s hs h gd hlo hX he hq
  · exact doesNK2 X w lo p rb c m G s hs h gd hlo hX he hq
  · exact doesNK3 X w lo p rb c m G s hs h gd hlo hX he hq
  · exact doesNK4 X w lo p rb c m G s hs h gd hlo hX he hq
  · exact doesNK5 X w lo p rb c m G s hs h gd hlo hX he hq
theorem gridM_len (cols : Nat) (LL : List (List Dc)) (O : List Dc) : (gridM cols LL O).length ≤ 8 := by
  have hl : (rowsD (1 + cols % 20) LL O).length = min 8 LL.length := by unfold rowsD; rw [List.length_map, List.length_take]
  have hn := gK_len (c := 1 + cols % 20) (RS := rowsD (1 + cols % 20) LL O) (n := max 1 (min 8 LL.length)) (k := min 8 LL.length) (by omega) (by omega)
  rw [gridM, hn]
  omega
theorem S11.below {w w' : World} {b o : Nat} {a : St} {n : Nat} (h : S11 w b o a) (k : Below n w w') (hb : b < n) : S11 w' b o a := by
  obtain ⟨q0, q1, q2, q3, q4, q5, q6, q7, q8, q9, q10⟩ := h
  have e : ∀ o, w'.cell? ⟨b, o, none⟩ = w.cell? ⟨b, o, none⟩ := fun o => World.cell?_of_block (a := ⟨b, o, none⟩) (k.block b hb)
  exact ⟨(e _).trans q0, (e _).trans q1, (e _).trans q2, (e _).trans q3, (e _).trans q4, (e _).trans q5, (e _).trans q6, (e _).trans q7, (e _).trans q8, (e _).trans q9, (e _).trans q10⟩
/-- A rune of a row that went. -/
theorem GRow.rune {w : World} {lo g n c : Nat} {K : List Hd} (h : GRow w lo lo (.slice (some ⟨g, 0, none⟩) n c) K) (hn : n = K.length) (hd : (bs K).Nodup) {k q : Nat} (hk : k < K.length) (hq : q < K[k].R.length) (y : Int) :
    ∃ K', GRow (w.setCell ⟨K[k].b, q * 14, none⟩ (.int .i32 y)) lo lo (.slice (some ⟨g, 0, none⟩) n c) K' ∧ K'.length = K.length ∧ bs K' = bs K ∧ (∀ i (h1 : i < K'.length) (h2 : i < K.length), K'[i].R.length = K[i].R.length ∧ K'[i].b = K[i].b ∧ K'[i].c = K[i].c) := by
  subst hn
  obtain ⟨x, hx⟩ : ∃ x, x = K[k] := ⟨_, rfl⟩
  rw [← hx] at hq ⊢
  have hc : CRow w lo (hdV x) x.R := by rw [hx]; exact h.row hk
  obtain ⟨y', hy'⟩ : ∃ y' : Hd, y' = ⟨x.b, x.c, x.R.set q { gc x.R q with ru := y }⟩ := ⟨_, rfl⟩
  have hl : y'.R.length = x.R.length := by rw [hy']; exact List.length_set ..
  have hv : hdV y' = hdV x := by rw [hdV, hl, hy']
  have bt : But x.b w (w.setCell ⟨x.b, q * 14, none⟩ (.int .i32 y)) := But.set w x.b (q * 14) _
  have hm : x ∈ K := by rw [hx]; exact List.getElem_mem hk
  obtain ⟨cu, hgt⟩ := h.type
  obtain ⟨cx, hxt⟩ := hc.type
  have hgx : g ≠ x.b := by
    rintro rfl
    rw [hgt] at hxt
    injection hxt with hxt
    injection hxt with _ hxt
    exact absurd hxt (by decide)
  have hset : K.map hdV = (K.set k y').map hdV := by
    refine List.ext_getElem (by rw [List.length_map, List.length_map, List.length_set]) fun i h1 h2 => ?_
    rw [List.getElem_map, List.getElem_map, List.getElem_set]
    split
    · rename_i e
      subst e
      rw [hv, hx]
    · rfl
  have hbK : bs (K.set k y') = bs K := by
    unfold bs
    refine List.ext_getElem (by rw [List.length_map, List.length_map, List.length_set]) fun i h1 h2 => ?_
    rw [List.getElem_map, List.getElem_map, List.getElem_set]
    split
    · rename_i e
      subst e
      rw [hy', hx]
    · rfl
  refine ⟨K.set k y', ⟨?_, fun z hz => ?_⟩, List.length_set .., hbK, fun i h1 h2 => ?_⟩
  · rw [List.length_set, ← hset]
    exact h.1.kept (row := some x.b) bt (.inr (by simp [Value.ownBlock]; omega))
  · rw [List.mem_iff_getElem] at hz
    obtain ⟨i, hi, rfl⟩ := hz
    rw [List.length_set] at hi
    rw [List.getElem_set]
    split
    · rw [hv, hy']
      have := CRow.fld (i := q) (j := 0) (u := .int .i32 y) (c := { gc x.R q with ru := y }) hc rfl hq (by decide) rfl
      rw [Nat.add_zero] at this
      exact this
    · rename_i hne
      refine (h.row hi).kept bt (.inr fun e => ?_)
      have e' : K[i].b = x.b := by simpa [Value.ownBlock] using e
      have hp : ∀ a b (h1 : a < (bs K).length) (h2 : b < (bs K).length), a < b → (bs K)[a] ≠ (bs K)[b] := fun a b h1 h2 => List.pairwise_iff_getElem.1 hd a b h1 h2
      have hlk : (bs K).length = K.length := by unfold bs; rw [List.length_map]
      have gk : (bs K)[k]'(by rw [hlk]; exact hk) = x.b := by simp only [bs, List.getElem_map]; rw [hx]
      have gi : (bs K)[i]'(by rw [hlk]; exact hi) = x.b := by simp only [bs, List.getElem_map]; exact e'
      rcases Nat.lt_or_gt_of_ne hne with h1 | h1
      · exact hp k i _ _ h1 (gk.trans gi.symm)
      · exact hp i k _ _ h1 (gi.trans gk.symm)
  · rw [List.getElem_set]
    split
    · rename_i e
      subst e
      rw [hl, hy', hx]
      exact ⟨rfl, rfl, rfl⟩
    · exact ⟨rfl, rfl, rfl⟩
set_option maxHeartbeats 1500000 in
set_option maxRecDepth 100000 in
theorem gcopies_core (W : World) (cols : Nat) (lv : Value) (LL : List (List Dc)) (aa : Option Addr) (len cap : Nat) (A : Nat → St) (hL : LnsIn W lv LL) (hA : StsIn W aa len A) :
    Calls Tryz.prog 4 #[.agg #[.int .u8 (cols : Nat), lv], .slice aa len cap] W fun e w' => e = .returned (.bool true) ∧ Below W.heap.size W w' := by
  have HLL := Lib.hid hL
  have HAA := Lib.hid hA
  obtain ⟨la, lc, hlv, _⟩ := hL
  obtain ⟨ll, hll⟩ : ∃ ll, ll = LL.length := ⟨_, rfl⟩
  rw [← hll] at hlv
  subst hlv
  obtain ⟨w0, hw0⟩ : ∃ X, X = W.alloc (.cells #[.int .u8 (cols : Nat), .slice la ll lc] 24) := ⟨_, rfl⟩
  obtain ⟨b2, hb2⟩ : ∃ b, b = W.heap.size := ⟨_, rfl⟩
  have B0 : Below W.heap.size W w0 := by rw [hw0]; exact (Below.refl _ _).alloc (Nat.le_refl _) _
  have h2 : Lie w0 b2 [.int .u8 (cols : Nat), .slice la ll lc] := by rw [hw0]; exact Lie.new W _ _ b2 hb2
  have HL2 := Lib.hid h2
  have HB0 := Lib.hid B0
  clear B0 h2 hA hll
  go_enter Tryz.func4, Tryz.ntmps4
  go_upto_region 1 with (fail)
  rw [← hw0, ← hb2]
  clear hw0 hb2
  go_wp2_with fail
  refine (works_any w0).mono ?_
  rintro e w1 ⟨rfl, b1⟩
  have HB := Lib.hid (HB0.out.trans (b1.mono HB0.out.size))
  have yb := HL2.out.below b1
  have y0 := yb.at 0 rfl
  have y1 := yb.at 1 rfl
  clear b1 yb HL2 HB0
  go_wp2_with fail
  refine (rgrid_any w1 cols (.slice la ll lc) (.slice none 0 0) LL [] (HLL.out.below HB.out) (DsIn.nil _ _ _)).mono ?_
  rintro e w2 ⟨v, rfl, hrl, b2'⟩
  have HRL := Lib.hid hrl
  replace HB := Lib.hid (HB.out.trans (b2'.mono HB.out.size))
  clear hrl b2' y0 y1 HLL
  obtain ⟨G, hG⟩ : ∃ G, G = gridM cols LL [] := ⟨_, rfl⟩
  have HD := Lib.hid (gridM_good cols LL [])
  have HGL := Lib.hid (gridM_len cols LL [])
  rw [← hG] at HRL HD HGL
  obtain ⟨m, hm⟩ : ∃ m, m = 1 + cols % 20 := ⟨_, rfl⟩
  have HM5 := Lib.hid (show m ≤ 512 by omega)
  rw [← hm] at HD
  clear hG hm
  obtain ⟨va, vc, rfl⟩ := HRL.out.shape
  go_wp2_with fail
  refine (nof_any w2 _ m _ G HRL.out HD.out ⟨by have := HGL.out; omega, HM5.out⟩).mono ?_
  rintro e w3 ⟨p, rb0, c0, rfl, gg, b3⟩
  obtain ⟨lo, hlo⟩ : ∃ lo, lo = w2.heap.size := ⟨_, rfl⟩
  rw [← hlo] at gg
  have HLO := Lib.hid (show W.heap.size ≤ lo by rw [hlo]; exact HB.out.size)
  replace HB := Lib.hid (HB.out.trans (b3.mono HB.out.size))
  have HG := Lib.hid gg
  clear gg b3 hlo HRL
  obtain ⟨s0, hs0⟩ : ∃ s, s = w3.heap.size := ⟨_, rfl⟩
  have HP0 := Lib.hid (show p < s0 ∧ rb0 < s0 by rw [hs0]; exact ⟨HG.out.lt.1, HG.out.lt.2.1⟩)
  have HL0 := Lib.hid (show lo ≤ s0 by have := HG.out.lt; omega)
  go_wp2_with fail
  refine (rows_any w3 lo p rb0 c0 m G HG.out.gg HD.out).mono ?_
  rintro e w4 ⟨vw, Kw, rfl, gw, hkw, hfw, b4⟩
  rw [← hs0] at gw hfw
  have HKW := Lib.hid gw
  have HKM := Lib.hid hkw
  have HS04 := Lib.hid (show s0 ≤ w4.heap.size by rw [hs0]; exact b4.size)
  replace HG := Lib.hid (HG.out.now (Y := fun j => j < s0) (fun j hj _ => by rw [hs0]; exact hj))
  replace HG := Lib.hid (HG.out.below b4)
  replace HB := Lib.hid (HB.out.trans (b4.mono HB.out.size))
  clear gw hkw hfw b4 hs0
  obtain ⟨gwb, gwc, hvw, hgw1, hgw2⟩ := HKW.out.here (by have h1 := congrArg List.length HKM.out; rw [List.length_map] at h1; have := HD.out.n0; omega)
  obtain ⟨nk, hnk⟩ : ∃ n, n = Kw.length := ⟨_, rfl⟩
  rw [← hnk] at hvw
  subst hvw
  have HNK := Lib.hid hnk
  have HGW := Lib.hid (show s0 ≤ gwb ∧ gwb < w4.heap.size from ⟨hgw1, hgw2⟩)
  clear hgw1 hgw2 hnk
  go_wp2_with fail
  obtain ⟨H4, h41, h42, h43, h44⟩ := HG.out
  have hl4 : H4.length = G.length := by rw [← h42, List.length_map]
  have HCP := Lib.hid (gcopy_any w4 lo p rb0 c0 H4 h41 (by have := HD.out.n0; omega) (by have := HD.out.n1; omega) (fun x hx => by have := HD.out.row x.R (by rw [← h42]; exact List.mem_map_of_mem hx); have := HD.out.m0; have := HM5.out; omega))
  have HE4 := Lib.hid h42
  clear h41 h42 h43 h44 hl4
  refine HCP.out.mono ?_
  rintro e w5 ⟨p2, rb2, c2, Kc, rfl, kc1, kc2, kc3, b5⟩
  rw [HE4.out] at kc2
  obtain ⟨s2, hs2⟩ : ∃ s, s = w5.heap.size := ⟨_, rfl⟩
  have HKC := Lib.hid kc1
  have HKCM := Lib.hid kc2
  have HKCB := Lib.hid (show ∀ x ∈ Kc, s0 ≤ x.b ∧ x.b < s2 from fun x hx => ⟨Nat.le_trans HS04.out (kc3.1 x hx), by rw [hs2]; exact (kc1.2.2.2.lt hx).2⟩)
  have HPC := Lib.hid (show (s0 ≤ p2 ∧ p2 < s2) ∧ s0 ≤ rb2 ∧ rb2 < s2 by have h1 := kc1.lt; have h2 := kc1.1; have h3 := HS04.out; omega)
  have HKWB := Lib.hid (show ∀ x ∈ Kw, s0 ≤ x.b ∧ x.b < s2 from fun x hx => ⟨(HKW.out.2.lt hx).1, by rw [hs2]; exact Nat.lt_of_lt_of_le (HKW.out.2.lt hx).2 b5.size⟩)
  have HGWB := Lib.hid (show s0 ≤ gwb ∧ gwb < s2 from ⟨HGW.out.1, by rw [hs2]; exact Nat.lt_of_lt_of_le HGW.out.2 b5.size⟩)
  have HS02 := Lib.hid (show s0 ≤ s2 by rw [hs2]; exact Nat.le_trans HS04.out b5.size)
  replace HG := Lib.hid ((HG.out.below b5).now (Y := (fun j => j < s0 ∨ s2 ≤ j)) (fun j _ h => .inl h))
  replace HKW := Lib.hid (HKW.out.below b5)
  replace HB := Lib.hid (HB.out.trans (b5.mono HB.out.size))
  have HGC := Lib.hid (show Gg w5 w4.heap.size p2 rb2 c2 G from ⟨Kc, HKC.out, HKCM.out⟩)
  clear kc1 kc2 kc3 b5 HCP HE4
  go_wp2_with fail
  refine (gsame_yes w5 lo p rb0 c0 _ p2 rb2 c2 m G HG.out.gg HGC.out HD.out).mono ?_
  rintro e w6 ⟨rfl, bb⟩
  have HS6 := Lib.hid (show s2 ≤ w6.heap.size by rw [hs2]; exact bb.size)
  replace HG := Lib.hid (HG.out.below bb)
  replace HKW := Lib.hid (HKW.out.below bb)
  replace HKC := Lib.hid (HKC.out.below bb)
  replace HB := Lib.hid (HB.out.trans (bb.mono HB.out.size))
  clear bb HGC hs2 H4
  have hg0 : 0 < G.length := HD.out.n0
  go_wp2_with fail
  refine (ggrow w6 lo p rb0 c0 m 0 G HG.out.gg HD.out HD.out.n0).mono ?_
  rintro e w7 ⟨x, rfl, hxR, hxb, hxc, bb⟩
  have hxl : x.R.length = m := by rw [hxR]; exact (HD.out.len HD.out.n0).2.1
  obtain ⟨xb, hxb'⟩ : ∃ b, b = x.b := ⟨_, rfl⟩
  obtain ⟨xc, hxc'⟩ : ∃ b, b = x.c := ⟨_, rfl⟩
  obtain ⟨R0, hR0⟩ : ∃ R, R = x.R := ⟨_, rfl⟩
  rw [hdV, hxl, ← hxb', ← hxc', ← hR0] at hxc
  rw [hdV, hxl, ← hxb', ← hxc']
  rw [← hR0] at hxl
  rw [← hxb'] at hxb
  have HR0 := Lib.hid (show CRow w7 w6.heap.size (.slice (some ⟨xb, 0, none⟩) m xc) R0 ∧ R0.length = m from ⟨hxc, hxl⟩)
  have HXB := Lib.hid hxb
  have HBT0 := Lib.hid (show Below w6.heap.size w6 w7 from bb)
  have hm5 : m ≤ 512 := HM5.out
  clear hxb' hxc' hR0 hxR hxb hxc hxl bb
  go_wp2
  go_loopg [9] m (fun Gs i wr => ∃ (q : Nat) (R : Cls), i = .int .i64 q ∧ q ≤ m ∧ m - q ≤ Gs ∧ Hid (CRow wr w6.heap.size (.slice (some ⟨xb, 0, none⟩) m xc) R ∧ R.length = m) ∧ Hid (Below w6.heap.size w6 wr))
  case atStart => exact ⟨0, R0, rfl, Nat.zero_le _, Nat.sub_le _ _, HR0, HBT0⟩
  case round =>
    obtain ⟨q, R, rfl, hqm, hgq, HR, HBT⟩ := hrel
    clear HR0 HBT0
    by_cases hlt : q < m
    · have HLT := Lib.hid (show q + 1 ≤ m from hlt)
      obtain ⟨w8, hw8⟩ : ∃ w8, w8 = put14 wr xb (q * 14) ⟨63, 0, 0, 9, ⟨Cl.zero, Cl.zero, 0⟩, 0⟩ := ⟨_, rfl⟩
      have HR1 := Lib.hid (show CRow w8 w6.heap.size (.slice (some ⟨xb, 0, none⟩) m xc) (R.set q ⟨63, 0, 0, 9, ⟨Cl.zero, Cl.zero, 0⟩, 0⟩) ∧ (R.set q ⟨63, 0, 0, 9, ⟨Cl.zero, Cl.zero, 0⟩, 0⟩).length = m by
        rw [hw8]
        exact ⟨HR.out.1.put HR.out.2.symm (by rw [HR.out.2]; exact hlt) _, by rw [List.length_set]; exact HR.out.2⟩)
      have HBT1 := Lib.hid (show Below w6.heap.size w6 w8 by rw [hw8]; exact HBT.out.trans ((put14_but wr xb (q * 14) _).below (C := w6.heap.size) HXB.out HBT.out.size))
      have HF := fun j => HR.out.1.frozen HR.out.2.symm j
      obtain ⟨d0, d1, d2, d3, d4, d5, d6, d7, d8, d9, d10, d11, d12, d13⟩ := HR.out.1.at (by rw [HR.out.2]; exact hlt)
      replace hw8 : w8 = ((((((((((((((wr.setCell ⟨xb, q * 14, none⟩ (.int .i32 63)).setCell ⟨xb, q * 14 + 1, none⟩ (.int .i32 0)).setCell ⟨xb, q * 14 + 2, none⟩ (.int .i32 0)).setCell ⟨xb, q * 14 + 3, none⟩ (.int .u8 9)).setCell ⟨xb, q * 14 + 4, none⟩ (.int .u8 0)).setCell ⟨xb, q * 14 + 5, none⟩ (.int .u8 0)).setCell ⟨xb, q * 14 + 6, none⟩ (.int .u8 0)).setCell ⟨xb, q * 14 + 7, none⟩ (.int .u8 0)).setCell ⟨xb, q * 14 + 8, none⟩ (.int .u8 0)).setCell ⟨xb, q * 14 + 9, none⟩ (.int .u8 0)).setCell ⟨xb, q * 14 + 10, none⟩ (.int .u8 0)).setCell ⟨xb, q * 14 + 11, none⟩ (.int .u8 0)).setCell ⟨xb, q * 14 + 12, none⟩ (.int .u16 0)).setCell ⟨xb, q * 14 + 13, none⟩ (.int .u8 0)) := hw8
      go_upto_region 11 with (fail)
      rw [← hw8]
      clear hw8 HF d0 d1 d2 d3 d4 d5 d6 d7 d8 d9 d10 d11 d12 d13 HR HBT
      go_wp2
      go_roundg (m - (q + 1))
      case rel => exact ⟨q + 1, _, by go_num, HLT.out, Nat.le_refl _, HR1, HBT1⟩
      case measure => have := HLT.out; omega
    · clear HR
      replace HG := Lib.hid (HG.out.below HBT.out)
      replace HKW := Lib.hid (HKW.out.below HBT.out)
      replace HKC := Lib.hid (HKC.out.below HBT.out)
      have HS9 := Lib.hid (Nat.le_trans HS6.out HBT.out.size)
      replace HB := Lib.hid (HB.out.trans (HBT.out.mono HB.out.size))
      obtain rfl : m = q := by omega
      clear HBT hgq hlt
      go_wp2_with fail
      refine (ggrow wr lo p rb0 c0 m 0 G HG.out.gg HD.out HD.out.n0).mono ?_
      rintro e w9 ⟨y, rfl, hyR, _, hyc, bb⟩
      have HYR := Lib.hid (show RowIn w9 (hdV y) (rowG G 0) by rw [← hyR]; exact hyc.row)
      replace HG := Lib.hid (HG.out.below bb)
      replace HKW := Lib.hid (HKW.out.below bb)
      replace HKC := Lib.hid (HKC.out.below bb)
      replace HS9 := Lib.hid (Nat.le_trans HS9.out bb.size)
      replace HB := Lib.hid (HB.out.trans (bb.mono HB.out.size))
      clear hyR hyc bb
      have HST := Lib.hid (nset (fun j => j < s0 ∨ s2 ≤ j) w9 lo p rb0 c0 m 0 G (hdV y) (rowG G 0) HG.out (Nat.le_trans HL0.out (Nat.le_trans HS02.out HS9.out)) (fun j hj => .inr (Nat.le_trans HS9.out hj)) (fun R hR => (HD.out.row R hR).2.1) HD.out.m0 (by have := HM5.out; omega) HD.out.n0 HYR.out (HD.out.len HD.out.n0).2.1)
      go_wp2_with fail
      refine HST.out.mono ?_
      rintro e w10 ⟨rfl, gg, bt⟩
      have hset : G.set 0 (rowG G 0) = G := by
        have : rowG G 0 = G[0] := by unfold rowG; rw [List.getD_eq_getElem?_getD, List.getElem?_eq_getElem hg0]; rfl
        rw [this, List.set_getElem_self]
      rw [hset] at gg
      have hnX : ∀ j, (s0 ≤ j ∧ j < s2) → ¬ (j = rb0) := fun j hj e => by have := HP0.out; omega
      replace HKC := Lib.hid (HKC.out.buts bt (hnX _ HPC.out.1) (hnX _ HPC.out.2) (fun x hx => hnX _ (HKCB.out x hx)))
      replace HKW := Lib.hid (HKW.out.buts bt (hnX _ HGWB.out) (fun x hx => hnX _ (HKWB.out x hx)))
      replace HB := Lib.hid (HB.out.trans (bt.below (C := W.heap.size) (fun i hi => by have h1 := HG.out.lt; have h2 := HLO.out; omega) HB.out.size))
      replace HG := Lib.hid gg
      replace HS9 := Lib.hid (Nat.le_trans HS9.out bt.size)
      clear gg bt hset hnX HST HYR
      go_wp2_with fail
      refine (rows_any w10 lo p rb0 c0 m G HG.out.gg HD.out).mono ?_
      rintro e w11 ⟨vx, Kx, rfl, gx, hkx, _, bb⟩
      have HKX := Lib.hid (show Rl w11 w10.heap.size vx G from ⟨Kx, gx, hkx⟩)
      replace HG := Lib.hid (HG.out.below bb)
      replace HKW := Lib.hid (HKW.out.below bb)
      replace HKC := Lib.hid (HKC.out.below bb)
      replace HS9 := Lib.hid (Nat.le_trans HS9.out bb.size)
      replace HB := Lib.hid (HB.out.trans (bb.mono HB.out.size))
      clear gx hkx bb
      go_wp2_with fail
      refine (rsames_yes w11 _ s0 vx (.slice (some ⟨gwb, 0, none⟩) nk gwc) G HKX.out ⟨Kw, HKW.out, HKM.out⟩ (by have := HGL.out; omega) (fun R hR => by have := (HD.out.row R hR).2.1; have := HM5.out; omega)).mono ?_
      rintro e wA ⟨rfl, bb⟩
      replace HG := Lib.hid (HG.out.below bb)
      replace HKW := Lib.hid (HKW.out.below bb)
      replace HKC := Lib.hid (HKC.out.below bb)
      replace HS9 := Lib.hid (Nat.le_trans HS9.out bb.size)
      replace HB := Lib.hid (HB.out.trans (bb.mono HB.out.size))
      clear bb HKX hg0
      have HU0 := Lib.hid (show Buts (fun j => j < s0 ∨ s2 ≤ j) wA wA from Buts.refl _ _)
      have HXR0 := Lib.hid (show rb0 < s0 ∨ s2 ≤ rb0 from .inl HP0.out.2)
      obtain ⟨mm, hmm⟩ : ∃ m, m = min len 20 := ⟨_, rfl⟩
      have HMM := Lib.hid hmm
      have hm40 : mm ≤ 20 := by omega
      have HDS := HD
      clear hmm hm5
      go_wp2
      go_loopg [10] mm (fun Gs i wr => ∃ (k : Nat) (B : List Cls) (mb rb c : Nat), i = .int .i64 k ∧ k ≤ mm ∧ mm - k ≤ Gs ∧ Hid (Gn wr lo p rb c B (fun j => j < s0 ∨ s2 ≤ j)) ∧ Hid (Good B mb) ∧ Hid (rb < s0 ∨ s2 ≤ rb) ∧ Hid (Buts (fun j => j < s0 ∨ s2 ≤ j) wA wr) ∧ Hid (Below W.heap.size W wr))
      case atStart => exact ⟨0, G, m, rb0, c0, rfl, Nat.zero_le _, Nat.sub_le _ _, HG, HDS, HXR0, HU0, HB⟩
      case round =>
        obtain ⟨k, B, mb, rb, c, rfl, hkn, hgk, HGB, HDB, HXR, HU, HBW⟩ := hrel
        clear HG HDS HXR0 HU0 HB
        by_cases hlt : k < mm
        · have HLT := Lib.hid (show k + 1 ≤ mm from hlt)
          have hA : (k : Int) < (len : Int) := by have := HMM.out; omega
          have hB : (k : Int) < 20 := by omega
          have HKL := Lib.hid (show k < len by omega)
          obtain ⟨sb, so, rfl, hsb, hst⟩ := HAA.out.2.2 (by omega)
          obtain ⟨s, hs⟩ : ∃ s, s = A k := ⟨_, rfl⟩
          have HOK := Lib.hid (show s.ok by rw [hs]; exact HAA.out.2.1 k HKL.out)
          have HS11 := Lib.hid (show ∀ W', Below W.heap.size W W' → S11 W' sb (so + k * 11) s from fun W' kb => by rw [hs]; exact (hst k HKL.out).below kb hsb)
          clear hs hst hsb
          obtain ⟨z0, z1, z2, z3, z4, z5, z6, z7, z8, z9, z10⟩ := HS11.out wr HBW.out
          have HSW := Lib.hid (show s2 ≤ wr.heap.size from Nat.le_trans HS9.out HU.out.size)
          have HLW := Lib.hid (show lo ≤ wr.heap.size from Nat.le_of_lt (Nat.lt_of_le_of_lt HGB.out.lt.2.2.2 HGB.out.lt.1))
          have HDN := Lib.hid (show DoesN (fun j => j < s0 ∨ s2 ≤ j) wr lo p rb mb B s from doesN_any (fun j => j < s0 ∨ s2 ≤ j) wr lo p rb c mb B s HOK.out HGB.out HDB.out HLW.out (fun j hj => .inr (Nat.le_trans HSW.out hj)))
          go_wp2_with fail
          refine (show Calls _ _ _ _ _ from HDN.out).mono ?_
          rintro e w12 ⟨v, rfl, ⟨rb', c', gwn, hrb'⟩, hown, bt⟩
          have HXR' := Lib.hid (show rb' < s0 ∨ s2 ≤ rb' from Or.elim hrb' (fun e => by rw [e]; exact HXR.out) (fun e => .inr (Nat.le_trans HSW.out e)))
          have HU2 := Lib.hid (HU.out.trans (bt.mono (fun j hj => by rcases hj with rfl | rfl; · exact .inl HP0.out.1
                                                                     · exact HXR.out)))
          have HBW2 := Lib.hid (show Below W.heap.size W w12 from HBW.out.trans (bt.below (C := W.heap.size) (fun i hi => by have h1 := HGB.out.lt; have h2 := HLO.out; rcases hi with rfl | rfl <;> omega) HBW.out.size))
          obtain ⟨hwl, hwr⟩ := went_good s HDB.out
          obtain ⟨B', hB'⟩ : ∃ B', B' = doesG s mb B := ⟨_, rfl⟩
          obtain ⟨mb', hmb'⟩ : ∃ m', m' = widthS s mb := ⟨_, rfl⟩
          have HDB' := Lib.hid (show Good B' mb' by rw [hB', hmb']; exact does_good s HDB.out)
          rw [← hB'] at gwn
          obtain ⟨K, H, k1, k2, k3, k4, k5, k6, k7, k8⟩ := gwn
          have hKl : K.length ≤ 520 := by have := congrArg List.length k2; rw [List.length_map] at this; omega
          have HKR := Lib.hid (show ∀ x ∈ K, x.R.length ≤ 520 from fun x hx => by have := (hwr x.R (by rw [← k2]; exact List.mem_map_of_mem hx)).2.1; have := HDB.out.m1; omega)
          obtain ⟨nw, hnw⟩ : ∃ n, n = K.length := ⟨_, rfl⟩
          obtain ⟨av, avc, hv⟩ := k1.shape
          rw [← hnw] at hv hKl
          subst hv
          have HK := Lib.hid k1
          have HKN := Lib.hid hnw
          have HKD := Lib.hid k7
          have HKX := Lib.hid k8
          have HH1 := Lib.hid k3
          have HH2 := Lib.hid k4
          have HH3 := Lib.hid k5
          have HH4 := Lib.hid k6
          have HKT := Lib.hid (show ∀ x ∈ K, ∃ cu, w12.heap[x.b]? = some (.cells cu 55 (0, 0)) from fun x hx => (HK.out.2 x hx).type)
          have HKLO := Lib.hid (show ∀ x ∈ K, lo ≤ x.b from fun x hx => (HK.out.2.lt hx).1)
          have HV0 := Lib.hid (show Buts (fun j => j ∈ bs K) w12 w12 from Buts.refl _ _)
          have HKE := Lib.hid (show K.length = nw ∧ bs K = bs K ∧ ∀ x ∈ K, x.R.length ≤ 520 from ⟨hnw.symm, rfl, HKR.out⟩)
          clear k1 k2 k3 k4 k5 k6 k7 k8 hwl hwr hB' hmb' hown bt hrb' hnw HDN HKR HGB HDB HXR HU HBW HSW HLW z0 z1 z2 z3 z4 z5 z6 z7 z8 z9 z10
          go_wp2
          go_loopg [12] nw (fun Gs i wr => ∃ (j : Nat) (K' : List Hd), i = .int .i64 j ∧ j ≤ nw ∧ nw - j ≤ Gs ∧ Hid (GRow wr lo lo (.slice av nw avc) K') ∧ Hid (K'.length = nw ∧ bs K' = bs K ∧ ∀ x ∈ K', x.R.length ≤ 520) ∧ Hid (Buts (fun j => j ∈ bs K) w12 wr))
          case atStart => exact ⟨0, K, rfl, Nat.zero_le _, Nat.sub_le _ _, HK, Lib.hid ⟨HKE.out.1, rfl, HKE.out.2.2⟩, HV0⟩
          case round =>
            obtain ⟨j, K', rfl, hjn, hgj, HK', HKE', HV⟩ := hrel
            clear HK HKE HV0
            by_cases hlj : j < nw
            · have HLJ := Lib.hid (show j + 1 ≤ nw from hlj)
              obtain ⟨ga, gac, hga, _, hgs⟩ := HK'.out.here (by have := HKE'.out.1; omega)
              injection hga with e1 e2 e3
              subst e1
              clear e2 e3
              obtain ⟨l, hl⟩ : ∃ l, l = (hdAt K' j).R.length := ⟨_, rfl⟩
              obtain ⟨jb, hjb⟩ : ∃ b, b = (hdAt K' j).b := ⟨_, rfl⟩
              obtain ⟨jc, hjc⟩ : ∃ b, b = (hdAt K' j).c := ⟨_, rfl⟩
              have hl5 : l ≤ 520 := by rw [hl]; have hj' : j < K'.length := by have := HKE'.out.1; omega
                                       rw [hdAt_eq hj']; exact HKE'.out.2.2 _ (List.getElem_mem hj')
              have HJ0 := Lib.hid (show (hdAt K' j).R.length = l ∧ (hdAt K' j).b = jb ∧ (hdAt K' j).c = jc from ⟨hl.symm, hjb.symm, hjc.symm⟩)
              clear hl hjb hjc
              go_wp2
              go_loopg [13] l (fun Gs i wr => ∃ (q : Nat) (K'' : List Hd), i = .int .i64 q ∧ q ≤ l ∧ l - q ≤ Gs ∧ Hid (GRow wr lo lo (.slice (some ⟨ga, 0, none⟩) nw avc) K'') ∧ Hid (K''.length = nw ∧ bs K'' = bs K ∧ ∀ x ∈ K'', x.R.length ≤ 520) ∧ Hid ((hdAt K'' j).R.length = l ∧ (hdAt K'' j).b = jb ∧ (hdAt K'' j).c = jc) ∧ Hid (Buts (fun j => j ∈ bs K) w12 wr))
              case atStart => exact ⟨0, K', rfl, Nat.zero_le _, Nat.sub_le _ _, HK', HKE', HJ0, HV⟩
              case round =>
                obtain ⟨q, K'', rfl, hql, hgq, HK2, HKE2, HJ2, HV2⟩ := hrel
                clear HK' HKE' HJ0 HV
                have hj2 : j < K''.length := by have := HKE2.out.1; omega
                have hhd : hdV K''[j] = .slice (some ⟨jb, 0, none⟩) l jc := by
                  have := HJ2.out
                  rw [hdAt_eq hj2] at this
                  rw [hdV, this.1, this.2.1, this.2.2]
                have ch := HK2.out.at hj2
                rw [hhd] at ch
                by_cases hlq : q < l
                · have HLQ := Lib.hid (show q + 1 ≤ l from hlq)
                  have hbj : K''[j].b = jb := by have := HJ2.out.2.1; rwa [hdAt_eq hj2] at this
                  have hlj2 : K''[j].R.length = l := by have := HJ2.out.1; rwa [hdAt_eq hj2] at this
                  obtain ⟨K3, r1, r2, r3, r4⟩ := HK2.out.rune HKE2.out.1.symm (by rw [HKE2.out.2.1]; exact HKD.out) hj2 (by rw [hlj2]; exact hlq) 33
                  rw [hbj] at r1
                  have hrow := HK2.out.row hj2
                  rw [hhd] at hrow
                  have hf := hrow.frozen hlj2.symm (q * 14)
                  have d0 := (hrow.at (by rw [hlj2]; exact hlq)).1
                  obtain ⟨w13, hw13⟩ : ∃ X, X = wr.setCell ⟨jb, q * 14, none⟩ (.int .i32 33) := ⟨_, rfl⟩
                  rw [← hw13] at r1
                  have HK3 := Lib.hid r1
                  have HKE3 := Lib.hid (show K3.length = nw ∧ bs K3 = bs K ∧ ∀ x ∈ K3, x.R.length ≤ 520 from ⟨by rw [r2]; exact HKE2.out.1, by rw [r3]; exact HKE2.out.2.1, fun x hx => by
                    obtain ⟨i, hi, rfl⟩ := List.mem_iff_getElem.1 hx
                    rw [(r4 i hi (by omega)).1]
                    exact HKE2.out.2.2 _ (List.getElem_mem _)⟩)
                  have HJ3 := Lib.hid (show (hdAt K3 j).R.length = l ∧ (hdAt K3 j).b = jb ∧ (hdAt K3 j).c = jc by
                    have hj3 : j < K3.length := by omega
                    have h3 := r4 j hj3 hj2
                    have h4 := HJ2.out
                    rw [hdAt_eq hj2] at h4
                    rw [hdAt_eq hj3, h3.1, h3.2.1, h3.2.2]
                    exact h4)
                  have HV3 := Lib.hid (show Buts (fun j => j ∈ bs K) w12 w13 by
                    rw [hw13]
                    refine HV2.out.trans (Buts.but (g := jb) (But.set wr jb (q * 14) _) ?_)
                    show jb ∈ bs K
                    rw [← HKE2.out.2.1, ← hbj]
                    exact List.mem_map_of_mem (List.getElem_mem hj2))
                  clear r1 r2 r3 r4 hrow hbj hlj2 hhd HK2 HKE2 HJ2 HV2
                  go_upto_region 24 with (fail)
                  rw [← hw13]
                  clear hw13 hf d0 ch hj2
                  go_wp2
                  go_roundg (l - (q + 1))
                  case rel => exact ⟨q + 1, K3, by go_num, HLQ.out, Nat.le_refl _, HK3, HKE3, HJ3, HV3⟩
                  case measure => have := HLQ.out; omega
                · obtain rfl : q = l := by omega
                  have HK3 := HK2
                  have HKE3 := HKE2
                  have HV3 := HV2
                  clear HK2 HKE2 HV2 hhd hj2
                  go_wp2
                  go_roundg (nw - (j + 1))
                  case rel => exact ⟨j + 1, K'', by go_num, HLJ.out, Nat.le_refl _, HK3, HKE3, HV3⟩
                  case measure => have := HLJ.out; omega
            · have HGE := Lib.hid (show Gn wr lo p rb' c' B' (fun j => j < s0 ∨ s2 ≤ j) from ⟨H, HH1.out.buts HV.out (fun hm => by
                  obtain ⟨x, hx, e⟩ := List.mem_map.1 hm
                  obtain ⟨cx, hxt⟩ := (HKT.out x hx)
                  rw [e] at hxt
                  have hpt := HH1.out.2.1
                  rw [hxt] at hpt
                  injection hpt with hpt
                  injection hpt with _ hpt
                  exact absurd hpt (by decide)) (fun hm => by
                  obtain ⟨x, hx, e⟩ := List.mem_map.1 hm
                  obtain ⟨cx, hxt⟩ := (HKT.out x hx)
                  rw [e] at hxt
                  obtain ⟨cu, hrt⟩ := HH1.out.2.2.type
                  rw [hxt] at hrt
                  injection hrt with hrt
                  injection hrt with _ hrt
                  exact absurd hrt (by decide)) (fun y hy hm => by
                  obtain ⟨x, hx, e⟩ := List.mem_map.1 hm
                  exact (HKX.out x hx).2 (by rw [e]; exact List.mem_map_of_mem hy)), HH2.out, HH3.out, HH4.out⟩)
              have HUE := Lib.hid (HU2.out.trans (HV.out.mono (fun j hm => by obtain ⟨x, hx, e⟩ := List.mem_map.1 hm; rw [← e]; exact (HKX.out x hx).1)))
              have HBE := Lib.hid (HBW2.out.trans (HV.out.below (C := W.heap.size) (fun j hm => by obtain ⟨x, hx, e⟩ := List.mem_map.1 hm; rw [← e]; exact Nat.le_trans HLO.out (HKLO.out x hx)) HBW2.out.size))
              clear HK' HKE' HV HKX HH1 HH2 HH3 HH4 HKT HKLO HU2 HBW2
              go_wp2
              go_roundg (mm - (k + 1))
              case rel => exact ⟨k + 1, B', mb', rb', c', by go_num, HLT.out, Nat.le_refl _, HGE, HDB', HXR', HUE, HBE⟩
              case measure => have := HLT.out; omega
        · have hnX : ∀ j, (s0 ≤ j ∧ j < s2) → ¬ (j < s0 ∨ s2 ≤ j) := fun j hj e => by omega
          have HGC := Lib.hid (show Gg wr w4.heap.size p2 rb2 c2 G from ⟨Kc, HKC.out.buts HU.out (hnX _ HPC.out.1) (hnX _ HPC.out.2) (fun x hx => hnX _ (HKCB.out x hx)), HKCM.out⟩)
          replace HKW := Lib.hid (HKW.out.buts HU.out (hnX _ HGWB.out) (fun x hx => hnX _ (HKWB.out x hx)))
          clear hnX HGB HDB HXR HU
          obtain rfl : k = mm := by omega
          by_cases hq : k = len
          · subst hq
            go_wp2_with fail
            refine (rows_any wr _ p2 rb2 c2 m G HGC.out HD.out).mono ?_
            rintro e w14 ⟨vx, Kx, rfl, gx, hkx, _, bb⟩
            have HKX := Lib.hid (show Rl w14 wr.heap.size vx G from ⟨Kx, gx, hkx⟩)
            replace HKW := Lib.hid (HKW.out.below bb)
            replace HBW := Lib.hid (HBW.out.trans (bb.mono HBW.out.size))
            clear gx hkx bb
            go_wp2_with fail
            refine (rsames_yes w14 _ s0 vx (.slice (some ⟨gwb, 0, none⟩) nk gwc) G HKX.out ⟨Kw, HKW.out, HKM.out⟩ (by have := HGL.out; omega) (fun R hR => by have := (HD.out.row R hR).2.1; have := HM5.out; omega)).mono ?_
            rintro e w15 ⟨rfl, bb⟩
            have HBE := Lib.hid (HBW.out.trans (bb.mono HBW.out.size))
            clear bb
            go_wp2
            go_ret
            exact ⟨rfl, HBE.out⟩
          · have h40 : k = 20 := by have := HMM.out; omega
            have g8 : (20 : Int) < (len : Int) := by have := HMM.out; omega
            subst h40
            go_wp2_with fail
            refine (rows_any wr _ p2 rb2 c2 m G HGC.out HD.out).mono ?_
            rintro e w14 ⟨vx, Kx, rfl, gx, hkx, _, bb⟩
            have HKX := Lib.hid (show Rl w14 wr.heap.size vx G from ⟨Kx, gx, hkx⟩)
            replace HKW := Lib.hid (HKW.out.below bb)
            replace HBW := Lib.hid (HBW.out.trans (bb.mono HBW.out.size))
            clear gx hkx bb
            go_wp2_with fail
            refine (rsames_yes w14 _ s0 vx (.slice (some ⟨gwb, 0, none⟩) nk gwc) G HKX.out ⟨Kw, HKW.out, HKM.out⟩ (by have := HGL.out; omega) (fun R hR => by have := (HD.out.row R hR).2.1; have := HM5.out; omega)).mono ?_
            rintro e w15 ⟨rfl, bb⟩
            have HBE := Lib.hid (HBW.out.trans (bb.mono HBW.out.size))
            clear bb
            go_wp2
            go_ret
            exact ⟨rfl, HBE.out⟩
set_option maxRecDepth 100000 in
theorem gridCopies_walk {H : Type} (enc : TypeId × Value → H) (base : Nat) (W : World)
    (v0 : Value) (d0 : DataW H) (p0 : List MemPlace) (ok0 : Value.okWide Tryz.prog W .any base 24 v0) (k0 : DataW.Trod enc Tryz.prog W 0 (fun _ => true) true 24 v0 d0 p0)
    (v1 : Value) (d1 : DataW H) (p1 : List MemPlace) (ok1 : Value.okWide Tryz.prog W .any base 26 v1) (k1 : DataW.Trod enc Tryz.prog W 0 (fun _ => true) true 26 v1 d1 p1) :
    Calls Tryz.prog 4 #[v0, v1] W fun e w' => e = .returned (.bool true) ∧ Below W.heap.size W w' := by
  obtain ⟨cols, u, LL, rfl, hL⟩ := open_gdraft enc base W ok0 k0
  obtain ⟨a, len, cap, T, rfl, hT⟩ := open_sts enc base W ok1 k1
  exact gcopies_core W cols u LL a len cap T hL hT
end Go.Proofs.YtdeahnphcfcfpaaGreat.Lab
