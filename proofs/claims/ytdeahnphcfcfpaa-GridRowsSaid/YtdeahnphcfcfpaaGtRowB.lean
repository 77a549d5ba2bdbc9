/- GridRows: the walk of scrolls. -/
import Derived.Test.YtdeahnphcfcfpaaGtRowA
namespace Go.Proofs.Ytdeahnphcfcfpaa.Lab
open Go Go.RowKit

theorem Lie.far {w w' : World} {b C : Nat} {l : List Value} (h : Lie w b l) (k : Below C w w') (hb : b < C) : Lie w' b l := ⟨Nat.lt_of_lt_of_le h.1 k.size, fun j v hj => (k.cell (p := ⟨b, j, none⟩) hb).trans (h.2 j v hj)⟩
set_option maxHeartbeats 16000000 in
set_option maxRecDepth 100000 in
theorem grows_ge (W : World) (cols : Nat) (lv : Value) (LL : List (List Dc)) (s : St) (hL : LnsIn W lv LL) (hs : s.ok) (he : 6 ≤ s.what % 10) :
    Calls Try.prog 5 #[.agg #[.int .u8 (cols : Nat), lv], stV s] W fun e w' => e = .returned (.bool true) ∧ Below W.heap.size W w' := by
  have HLL := Lib.hid hL
  have HOK := Lib.hid hs
  obtain ⟨la, lc, hlv, _⟩ := hL
  obtain ⟨ll, hll⟩ : ∃ ll, ll = LL.length := ⟨_, rfl⟩
  rw [← hll] at hlv
  subst hlv
  obtain ⟨w0, hw0⟩ : ∃ X, X = (W.alloc (.cells #[.int .u8 (cols : Nat), .slice la ll lc] 24)).alloc (.cells #[.int .u8 (s.what : Nat), .int .u8 (s.row : Nat), .int .u8 (s.col : Nat), .int .u8 (s.n : Nat), .int .u8 (s.m : Nat), .int .u8 (s.cell.ru : Nat), .int .u8 (s.cell.ms : Nat), .int .u8 (s.cell.at1 : Nat), .bool s.cell.wide, .bool s.cell.high, .bool s.odd] 67) := ⟨_, rfl⟩
  obtain ⟨b2, hb2⟩ : ∃ b, b = W.heap.size := ⟨_, rfl⟩
  obtain ⟨b3, hb3⟩ : ∃ b, b = W.heap.size + 1 := ⟨_, rfl⟩
  have B0 : Below W.heap.size W w0 := by rw [hw0]; exact ((Below.refl _ _).alloc (Nat.le_refl _) _).alloc (by simp) _
  have h2 : Lie w0 b2 [.int .u8 (cols : Nat), .slice la ll lc] := by rw [hw0]; exact (Lie.new W _ _ b2 hb2).below ((Below.refl _ _).alloc (Nat.le_refl _) _)
  have h3 : Lie w0 b3 [.int .u8 (s.what : Nat), .int .u8 (s.row : Nat), .int .u8 (s.col : Nat), .int .u8 (s.n : Nat), .int .u8 (s.m : Nat), .int .u8 (s.cell.ru : Nat), .int .u8 (s.cell.ms : Nat), .int .u8 (s.cell.at1 : Nat), .bool s.cell.wide, .bool s.cell.high, .bool s.odd] := by rw [hw0]; exact Lie.new _ _ _ b3 (by rw [hb3]; simp)
  have HH3 := Lib.hid (show w0.heap[b3]? = some (.cells #[.int .u8 (s.what : Nat), .int .u8 (s.row : Nat), .int .u8 (s.col : Nat), .int .u8 (s.n : Nat), .int .u8 (s.m : Nat), .int .u8 (s.cell.ru : Nat), .int .u8 (s.cell.ms : Nat), .int .u8 (s.cell.at1 : Nat), .bool s.cell.wide, .bool s.cell.high, .bool s.odd] 67 (0, 0)) by
    have := World.alloc_heap_new (W.alloc (.cells #[.int .u8 (cols : Nat), .slice la ll lc] 24)) (.cells #[.int .u8 (s.what : Nat), .int .u8 (s.row : Nat), .int .u8 (s.col : Nat), .int .u8 (s.n : Nat), .int .u8 (s.m : Nat), .int .u8 (s.cell.ru : Nat), .int .u8 (s.cell.ms : Nat), .int .u8 (s.cell.at1 : Nat), .bool s.cell.wide, .bool s.cell.high, .bool s.odd] 67)
    rw [World.size_alloc] at this
    rw [hw0, hb3]
    exact this)
  have HB3 := Lib.hid (show W.heap.size ≤ b3 by omega)
  have HL2 := Lib.hid h2
  have HL := Lib.hid h3
  have HB0 := Lib.hid B0
  have HZ0 := Lib.hid (show b3 < w0.heap.size by rw [hw0, hb3]; simp)
  clear B0 h2 h3 hs hll
  go_enter Try.func5, Try.ntmps5
  go_upto_region 1 with (fail)
  rw [← hw0, ← hb3, ← hb2]
  clear hw0 hb3 hb2
  go_wp2_with fail
  refine (works_any w0).mono ?_
  rintro e w1 ⟨rfl, b1⟩
  have HB := Lib.hid b1
  have yb := HL2.out.below b1
  have z0 := yb.at 0 rfl
  have z1 := yb.at 1 rfl
  clear b1 yb
  go_wp2_with fail
  refine (rgrid_any w1 cols (.slice la ll lc) (.slice none 0 0) LL [] (HLL.out.below (HB0.out.trans (HB.out.mono HB0.out.size))) (DsIn.nil _ _ _)).mono ?_
  rintro e w2 ⟨v, rfl, hrl, b2'⟩
  have HRL := Lib.hid hrl
  replace HB := Lib.hid (HB.out.trans (b2'.mono HB.out.size))
  clear hrl b2' z0 z1 HLL HL2
  obtain ⟨G, hG⟩ : ∃ G, G = gridM cols LL [] := ⟨_, rfl⟩
  have HD := Lib.hid (gridM_good cols LL [])
  have HGL := Lib.hid (gridM_len cols LL [])
  rw [← hG] at HRL HD HGL
  obtain ⟨m, hm⟩ : ∃ m, m = 1 + cols % 20 := ⟨_, rfl⟩
  have HM5 := Lib.hid (show m ≤ 512 by omega)
  rw [← hm] at HD
  clear hG hm
  obtain ⟨va, vc, rfl⟩ := HRL.out.shape
  obtain ⟨n, hn⟩ : ∃ n, n = G.length := ⟨_, rfl⟩
  rw [← hn] at HRL ⊢
  have HN := Lib.hid hn
  clear hn
  go_wp2_with fail
  refine (of_any w2 _ m (.slice va n vc) G HRL.out HD.out ⟨by have := HGL.out; omega, HM5.out⟩).mono ?_
  rintro e w3 ⟨p, rb, c, rfl, gg, b3'⟩
  obtain ⟨lo, hlo⟩ : ∃ lo, lo = w2.heap.size := ⟨_, rfl⟩
  rw [← hlo] at gg
  have HLO := Lib.hid (show w0.heap.size ≤ lo by rw [hlo]; exact HB.out.size)
  replace HB := Lib.hid (HB.out.trans (b3'.mono HB.out.size))
  have HG3 := Lib.hid gg
  clear gg b3' hlo HRL
  go_wp2_with fail
  refine (rows_any w3 lo p rb c m G HG3.out HD.out).mono ?_
  rintro e w4 ⟨vw, Kw, rfl, gw, hkw, _, b4⟩
  obtain ⟨gwb, gwc, hvw, hgw, _⟩ := gw.here (by have h1 := congrArg List.length hkw; rw [List.length_map] at h1; have := HD.out.n0; omega)
  have hlw : Kw.length = n := by have h1 := congrArg List.length hkw; rw [List.length_map] at h1; have := HN.out; omega
  rw [hlw] at hvw
  subst hvw
  have HKW := Lib.hid gw
  have HKL := Lib.hid hlw
  have HKM := Lib.hid hkw
  have HPW := Lib.hid (show p < w3.heap.size ∧ rb < w3.heap.size from ⟨HG3.out.lt.1, HG3.out.lt.2.1⟩)
  have HGW := Lib.hid hgw
  have HG4 := Lib.hid (HG3.out.below b4)
  have HW4 := Lib.hid b4.size
  replace HB := Lib.hid (HB.out.trans (b4.mono HB.out.size))
  clear gw hkw hgw b4 HG3 hlw
  go_wp2_with fail
  refine (gsize w4 lo p rb c m G HG4.out HD.out).mono ?_
  rintro e w5 ⟨rfl, b5⟩
  rw [← HN.out]
  have HG5 := Lib.hid (HG4.out.below b5)
  have HKW5 := Lib.hid (HKW.out.below b5)
  replace HB := Lib.hid (HB.out.trans (b5.mono HB.out.size))
  clear b5 HG4 HKW
  obtain ⟨e10, he10⟩ : ∃ e, e = s.what % 10 := ⟨_, rfl⟩
  have r1 : Int.tmod (s.what : Int) 10 = (e10 : Int) := by rw [he10]; rfl
  have r1' : (s.what : Int) % 10 = (e10 : Int) := by omega
  have u1 : IntKind.u8.wrap (e10 : Int) = (e10 : Int) := by rw [IntKind.wrap_u8]; omega
  have h6 : ¬ (e10 : Int) < 6 := by omega
  clear he10 he
  have yb := HL.out.below HB.out
  have y0 := yb.at 0 rfl
  have y1 := yb.at 1 rfl
  have y2 := yb.at 2 rfl
  have y3 := yb.at 3 rfl
  have y4 := yb.at 4 rfl
  have y5 := yb.at 5 rfl
  have y6 := yb.at 6 rfl
  have y7 := yb.at 7 rfl
  have y8 := yb.at 8 rfl
  have y9 := yb.at 9 rfl
  have y10 := yb.at 10 rfl
  clear yb
  have h35 : w5.heap[b3]? = some (.cells #[.int .u8 (s.what : Nat), .int .u8 (s.row : Nat), .int .u8 (s.col : Nat), .int .u8 (s.n : Nat), .int .u8 (s.m : Nat), .int .u8 (s.cell.ru : Nat), .int .u8 (s.cell.ms : Nat), .int .u8 (s.cell.at1 : Nat), .bool s.cell.wide, .bool s.cell.high, .bool s.odd] 67 (0, 0)) := (HB.out.block b3 HZ0.out).trans HH3.out
  have fz := frozen_of_row w5 b3 10 _ _ h35
  obtain ⟨w6, hw6⟩ : ∃ X, X = w5.setCell ⟨b3, 10, none⟩ (.bool false) := ⟨_, rfl⟩
  have h36 : w6.heap[b3]? = some (.cells #[.int .u8 (s.what : Nat), .int .u8 (s.row : Nat), .int .u8 (s.col : Nat), .int .u8 (s.n : Nat), .int .u8 (s.m : Nat), .int .u8 (s.cell.ru : Nat), .int .u8 (s.cell.ms : Nat), .int .u8 (s.cell.at1 : Nat), .bool s.cell.wide, .bool s.cell.high, .bool false] 67 (0, 0)) := by rw [hw6]; exact setL_at (o := 10) [.bool false] h35 (by simp) rfl
  have HL6 := Lib.hid (show Lie w6 b3 [.int .u8 (s.what : Nat), .int .u8 (s.row : Nat), .int .u8 (s.col : Nat), .int .u8 (s.n : Nat), .int .u8 (s.m : Nat), .int .u8 (s.cell.ru : Nat), .int .u8 (s.cell.ms : Nat), .int .u8 (s.cell.at1 : Nat), .bool s.cell.wide, .bool s.cell.high, .bool false] from Lie.of h36)
  have hbt : Buts (· = b3) w5 w6 := by rw [hw6]; exact Buts.but (S := (· = b3)) (But.set w5 b3 10 _) rfl
  have hb3l : b3 < lo := Nat.lt_of_lt_of_le HZ0.out HLO.out
  obtain ⟨H5, hat5, hH5⟩ := HG5.out
  have HG6 := Lib.hid (show Gg w6 lo p rb c G from ⟨H5, hat5.buts hbt (by have := hat5.1; omega) (by have := hat5.lt; omega) (fun x hx => by have := (hat5.2.2.2.lt hx).1; omega), hH5⟩)
  have HKW6 := Lib.hid (HKW5.out.buts hbt (by have h1 := HPW.out; have h2 := HGW.out; have h3 := HG5.out.lt; omega) (fun x hx => by have h1 := (HKW5.out.2.lt hx).1; have h2 := HPW.out; have h3 := HG5.out.lt; omega))
  have HBW := Lib.hid (show Below W.heap.size W w6 from (HB0.out.trans (HB.out.mono HB0.out.size)).trans (hbt.below (C := W.heap.size) (fun i hi => by have := HB3.out; omega) (Nat.le_trans HB0.out.size HB.out.size)))
  have HS06 := Lib.hid (show w0.heap.size ≤ w6.heap.size from Nat.le_trans HB.out.size hbt.size)
  have HZB := Lib.hid hb3l
  obtain ⟨s', hs'⟩ : ∃ s' : St, s' = { s with odd := false } := ⟨_, rfl⟩
  have HOK' := Lib.hid (show s'.ok by rw [hs']; exact HOK.out)
  have HN0 := Lib.hid (show 0 < n by have := HD.out.n0; have := HN.out; omega)
  have HN6 := Lib.hid (show n ≤ 600 by have := HGL.out; have := HN.out; omega)
  obtain ⟨t, ht⟩ : ∃ t, t = s.row % n := ⟨_, rfl⟩
  obtain ⟨b, hb⟩ : ∃ b, b = t + s.m % (n - t) := ⟨_, rfl⟩
  obtain ⟨k0, hk0⟩ : ∃ k, k = s.n % 9 := ⟨_, rfl⟩
  have htn : t < n := by rw [ht]; exact Nat.mod_lt _ HN0.out
  have hbn : t ≤ b ∧ b < n := by
    have := Nat.mod_lt s.m (show 0 < n - t by omega)
    omega
  obtain ⟨q, hq⟩ : ∃ q, q = min k0 (b + 1 - t) := ⟨_, rfl⟩
  have HRT := Lib.hid (show regT s' n = (t : Nat) ∧ regBt s' n = (b : Nat) ∧ regN s' = (k0 : Nat) by rw [hs', hb, hk0, ht]; exact ⟨rfl, rfl, rfl⟩)
  have HTB := Lib.hid (show t ≤ b ∧ b < n ∧ q ≤ b + 1 - t ∧ q ≤ k0 ∧ k0 < 9 ∧ (q = k0 ∨ q = b + 1 - t) from ⟨hbn.1, hbn.2, by omega, by omega, by omega, by omega⟩)
  have HRG := Lib.hid (show regB G.length (t : Nat) (b : Nat) = true by unfold regB; rw [← HN.out]; simp; omega)
  have HUP := Lib.hid (show ∀ x, upG G m (t : Nat) (b : Nat) (k0 : Nat) x = upM G t b q (newM m x) from fun x => by unfold upG; rw [if_pos HRG.out]; simp only [Int.toNat_natCast]; rw [← hq])
  have HWL := Lib.hid (show (wentU G (t : Nat) (b : Nat) (k0 : Nat)).length = q by unfold wentU; rw [if_pos HRG.out]; simp only [Int.toNat_natCast]; rw [← hq]; exact len_wentUp (by have := HN.out; omega) (by omega))
  have HX6 := Lib.hid (show Below w6.heap.size w6 w6 from Below.refl _ _)
  have hst : stV s' = .agg #[.int .u8 (s.what : Nat), .int .u8 (s.row : Nat), .int .u8 (s.col : Nat), .int .u8 (s.n : Nat), .int .u8 (s.m : Nat), .int .u8 (s.cell.ru : Nat), .int .u8 (s.cell.ms : Nat), .int .u8 (s.cell.at1 : Nat), .bool s.cell.wide, .bool s.cell.high, .bool false] := by rw [hs']
  have HST := Lib.hid hst
  go_upto_region 17 with (fail)
  rw [← hw6]
  clear y0 y1 y2 y3 y4 y5 y6 y7 y8 y9 y10
  clear hw6 fz h35 h36 hbt hat5 hH5 HG5 HKW5 HB hs' ht hb hk0 htn hbn hq hst hb3l
  have yb := HL6.out.below HX6.out
  have y0 := yb.at 0 rfl
  have y1 := yb.at 1 rfl
  have y2 := yb.at 2 rfl
  have y3 := yb.at 3 rfl
  have y4 := yb.at 4 rfl
  have y5 := yb.at 5 rfl
  have y6 := yb.at 6 rfl
  have y7 := yb.at 7 rfl
  have y8 := yb.at 8 rfl
  have y9 := yb.at 9 rfl
  have y10 := yb.at 10 rfl
  clear yb
  go_wp2_with fail
  rw [← HST.out]
  refine (sregion_any w6 s' n HOK'.out HN0.out HN6.out).mono ?_
  rintro e w7 ⟨rfl, b7⟩
  rw [HRT.out.1, HRT.out.2.1, HRT.out.2.2]
  have HX7 := Lib.hid b7
  clear y0 y1 y2 y3 y4 y5 y6 y7 y8 y9 y10
  clear b7
  have yb := HL6.out.below HX7.out
  have y0 := yb.at 0 rfl
  have y1 := yb.at 1 rfl
  have y2 := yb.at 2 rfl
  have y3 := yb.at 3 rfl
  have y4 := yb.at 4 rfl
  have y5 := yb.at 5 rfl
  have y6 := yb.at 6 rfl
  have y7 := yb.at 7 rfl
  have y8 := yb.at 8 rfl
  have y9 := yb.at 9 rfl
  have y10 := yb.at 10 rfl
  clear yb
  go_wp2_with fail
  rw [← HST.out]
  refine (sblank_any w7 s' HOK'.out).mono ?_
  rintro e w8 ⟨rfl, b8⟩
  obtain ⟨x, hx⟩ : ∃ x, x = blS s' := ⟨_, rfl⟩
  rw [← hx]
  have HXS := Lib.hid hx
  clear hx
  have HX8 := Lib.hid (HX7.out.trans (b8.mono HX7.out.size))
  clear y0 y1 y2 y3 y4 y5 y6 y7 y8 y9 y10
  clear b8
  have yb := HL6.out.below HX8.out
  have y0 := yb.at 0 rfl
  have y1 := yb.at 1 rfl
  have y2 := yb.at 2 rfl
  have y3 := yb.at 3 rfl
  have y4 := yb.at 4 rfl
  have y5 := yb.at 5 rfl
  have y6 := yb.at 6 rfl
  have y7 := yb.at 7 rfl
  have y8 := yb.at 8 rfl
  have y9 := yb.at 9 rfl
  have y10 := yb.at 10 rfl
  clear yb
  have hlo8 : lo ≤ w8.heap.size := Nat.le_trans (Nat.le_of_lt (Nat.lt_of_le_of_lt HG6.out.lt.2.2.2 HG6.out.lt.1)) HX8.out.size
  have HUPC := Lib.hid (gup w8 lo p rb c m G (t : Nat) (b : Nat) (k0 : Nat) x (HG6.out.below HX8.out) HD.out hlo8)
  clear hlo8
  go_wp2_with fail
  refine HUPC.out.mono ?_
  rintro e w9 ⟨v, rfl, rl, _, gg, bt⟩
  obtain ⟨va2, vc2, rfl⟩ := rl.shape
  rw [HWL.out]
  obtain ⟨G6, hG6⟩ : ∃ X, X = upM G t b q (newM m x) := ⟨_, rfl⟩
  rw [HUP.out x, ← hG6] at gg
  have HXK := Lib.hid (show x.k = 0 ∧ (x.l = 0 ∨ x.l = 1) by rw [HXS.out]; exact ⟨blS_k _, blS_l _⟩)
  have HD6 := Lib.hid (show Good G6 m by have := HD.out.up (t : Nat) (b : Nat) (k0 : Nat) HXK.out.1 HXK.out.2; rwa [HUP.out x, ← hG6] at this)
  have HL6G := Lib.hid (show G6.length = n by rw [hG6, len_up HTB.out.1 (by have := HN.out; have := HTB.out; omega) HTB.out.2.2.1]; exact HN.out.symm)
  have HR6 := Lib.hid (show ∀ i, i < n → rowG G6 i = if i < t ∨ b < i then rowG G i else if i + q ≤ b then rowG G (i + q) else newM m x from fun i hi => by rw [hG6]; exact rowG_up HTB.out.1 (by have := HN.out; have := HTB.out; omega) HTB.out.2.2.1 (by have := HN.out; omega))
  have HG6E := Lib.hid hG6
  have HG9 := Lib.hid gg
  have HKW9 := Lib.hid ((HKW6.out.below HX8.out).buts bt (by have h1 := HPW.out; have h2 := HGW.out; omega) (fun y hy => by have h1 := (HKW6.out.2.lt hy).1; have h2 := HPW.out; omega))
  have HT9 := Lib.hid (show Below w0.heap.size w6 w9 from (HX8.out.mono HS06.out).trans (bt.below (C := w0.heap.size) (fun i hi => by have h1 := HG6.out.lt; have h2 := HLO.out; omega) (Nat.le_trans HS06.out HX8.out.size)))
  have HW09 := Lib.hid (show w0.heap.size ≤ w9.heap.size from Nat.le_trans HS06.out HT9.out.size)
  have HL9 := Lib.hid (HL6.out.far HT9.out HZ0.out)
  replace HBW := Lib.hid (HBW.out.trans (HT9.out.mono HB0.out.size))
  clear y0 y1 y2 y3 y4 y5 y6 y7 y8 y9 y10
  clear rl gg bt hG6 HUPC HG6 HKW6 HX6 HX7 HX8 HL6 HT9 HS06 HUP HWL HRG HRT
  go_wp2_with fail
  refine (rows_any w9 lo p rb c m G6 HG9.out HD6.out).mono ?_
  rintro e w10 ⟨vn, Kn, rfl, gn, hkn, _, b10⟩
  have hln : Kn.length = n := by have h1 := congrArg List.length hkn; rw [List.length_map] at h1; have := HL6G.out; omega
  obtain ⟨gnb, gnc, hvn, _, hgn1⟩ := gn.here (by have := HN0.out; omega)
  rw [hln] at hvn
  subst hvn
  have HKN := Lib.hid gn
  have HKNL := Lib.hid hln
  have HKNM := Lib.hid hkn
  have HG10 := Lib.hid (HG9.out.below b10)
  have HKW10 := Lib.hid (HKW9.out.below b10)
  have HL10 := Lib.hid (HL9.out.below b10)
  have HW10 := Lib.hid (Nat.le_trans HW09.out b10.size)
  replace HBW := Lib.hid (HBW.out.trans (b10.mono HBW.out.size))
  have HGNB := Lib.hid (show ∀ X : Nat, w10.heap.size ≤ X → gnb < X from fun X h => Nat.lt_of_lt_of_le hgn1 h)
  have HGWB := Lib.hid (show ∀ X : Nat, w10.heap.size ≤ X → gwb < X from fun X h => Nat.lt_of_lt_of_le (HKW10.out.1.lt gwb rfl).2 h)
  clear gn hkn b10 hln HKW9 HG9 HL9 hgn1
  obtain ⟨d, hd⟩ : ∃ d, d = b - t := ⟨_, rfl⟩
  have HDD := Lib.hid (show b = t + d by have := HTB.out; omega)
  have e94 : IntKind.i64.wrap ((b : Int) - (t : Int)) = (d : Int) := by rw [IntKind.wrap_i64]; have := HTB.out; have := HDD.out; have := HN6.out; omega
  have e95 : IntKind.i64.wrap ((d : Int) + 1) = (d : Int) + 1 := by rw [IntKind.wrap_i64]; have := HTB.out; have := HDD.out; have := HN6.out; omega
  have e96 : min (k0 : Int) ((d : Int) + 1) = (q : Int) := by have := HTB.out; have := HDD.out; omega
  clear hd
  have HT0 := Lib.hid (show Below w10.heap.size w10 w10 from Below.refl _ _)
  have hn5 : n ≤ 600 := HN6.out
  have hqq : ((q : Int) != (q : Int)) = false := by simp
  go_wp2
  go_loopg [17] n (fun Gs i wr => ∃ (k : Nat), i = .int .i64 k ∧ k ≤ n ∧ n - k ≤ Gs ∧ Hid (Below w10.heap.size w10 wr))
  case atStart => exact ⟨0, rfl, Nat.zero_le _, Nat.sub_le _ _, HT0⟩
  case round =>
    obtain ⟨k, rfl, hkn, hgk, HT⟩ := hrel
    clear HT0
    by_cases hlt : k < n
    · clear e94 e95 e96 hqq
      have HLT := Lib.hid (show k + 1 ≤ n from hlt)
      have hk1 : k < Kn.length := by have := HKNL.out; omega
      have hk2 : k < Kw.length := by have := HKL.out; omega
      obtain ⟨xn, hxn⟩ : ∃ x, x = Kn[k] := ⟨_, rfl⟩
      obtain ⟨xw, hxw⟩ : ∃ x, x = Kw[k] := ⟨_, rfl⟩
      have hrn : xn.R = rowG G6 k := by rw [hxn, ← hdAt_eq hk1, rowG_hd, HKNM.out]
      have hrw : xw.R = rowG G k := by rw [hxw, ← hdAt_eq hk2, rowG_hd, HKM.out]
      have hcn : wr.cell? ⟨gnb, k, none⟩ = some (hdV xn) := by rw [hxn]; exact (HKN.out.below HT.out).at hk1
      have hcw : wr.cell? ⟨gwb, k, none⟩ = some (hdV xw) := by rw [hxw]; exact (HKW10.out.below HT.out).at hk2
      have HCN := Lib.hid (show gnb < wr.heap.size from HGNB.out _ HT.out.size)
      have HCW := Lib.hid (show gwb < wr.heap.size from HGWB.out _ HT.out.size)
      have HRN := Lib.hid (show ∀ W, Below wr.heap.size wr W → RowIn W (hdV xn) xn.R from fun W kb => by rw [hxn]; exact (((HKN.out.below HT.out).below kb).row hk1).row)
      have HRX := Lib.hid (show ∀ W, Below wr.heap.size wr W → RowIn W (hdV xw) xw.R from fun W kb => by rw [hxw]; exact (((HKW10.out.below HT.out).below kb).row hk2).row)
      have HLEN := Lib.hid (show xn.R.length ≤ 10000 by rw [hrn]; have := (HD6.out.len (i := k) (by have := HL6G.out; omega)).2.1; have := HM5.out; omega)
      have HRE := Lib.hid (HR6.out k hlt)
      clear hxn hxw hk1 hk2
      have yb := HL10.out.below HT.out
      have y0 := yb.at 0 rfl
      have y1 := yb.at 1 rfl
      have y2 := yb.at 2 rfl
      have y3 := yb.at 3 rfl
      have y4 := yb.at 4 rfl
      have y5 := yb.at 5 rfl
      have y6 := yb.at 6 rfl
      have y7 := yb.at 7 rfl
      have y8 := yb.at 8 rfl
      have y9 := yb.at 9 rfl
      have y10 := yb.at 10 rfl
      clear yb
      go_wp2_with fail
      rw [← HST.out]
      refine (sblank_any wr s' HOK'.out).mono ?_
      rintro e wa ⟨rfl, ba⟩
      rw [← HXS.out]
      clear y0 y1 y2 y3 y4 y5 y6 y7 y8 y9 y10
      go_wp2_with fail
      refine (new_any wa (m : Nat) x (by have := HM5.out; omega) (by omega)).mono ?_
      rintro e wb ⟨u, rfl, hu, bb⟩
      rw [Int.toNat_natCast] at hu
      obtain ⟨ua, uc, rfl⟩ := hu.shape
      have HU := Lib.hid hu.row
      have HTB2 := Lib.hid (ba.trans (bb.mono ba.size))
      clear ba bb hu
      replace hcn := (HTB2.out.cell (p := ⟨gnb, k, none⟩) HCN.out).trans hcn
      replace hcw := (HTB2.out.cell (p := ⟨gwb, k, none⟩) HCW.out).trans hcw
      by_cases h1 : k < t
      · have h1d : decide ((k : Int) < (t : Int)) = true := by simp; exact h1
        go_wp2_with fail
        refine (rsame_any wb (hdV xn) (hdV xw) xn.R xw.R (HRN.out _ HTB2.out) (HRX.out _ HTB2.out) HLEN.out).mono ?_
        rintro e wz ⟨rfl, bz⟩
        rw [show decide (xn.R = xw.R) = true from decide_eq_true (by rw [hrn, hrw, HRE.out, if_pos (.inl h1)])]
        have HXE := Lib.hid (HT.out.trans ((HTB2.out.trans (bz.mono HTB2.out.size)).mono HT.out.size))
        clear bz HT HTB2 HRN HRX HLEN HU hrn
        go_wp2
        go_roundg (n - (k + 1))
        case rel => exact ⟨k + 1, by go_num, HLT.out, Nat.le_refl _, HXE⟩
        case measure => have := HLT.out; omega
      have h1d : decide ((k : Int) < (t : Int)) = false := by simp; omega
      by_cases h2 : b < k
      · have h2d : decide ((b : Int) < (k : Int)) = true := by simp; exact h2
        go_wp2_with fail
        refine (rsame_any wb (hdV xn) (hdV xw) xn.R xw.R (HRN.out _ HTB2.out) (HRX.out _ HTB2.out) HLEN.out).mono ?_
        rintro e wz ⟨rfl, bz⟩
        rw [show decide (xn.R = xw.R) = true from decide_eq_true (by rw [hrn, hrw, HRE.out, if_pos (.inr h2)])]
        have HXE := Lib.hid (HT.out.trans ((HTB2.out.trans (bz.mono HTB2.out.size)).mono HT.out.size))
        clear bz HT HTB2 HRN HRX HLEN HU hrn
        go_wp2
        go_roundg (n - (k + 1))
        case rel => exact ⟨k + 1, by go_num, HLT.out, Nat.le_refl _, HXE⟩
        case measure => have := HLT.out; omega
      have h2d : decide ((b : Int) < (k : Int)) = false := by simp; omega
      obtain ⟨r, hr⟩ : ∃ r, r = k + q := ⟨_, rfl⟩
      have HRR := Lib.hid hr
      have e124 : (k : Int) + (q : Int) = (r : Int) := by omega
      have hr6 : r ≤ 2000 := by have := HTB.out; omega
      clear hr
      by_cases h3 : r ≤ b
      · have h3d : decide ((r : Int) ≤ (b : Int)) = true := by simp; exact h3
        have hrl : r < n := by have := HTB.out; omega
        have hk3 : r < Kw.length := by have := HKL.out; omega
        obtain ⟨xv, hxv⟩ : ∃ x, x = Kw[r] := ⟨_, rfl⟩
        have hrv : xv.R = rowG G r := by rw [hxv, ← hdAt_eq hk3, rowG_hd, HKM.out]
        have hcv : wb.cell? ⟨gwb, r, none⟩ = some (hdV xv) := by rw [hxv]; exact ((HKW10.out.below HT.out).below HTB2.out).at hk3
        have HRV := Lib.hid (show ∀ W, Below wr.heap.size wr W → RowIn W (hdV xv) xv.R from fun W kb => by rw [hxv]; exact (((HKW10.out.below HT.out).below kb).row hk3).row)
        clear hxv hk3
        go_wp2_with fail
        refine (rsame_any wb (hdV xn) (hdV xv) xn.R xv.R (HRN.out _ HTB2.out) (HRV.out _ HTB2.out) HLEN.out).mono ?_
        rintro e wz ⟨rfl, bz⟩
        rw [show decide (xn.R = xv.R) = true from decide_eq_true (by rw [hrn, hrv, HRE.out, if_neg (by omega), if_pos (by have := HRR.out; omega), HRR.out])]
        have HXE := Lib.hid (HT.out.trans ((HTB2.out.trans (bz.mono HTB2.out.size)).mono HT.out.size))
        clear bz HT HTB2 HRN HRX HLEN HU hrn
        go_wp2
        go_roundg (n - (k + 1))
        case rel => exact ⟨k + 1, by go_num, HLT.out, Nat.le_refl _, HXE⟩
        case measure => have := HLT.out; omega
      · have h3d : decide ((r : Int) ≤ (b : Int)) = false := by simp; omega
        go_wp2_with fail
        refine (rsame_any wb (hdV xn) _ xn.R (newM m x) (HRN.out _ HTB2.out) HU.out HLEN.out).mono ?_
        rintro e wz ⟨rfl, bz⟩
        rw [show decide (xn.R = (newM m x)) = true from decide_eq_true (by rw [hrn, HRE.out, if_neg (by omega), if_neg (by have := HRR.out; omega)])]
        have HXE := Lib.hid (HT.out.trans ((HTB2.out.trans (bz.mono HTB2.out.size)).mono HT.out.size))
        clear bz HT HTB2 HRN HRX HLEN HU hrn
        go_wp2
        go_roundg (n - (k + 1))
        case rel => exact ⟨k + 1, by go_num, HLT.out, Nat.le_refl _, HXE⟩
        case measure => have := HLT.out; omega
    · obtain rfl : n = k := by omega
      have HG11 := Lib.hid (HG10.out.below HT.out)
      have HKW11 := Lib.hid (HKW10.out.below HT.out)
      have HL11 := Lib.hid (HL10.out.below HT.out)
      replace HBW := Lib.hid (HBW.out.trans (HT.out.mono HBW.out.size))
      have HWL11 := Lib.hid (show lo ≤ wr.heap.size from Nat.le_of_lt (Nat.lt_of_le_of_lt HG11.out.lt.2.2.2 HG11.out.lt.1))
      have HXI := Lib.hid (show Below wr.heap.size wr wr from Below.refl _ _)
      have HW0R := Lib.hid (Nat.le_trans HW10.out HT.out.size)
      clear HT HG10 HKW10 HL10 HKN HKNL HKNM hgk hlt e94 e95 e96
      have yb := HL11.out.below HXI.out
      have y0 := yb.at 0 rfl
      have y1 := yb.at 1 rfl
      have y2 := yb.at 2 rfl
      have y3 := yb.at 3 rfl
      have y4 := yb.at 4 rfl
      have y5 := yb.at 5 rfl
      have y6 := yb.at 6 rfl
      have y7 := yb.at 7 rfl
      have y8 := yb.at 8 rfl
      have y9 := yb.at 9 rfl
      have y10 := yb.at 10 rfl
      clear yb
      go_wp2_with fail
      rw [← HST.out]
      refine (sblank_any wr s' HOK'.out).mono ?_
      rintro e wa ⟨rfl, ba⟩
      rw [← HXS.out]
      clear y0 y1 y2 y3 y4 y5 y6 y7 y8 y9 y10
      have HRG6 := Lib.hid (show regB G6.length (t : Nat) (b : Nat) = true by unfold regB; rw [HL6G.out]; have := HTB.out; simp; omega)
      have HBA := Lib.hid ba
      have HDN := Lib.hid (gdown wa lo p rb c m G6 (t : Nat) (b : Nat) (q : Nat) x (HG11.out.below ba) HD6.out (Nat.le_trans HWL11.out ba.size))
      clear ba
      go_wp2_with fail
      refine HDN.out.mono ?_
      rintro e w11 ⟨v, rfl, rl, _, gg, bt⟩
      obtain ⟨va3, vc3, rfl⟩ := rl.shape
      have hmq : min q (b + 1 - t) = q := by have := HTB.out; omega
      rw [show (wentD G6 (t : Nat) (b : Nat) (q : Nat)).length = q by unfold wentD; rw [if_pos HRG6.out]; simp only [Int.toNat_natCast]; rw [hmq]; exact len_wentDown (by have := HL6G.out; have := HTB.out; omega) (by have := HTB.out; omega)]
      obtain ⟨G7, hG7⟩ : ∃ X, X = downM G6 t b q (newM m x) := ⟨_, rfl⟩
      have hdn : downG G6 m (t : Nat) (b : Nat) (q : Nat) x = G7 := by unfold downG; rw [if_pos HRG6.out]; simp only [Int.toNat_natCast]; rw [hmq, hG7]
      rw [hdn] at gg
      have HD7 := Lib.hid (show Good G7 m by have := HD6.out.down (t : Nat) (b : Nat) (q : Nat) HXK.out.1 HXK.out.2; rwa [hdn] at this)
      have HL7G := Lib.hid (show G7.length = n by rw [hG7, len_down HTB.out.1 (by have := HL6G.out; have := HTB.out; omega) HTB.out.2.2.1]; exact HL6G.out)
      have HR7 := Lib.hid (show ∀ i, i < n → rowG G7 i = if t ≤ i ∧ i < t + q then newM m x else rowG G i from fun i hi => by rw [hG7, HG6E.out]; exact rowG_back HTB.out.1 (by have := HN.out; have := HTB.out; omega) HTB.out.2.2.1 (by have := HN.out; omega))
      have HG12 := Lib.hid gg
      have HKW12 := Lib.hid ((HKW11.out.below HBA.out).buts bt (by have h1 := HPW.out; have h2 := HGW.out; omega) (fun y hy => by have h1 := (HKW11.out.2.lt hy).1; have h2 := HPW.out; omega))
      have HT12 := Lib.hid (show Below w0.heap.size wr w11 from (HBA.out.mono HW0R.out).trans (bt.below (C := w0.heap.size) (fun i hi => by have h1 := HG11.out.lt; have h2 := HLO.out; omega) (Nat.le_trans HW0R.out HBA.out.size)))
      have HL12' := Lib.hid (HL11.out.far HT12.out HZ0.out)
      replace HBW := Lib.hid (HBW.out.trans (HT12.out.mono HB0.out.size))
      clear rl gg bt hG7 hdn hmq HDN HG11 HKW11 HL11 HT12 HBA HRG6 HXI HWL11
      go_wp2_with fail
      refine (rows_any w11 lo p rb c m G7 HG12.out HD7.out).mono ?_
      rintro e w12 ⟨vb, Kb, rfl, gn, hkn, _, b10⟩
      have hln : Kb.length = n := by have h1 := congrArg List.length hkn; rw [List.length_map] at h1; have := HL7G.out; omega
      obtain ⟨kbb, kbc, hvn, _, _⟩ := gn.here (by have := HN0.out; omega)
      rw [hln] at hvn
      subst hvn
      have HKB := Lib.hid gn
      have HKBL := Lib.hid hln
      have HKBM := Lib.hid hkn
      replace HKW12 := Lib.hid (HKW12.out.below b10)
      have HL12 := Lib.hid (HL12'.out.below b10)
      replace HBW := Lib.hid (HBW.out.trans (b10.mono HBW.out.size))
      clear gn hkn b10 hln HL12'
      have HT0 := Lib.hid (show Below w12.heap.size w12 w12 from Below.refl _ _)
      have hqe : ((q : Int) == (q : Int)) = true := by simp
      obtain ⟨r, hr⟩ : ∃ r, r = t + q := ⟨_, rfl⟩
      have HRR := Lib.hid hr
      have e161 : (t : Int) + (q : Int) = (r : Int) := by omega
      have ewr : IntKind.i64.wrap (r : Int) = (r : Int) := by rw [IntKind.wrap_i64]; have := HTB.out; have := HN6.out; omega
      have hr6 : r ≤ 2000 := by have := HTB.out; omega
      clear hr hkn
      go_wp2
      go_loopg [20] n (fun Gs i wr => ∃ (k : Nat), i = .int .i64 k ∧ k ≤ n ∧ n - k ≤ Gs ∧ Hid (Below w12.heap.size w12 wr))
      case atStart => exact ⟨0, rfl, Nat.zero_le _, Nat.sub_le _ _, HT0⟩
      case round =>
        obtain ⟨k, rfl, hkn, hgk, HT⟩ := hrel
        clear HT0
        by_cases hlt : k < n
        · clear hqe
          have HLT := Lib.hid (show k + 1 ≤ n from hlt)
          have hk1 : k < Kb.length := by have := HKBL.out; omega
          have hk2 : k < Kw.length := by have := HKL.out; omega
          obtain ⟨xn, hxn⟩ : ∃ x, x = Kb[k] := ⟨_, rfl⟩
          obtain ⟨xw, hxw⟩ : ∃ x, x = Kw[k] := ⟨_, rfl⟩
          have hrn : xn.R = rowG G7 k := by rw [hxn, ← hdAt_eq hk1, rowG_hd, HKBM.out]
          have hrw : xw.R = rowG G k := by rw [hxw, ← hdAt_eq hk2, rowG_hd, HKM.out]
          have HRN := Lib.hid (show ∀ W, Below wr.heap.size wr W → RowIn W (hdV xn) xn.R from fun W kb => by rw [hxn]; exact (((HKB.out.below HT.out).below kb).row hk1).row)
          have HLEN := Lib.hid (show xn.R.length ≤ 10000 by rw [hrn]; have := (HD7.out.len (i := k) (by have := HL7G.out; omega)).2.1; have := HM5.out; omega)
          have HRE := Lib.hid (HR7.out k hlt)
          by_cases h1 : k < t
          · have h1d : decide ((k : Int) < (t : Int)) = true := by simp; exact h1
            have h2 : ¬ t ≤ k := by omega
            have h2d : decide ((t : Int) ≤ (k : Int)) = false := by simp; exact h1
            have HSK := Lib.hid (show ∀ W, Below wr.heap.size wr W → (fun wx => wx.cell? ⟨kbb, k, none⟩ = some (hdV xn) ∧ wx.cell? ⟨gwb, k, none⟩ = some (hdV xw)) W from fun W kb => by
              refine ⟨?_, ?_⟩
              · rw [hxn]; exact ((HKB.out.below HT.out).below kb).at hk1
              · rw [hxw]; exact ((HKW12.out.below HT.out).below kb).at hk2)
            have HRW := Lib.hid (show ∀ W, Below wr.heap.size wr W → RowIn W (hdV xw) xw.R from fun W kb => by rw [hxw]; exact (((HKW12.out.below HT.out).below kb).row hk2).row)
            have HSAME := Lib.hid (show decide (xn.R = xw.R) = true from decide_eq_true (by rw [hrn, hrw, HRE.out, if_neg (by omega)]))
            clear hxn hxw hrn hrw hk1 hk2
            go_upto_region 38 with (fail)
            refine wp_region_held_drew (S := fun wx => wx.cell? ⟨kbb, k, none⟩ = some (hdV xn) ∧ wx.cell? ⟨gwb, k, none⟩ = some (hdV xw)) (by kernel_rfl) ?_ (fun hHeld => ?_)
            · exact HSK.out _ ((Below.refl _ _).drew)
            obtain ⟨wd, hwd⟩ : ∃ X, X = wr.drew := ⟨_, rfl⟩
            have HX := Lib.hid (show Below wr.heap.size wr wd by rw [hwd]; exact (Below.refl _ _).drew)
            replace hHeld := HSK.out _ HX.out
            rw [← hwd]
            clear hwd
            refine tk 0 rfl (fun w hSw => by (try dsimp only at hSw); go_simp; try with_reducible rfl) ?_
            go_frame
            refine tk 1 rfl (fun w hSw => by (try dsimp only at hSw); go_simp; try with_reducible rfl) ?_
            go_frame
            refine tk 2 rfl (fun w hSw => by (try dsimp only at hSw); go_simp; try with_reducible rfl) ?_
            go_frame
            refine tk 3 rfl (fun w hSw => by (try dsimp only at hSw); go_simp; try with_reducible rfl) ?_
            go_frame
            refine sk 4 rfl ?_
            go_frame
            refine sk 5 rfl ?_
            go_frame
            refine sk 6 rfl ?_
            go_frame
            refine sk 7 rfl ?_
            go_frame
            refine sk 8 rfl ?_
            go_frame
            refine tk 9 rfl (fun w hSw => by (try dsimp only at hSw); go_simp; try with_reducible rfl) ?_
            go_frame
            refine tk 10 rfl (fun w hSw => by (try dsimp only at hSw); go_simp; try with_reducible rfl) ?_
            go_frame
            refine sk 11 rfl ?_
            go_frame
            refine sk 12 rfl ?_
            go_frame
            refine sk 13 rfl ?_
            go_frame
            refine tk 14 rfl (fun w hSw => by (try dsimp only at hSw); go_simp; try with_reducible rfl) ?_
            go_frame
            refine tk 15 rfl (fun w hSw => by (try dsimp only at hSw); go_simp; try with_reducible rfl) ?_
            go_frame
            refine tk 16 rfl (fun w hSw => by (try dsimp only at hSw); go_simp; try with_reducible rfl) ?_
            go_frame
            refine tk 17 rfl (fun w hSw => by (try dsimp only at hSw); go_simp; try with_reducible rfl) ?_
            go_frame
            refine tk 18 rfl (fun w hSw => by (try dsimp only at hSw); go_simp; try with_reducible rfl) ?_
            go_frame
            refine tk 19 rfl (fun w hSw => by (try dsimp only at hSw); go_simp; try with_reducible rfl) ?_
            go_frame
            refine tk 20 rfl (fun w hSw => by (try dsimp only at hSw); go_simp; try with_reducible rfl) ?_
            go_frame
            refine tk 21 rfl (fun w hSw => by (try dsimp only at hSw); go_simp; try with_reducible rfl) ?_
            go_frame
            refine tk 22 rfl (fun w hSw => by (try dsimp only at hSw); go_simp; try with_reducible rfl) ?_
            go_frame
            refine tk 23 rfl (fun w hSw => by (try dsimp only at hSw); go_simp; try with_reducible rfl) ?_
            go_frame
            refine do_at (i := 24) rfl (by kernel_rfl) (by kernel_rfl) (fun K hK => ?_)
            go_simp
            refine (rsame_any wd (hdV xn) (hdV xw) xn.R xw.R (HRN.out _ HX.out) (HRW.out _ HX.out) HLEN.out).mono ?_
            rintro e wz ⟨rfl, bz⟩
            rw [HSAME.out]
            replace HX := Lib.hid (HX.out.trans (bz.mono HX.out.size))
            clear bz
            go_wp2_with fail
            refine hK.out _ _ ?_ (fun hHeld => ?_)
            · exact HSK.out _ HX.out
            clear hK K
            try go_frame
            refine tk 25 rfl (fun w hSw => by (try dsimp only at hSw); go_simp; try with_reducible rfl) ?_
            go_frame
            refine tk 26 rfl (fun w hSw => by (try dsimp only at hSw); go_simp; try with_reducible rfl) ?_
            go_frame
            refine tk 27 rfl (fun w hSw => by (try dsimp only at hSw); go_simp; try with_reducible rfl) ?_
            go_frame
            refine tk 28 rfl (fun w hSw => by (try dsimp only at hSw); go_simp; try with_reducible rfl) ?_
            go_frame
            refine tk 29 rfl (fun w hSw => by (try dsimp only at hSw); go_simp; try with_reducible rfl) ?_
            go_frame
            refine tk 30 rfl (fun w hSw => by (try dsimp only at hSw); go_simp; try with_reducible rfl) ?_
            go_frame
            refine tk 31 rfl (fun w hSw => by (try dsimp only at hSw); go_simp; try with_reducible rfl) ?_
            go_frame
            refine sk 32 rfl ?_
            go_frame
            refine sk 33 rfl ?_
            go_frame
            refine sk 34 rfl ?_
            go_frame
            refine sk 35 rfl ?_
            go_frame
            refine sk 36 rfl ?_
            go_frame
            refine tk 37 rfl (fun w hSw => by (try dsimp only at hSw); go_simp; try with_reducible rfl) ?_
            go_frame
            refine tk 38 rfl (fun w hSw => by (try dsimp only at hSw); go_simp; try with_reducible rfl) ?_
            go_frame
            refine sk 39 rfl ?_
            go_frame
            refine sk 40 rfl ?_
            go_frame
            refine sk 41 rfl ?_
            go_frame
            refine sk 42 rfl ?_
            go_frame
            refine sk 43 rfl ?_
            go_frame
            refine sk 44 rfl ?_
            go_frame
            refine sk 45 rfl ?_
            go_frame
            refine sk 46 rfl ?_
            go_frame
            refine sk 47 rfl ?_
            go_frame
            refine sk 48 rfl ?_
            go_frame
            refine tk 49 rfl (fun w hSw => by (try dsimp only at hSw); go_simp; try with_reducible rfl) ?_
            go_frame
            refine tk 50 rfl (fun w hSw => by (try dsimp only at hSw); go_simp; try with_reducible rfl) ?_
            go_frame
            refine wpAnyH_done (by kernel_rfl) ?_ _
            have HXE := Lib.hid (HT.out.trans (HX.out.mono HT.out.size))
            clear hHeld HX HT HRN HSK HLEN HSAME HRW
            go_wp2
            go_roundg (n - (k + 1))
            case rel => exact ⟨k + 1, by go_num, HLT.out, Nat.le_refl _, HXE⟩
            case measure => have := HLT.out; omega
          have h1d : decide ((k : Int) < (t : Int)) = false := by simp; omega
          have h2 : t ≤ k := by omega
          have h2d : decide ((t : Int) ≤ (k : Int)) = true := by simp; omega
          by_cases h3 : r ≤ k
          · have h3d : decide ((r : Int) ≤ (k : Int)) = true := by simp; exact h3
            have h4 : ¬ k < r := by omega
            have h4d : decide ((k : Int) < (r : Int)) = false := by simp; exact h3
            have HSK := Lib.hid (show ∀ W, Below wr.heap.size wr W → (fun wx => wx.cell? ⟨kbb, k, none⟩ = some (hdV xn) ∧ wx.cell? ⟨gwb, k, none⟩ = some (hdV xw)) W from fun W kb => by
              refine ⟨?_, ?_⟩
              · rw [hxn]; exact ((HKB.out.below HT.out).below kb).at hk1
              · rw [hxw]; exact ((HKW12.out.below HT.out).below kb).at hk2)
            have HRW := Lib.hid (show ∀ W, Below wr.heap.size wr W → RowIn W (hdV xw) xw.R from fun W kb => by rw [hxw]; exact (((HKW12.out.below HT.out).below kb).row hk2).row)
            have HSAME := Lib.hid (show decide (xn.R = xw.R) = true from decide_eq_true (by rw [hrn, hrw, HRE.out, if_neg (by have := HRR.out; omega)]))
            clear hxn hxw hrn hrw hk1 hk2
            go_upto_region 38 with (fail)
            refine wp_region_held_drew (S := fun wx => wx.cell? ⟨kbb, k, none⟩ = some (hdV xn) ∧ wx.cell? ⟨gwb, k, none⟩ = some (hdV xw)) (by kernel_rfl) ?_ (fun hHeld => ?_)
            · exact HSK.out _ ((Below.refl _ _).drew)
            obtain ⟨wd, hwd⟩ : ∃ X, X = wr.drew := ⟨_, rfl⟩
            have HX := Lib.hid (show Below wr.heap.size wr wd by rw [hwd]; exact (Below.refl _ _).drew)
            replace hHeld := HSK.out _ HX.out
            rw [← hwd]
            clear hwd
            refine tk 0 rfl (fun w hSw => by (try dsimp only at hSw); go_simp; try with_reducible rfl) ?_
            go_frame
            refine tk 1 rfl (fun w hSw => by (try dsimp only at hSw); go_simp; try with_reducible rfl) ?_
            go_frame
            refine tk 2 rfl (fun w hSw => by (try dsimp only at hSw); go_simp; try with_reducible rfl) ?_
            go_frame
            refine tk 3 rfl (fun w hSw => by (try dsimp only at hSw); go_simp; try with_reducible rfl) ?_
            go_frame
            refine tk 4 rfl (fun w hSw => by (try dsimp only at hSw); go_simp; try with_reducible rfl) ?_
            go_frame
            refine tk 5 rfl (fun w hSw => by (try dsimp only at hSw); go_simp; try with_reducible rfl) ?_
            go_frame
            refine tk 6 rfl (fun w hSw => by (try dsimp only at hSw); go_simp; try with_reducible rfl) ?_
            go_frame
            refine tk 7 rfl (fun w hSw => by (try dsimp only at hSw); go_simp; try with_reducible rfl) ?_
            go_frame
            refine tk 8 rfl (fun w hSw => by (try dsimp only at hSw); go_simp; try with_reducible rfl) ?_
            go_frame
            refine tk 9 rfl (fun w hSw => by (try dsimp only at hSw); go_simp; try with_reducible rfl) ?_
            go_frame
            refine tk 10 rfl (fun w hSw => by (try dsimp only at hSw); go_simp; try with_reducible rfl) ?_
            go_frame
            refine sk 11 rfl ?_
            go_frame
            refine sk 12 rfl ?_
            go_frame
            refine sk 13 rfl ?_
            go_frame
            refine tk 14 rfl (fun w hSw => by (try dsimp only at hSw); go_simp; try with_reducible rfl) ?_
            go_frame
            refine tk 15 rfl (fun w hSw => by (try dsimp only at hSw); go_simp; try with_reducible rfl) ?_
            go_frame
            refine tk 16 rfl (fun w hSw => by (try dsimp only at hSw); go_simp; try with_reducible rfl) ?_
            go_frame
            refine tk 17 rfl (fun w hSw => by (try dsimp only at hSw); go_simp; try with_reducible rfl) ?_
            go_frame
            refine tk 18 rfl (fun w hSw => by (try dsimp only at hSw); go_simp; try with_reducible rfl) ?_
            go_frame
            refine tk 19 rfl (fun w hSw => by (try dsimp only at hSw); go_simp; try with_reducible rfl) ?_
            go_frame
            refine tk 20 rfl (fun w hSw => by (try dsimp only at hSw); go_simp; try with_reducible rfl) ?_
            go_frame
            refine tk 21 rfl (fun w hSw => by (try dsimp only at hSw); go_simp; try with_reducible rfl) ?_
            go_frame
            refine tk 22 rfl (fun w hSw => by (try dsimp only at hSw); go_simp; try with_reducible rfl) ?_
            go_frame
            refine tk 23 rfl (fun w hSw => by (try dsimp only at hSw); go_simp; try with_reducible rfl) ?_
            go_frame
            refine do_at (i := 24) rfl (by kernel_rfl) (by kernel_rfl) (fun K hK => ?_)
            go_simp
            refine (rsame_any wd (hdV xn) (hdV xw) xn.R xw.R (HRN.out _ HX.out) (HRW.out _ HX.out) HLEN.out).mono ?_
            rintro e wz ⟨rfl, bz⟩
            rw [HSAME.out]
            replace HX := Lib.hid (HX.out.trans (bz.mono HX.out.size))
            clear bz
            go_wp2_with fail
            refine hK.out _ _ ?_ (fun hHeld => ?_)
            · exact HSK.out _ HX.out
            clear hK K
            try go_frame
            refine tk 25 rfl (fun w hSw => by (try dsimp only at hSw); go_simp; try with_reducible rfl) ?_
            go_frame
            refine tk 26 rfl (fun w hSw => by (try dsimp only at hSw); go_simp; try with_reducible rfl) ?_
            go_frame
            refine tk 27 rfl (fun w hSw => by (try dsimp only at hSw); go_simp; try with_reducible rfl) ?_
            go_frame
            refine tk 28 rfl (fun w hSw => by (try dsimp only at hSw); go_simp; try with_reducible rfl) ?_
            go_frame
            refine tk 29 rfl (fun w hSw => by (try dsimp only at hSw); go_simp; try with_reducible rfl) ?_
            go_frame
            refine tk 30 rfl (fun w hSw => by (try dsimp only at hSw); go_simp; try with_reducible rfl) ?_
            go_frame
            refine tk 31 rfl (fun w hSw => by (try dsimp only at hSw); go_simp; try with_reducible rfl) ?_
            go_frame
            refine tk 32 rfl (fun w hSw => by (try dsimp only at hSw); go_simp; try with_reducible rfl) ?_
            go_frame
            refine tk 33 rfl (fun w hSw => by (try dsimp only at hSw); go_simp; try with_reducible rfl) ?_
            go_frame
            refine tk 34 rfl (fun w hSw => by (try dsimp only at hSw); go_simp; try with_reducible rfl) ?_
            go_frame
            refine tk 35 rfl (fun w hSw => by (try dsimp only at hSw); go_simp; try with_reducible rfl) ?_
            go_frame
            refine tk 36 rfl (fun w hSw => by (try dsimp only at hSw); go_simp; try with_reducible rfl) ?_
            go_frame
            refine tk 37 rfl (fun w hSw => by (try dsimp only at hSw); go_simp; try with_reducible rfl) ?_
            go_frame
            refine tk 38 rfl (fun w hSw => by (try dsimp only at hSw); go_simp; try with_reducible rfl) ?_
            go_frame
            refine sk 39 rfl ?_
            go_frame
            refine sk 40 rfl ?_
            go_frame
            refine sk 41 rfl ?_
            go_frame
            refine sk 42 rfl ?_
            go_frame
            refine sk 43 rfl ?_
            go_frame
            refine sk 44 rfl ?_
            go_frame
            refine sk 45 rfl ?_
            go_frame
            refine sk 46 rfl ?_
            go_frame
            refine sk 47 rfl ?_
            go_frame
            refine sk 48 rfl ?_
            go_frame
            refine tk 49 rfl (fun w hSw => by (try dsimp only at hSw); go_simp; try with_reducible rfl) ?_
            go_frame
            refine tk 50 rfl (fun w hSw => by (try dsimp only at hSw); go_simp; try with_reducible rfl) ?_
            go_frame
            refine wpAnyH_done (by kernel_rfl) ?_ _
            have HXE := Lib.hid (HT.out.trans (HX.out.mono HT.out.size))
            clear hHeld HX HT HRN HSK HLEN HSAME HRW
            go_wp2
            go_roundg (n - (k + 1))
            case rel => exact ⟨k + 1, by go_num, HLT.out, Nat.le_refl _, HXE⟩
            case measure => have := HLT.out; omega
          · have h3d : decide ((r : Int) ≤ (k : Int)) = false := by simp; omega
            have h4 : k < r := by omega
            have h4d : decide ((k : Int) < (r : Int)) = true := by simp; exact h4
            have h5 : ¬ b < k := by have := HRR.out; have := HTB.out; omega
            have h5d : decide ((b : Int) < (k : Int)) = false := by simp; omega
            have HSK := Lib.hid (show ∀ W, Below wr.heap.size wr W → (fun wx => wx.cell? ⟨kbb, k, none⟩ = some (hdV xn) ∧ wx.cell? ⟨b3, 0, none⟩ = some (.int .u8 (s.what : Nat)) ∧ wx.cell? ⟨b3, 1, none⟩ = some (.int .u8 (s.row : Nat)) ∧ wx.cell? ⟨b3, 2, none⟩ = some (.int .u8 (s.col : Nat)) ∧ wx.cell? ⟨b3, 3, none⟩ = some (.int .u8 (s.n : Nat)) ∧ wx.cell? ⟨b3, 4, none⟩ = some (.int .u8 (s.m : Nat)) ∧ wx.cell? ⟨b3, 5, none⟩ = some (.int .u8 (s.cell.ru : Nat)) ∧ wx.cell? ⟨b3, 6, none⟩ = some (.int .u8 (s.cell.ms : Nat)) ∧ wx.cell? ⟨b3, 7, none⟩ = some (.int .u8 (s.cell.at1 : Nat)) ∧ wx.cell? ⟨b3, 8, none⟩ = some (.bool s.cell.wide) ∧ wx.cell? ⟨b3, 9, none⟩ = some (.bool s.cell.high) ∧ wx.cell? ⟨b3, 10, none⟩ = some (.bool false)) W from fun W kb => by
              have yb := (HL12.out.below HT.out).below kb
              refine ⟨?_, yb.at 0 rfl, yb.at 1 rfl, yb.at 2 rfl, yb.at 3 rfl, yb.at 4 rfl, yb.at 5 rfl, yb.at 6 rfl, yb.at 7 rfl, yb.at 8 rfl, yb.at 9 rfl, yb.at 10 rfl⟩
              rw [hxn]
              exact ((HKB.out.below HT.out).below kb).at hk1)
            have HSAME := Lib.hid (show decide (xn.R = newM m x) = true from decide_eq_true (by rw [hrn, HRE.out, if_pos (by have := HRR.out; omega)]))
            clear hxn hxw hrn hrw hk1 hk2
            go_upto_region 38 with (fail)
            refine wp_region_held_drew (S := fun wx => wx.cell? ⟨kbb, k, none⟩ = some (hdV xn) ∧ wx.cell? ⟨b3, 0, none⟩ = some (.int .u8 (s.what : Nat)) ∧ wx.cell? ⟨b3, 1, none⟩ = some (.int .u8 (s.row : Nat)) ∧ wx.cell? ⟨b3, 2, none⟩ = some (.int .u8 (s.col : Nat)) ∧ wx.cell? ⟨b3, 3, none⟩ = some (.int .u8 (s.n : Nat)) ∧ wx.cell? ⟨b3, 4, none⟩ = some (.int .u8 (s.m : Nat)) ∧ wx.cell? ⟨b3, 5, none⟩ = some (.int .u8 (s.cell.ru : Nat)) ∧ wx.cell? ⟨b3, 6, none⟩ = some (.int .u8 (s.cell.ms : Nat)) ∧ wx.cell? ⟨b3, 7, none⟩ = some (.int .u8 (s.cell.at1 : Nat)) ∧ wx.cell? ⟨b3, 8, none⟩ = some (.bool s.cell.wide) ∧ wx.cell? ⟨b3, 9, none⟩ = some (.bool s.cell.high) ∧ wx.cell? ⟨b3, 10, none⟩ = some (.bool false)) (by kernel_rfl) ?_ (fun hHeld => ?_)
            · exact HSK.out _ ((Below.refl _ _).drew)
            obtain ⟨wd, hwd⟩ : ∃ X, X = wr.drew := ⟨_, rfl⟩
            have HX := Lib.hid (show Below wr.heap.size wr wd by rw [hwd]; exact (Below.refl _ _).drew)
            replace hHeld := HSK.out _ HX.out
            rw [← hwd]
            clear hwd
            refine tk 0 rfl (fun w hSw => by (try dsimp only at hSw); go_simp; try with_reducible rfl) ?_
            go_frame
            refine tk 1 rfl (fun w hSw => by (try dsimp only at hSw); go_simp; try with_reducible rfl) ?_
            go_frame
            refine tk 2 rfl (fun w hSw => by (try dsimp only at hSw); go_simp; try with_reducible rfl) ?_
            go_frame
            refine tk 3 rfl (fun w hSw => by (try dsimp only at hSw); go_simp; try with_reducible rfl) ?_
            go_frame
            refine tk 4 rfl (fun w hSw => by (try dsimp only at hSw); go_simp; try with_reducible rfl) ?_
            go_frame
            refine tk 5 rfl (fun w hSw => by (try dsimp only at hSw); go_simp; try with_reducible rfl) ?_
            go_frame
            refine tk 6 rfl (fun w hSw => by (try dsimp only at hSw); go_simp; try with_reducible rfl) ?_
            go_frame
            refine tk 7 rfl (fun w hSw => by (try dsimp only at hSw); go_simp; try with_reducible rfl) ?_
            go_frame
            refine tk 8 rfl (fun w hSw => by (try dsimp only at hSw); go_simp; try with_reducible rfl) ?_
            go_frame
            refine tk 9 rfl (fun w hSw => by (try dsimp only at hSw); go_simp; try with_reducible rfl) ?_
            go_frame
            refine tk 10 rfl (fun w hSw => by (try dsimp only at hSw); go_simp; try with_reducible rfl) ?_
            go_frame
            refine tk 11 rfl (fun w hSw => by (try dsimp only at hSw); go_simp; try with_reducible rfl) ?_
            go_frame
            refine tk 12 rfl (fun w hSw => by (try dsimp only at hSw); go_simp; try with_reducible rfl) ?_
            go_frame
            refine tk 13 rfl (fun w hSw => by (try dsimp only at hSw); go_simp; try with_reducible rfl) ?_
            go_frame
            refine tk 14 rfl (fun w hSw => by (try dsimp only at hSw); go_simp; try with_reducible rfl) ?_
            go_frame
            refine tk 15 rfl (fun w hSw => by (try dsimp only at hSw); go_simp; try with_reducible rfl) ?_
            go_frame
            refine sk 16 rfl ?_
            go_frame
            refine sk 17 rfl ?_
            go_frame
            refine sk 18 rfl ?_
            go_frame
            refine sk 19 rfl ?_
            go_frame
            refine sk 20 rfl ?_
            go_frame
            refine sk 21 rfl ?_
            go_frame
            refine sk 22 rfl ?_
            go_frame
            refine sk 23 rfl ?_
            go_frame
            refine sk 24 rfl ?_
            go_frame
            refine sk 25 rfl ?_
            go_frame
            refine tk 26 rfl (fun w hSw => by (try dsimp only at hSw); go_simp; try with_reducible rfl) ?_
            go_frame
            refine tk 27 rfl (fun w hSw => by (try dsimp only at hSw); go_simp; try with_reducible rfl) ?_
            go_frame
            refine tk 28 rfl (fun w hSw => by (try dsimp only at hSw); go_simp; try with_reducible rfl) ?_
            go_frame
            refine tk 29 rfl (fun w hSw => by (try dsimp only at hSw); go_simp; try with_reducible rfl) ?_
            go_frame
            refine tk 30 rfl (fun w hSw => by (try dsimp only at hSw); go_simp; try with_reducible rfl) ?_
            go_frame
            refine tk 31 rfl (fun w hSw => by (try dsimp only at hSw); go_simp; try with_reducible rfl) ?_
            go_frame
            refine tk 32 rfl (fun w hSw => by (try dsimp only at hSw); go_simp; try with_reducible rfl) ?_
            go_frame
            refine tk 33 rfl (fun w hSw => by (try dsimp only at hSw); go_simp; try with_reducible rfl) ?_
            go_frame
            refine tk 34 rfl (fun w hSw => by (try dsimp only at hSw); go_simp; try with_reducible rfl) ?_
            go_frame
            refine tk 35 rfl (fun w hSw => by (try dsimp only at hSw); go_simp; try with_reducible rfl) ?_
            go_frame
            refine tk 36 rfl (fun w hSw => by (try dsimp only at hSw); go_simp; try with_reducible rfl) ?_
            go_frame
            refine tk 37 rfl (fun w hSw => by (try dsimp only at hSw); go_simp; try with_reducible rfl) ?_
            go_frame
            refine tk 38 rfl (fun w hSw => by (try dsimp only at hSw); go_simp; try with_reducible rfl) ?_
            go_frame
            refine tk 39 rfl (fun w hSw => by (try dsimp only at hSw); go_simp; try with_reducible rfl) ?_
            go_frame
            refine tk 40 rfl (fun w hSw => by (try dsimp only at hSw); go_simp; try with_reducible rfl) ?_
            go_frame
            refine tk 41 rfl (fun w hSw => by (try dsimp only at hSw); go_simp; try with_reducible rfl) ?_
            go_frame
            refine tk 42 rfl (fun w hSw => by (try dsimp only at hSw); go_simp; try with_reducible rfl) ?_
            go_frame
            refine tk 43 rfl (fun w hSw => by (try dsimp only at hSw); go_simp; try with_reducible rfl) ?_
            go_frame
            refine tk 44 rfl (fun w hSw => by (try dsimp only at hSw); go_simp; try with_reducible rfl) ?_
            go_frame
            refine do_at (i := 45) rfl (by kernel_rfl) (by kernel_rfl) (fun K hK => ?_)
            go_simp
            rw [← HST.out]
            refine (sblank_any wd s' HOK'.out).mono ?_
            rintro e wx ⟨rfl, bz⟩
            rw [← HXS.out]
            replace HX := Lib.hid (HX.out.trans (bz.mono HX.out.size))
            clear bz
            go_wp2_with fail
            refine hK.out _ _ ?_ (fun hHeld => ?_)
            · exact HSK.out _ HX.out
            clear hK K
            try go_frame
            refine do_at (i := 46) rfl (by kernel_rfl) (by kernel_rfl) (fun K hK => ?_)
            go_simp
            refine (new_any wx (m : Nat) x (by have := HM5.out; omega) (by omega)).mono ?_
            rintro e wy ⟨u, rfl, hu, bz⟩
            rw [Int.toNat_natCast] at hu
            obtain ⟨ua, uc, rfl⟩ := hu.shape
            have HU := Lib.hid hu.row
            replace HX := Lib.hid (HX.out.trans (bz.mono HX.out.size))
            clear bz hu
            go_wp2_with fail
            refine hK.out _ _ ?_ (fun hHeld => ?_)
            · exact HSK.out _ HX.out
            clear hK K
            try go_frame
            refine do_at (i := 47) rfl (by kernel_rfl) (by kernel_rfl) (fun K hK => ?_)
            go_simp
            refine (rsame_any wy (hdV xn) _ xn.R (newM m x) (HRN.out _ HX.out) HU.out HLEN.out).mono ?_
            rintro e wz ⟨rfl, bz⟩
            rw [HSAME.out]
            replace HX := Lib.hid (HX.out.trans (bz.mono HX.out.size))
            clear bz
            go_wp2_with fail
            refine hK.out _ _ ?_ (fun hHeld => ?_)
            · exact HSK.out _ HX.out
            clear hK K
            try go_frame
            refine tk 48 rfl (fun w hSw => by (try dsimp only at hSw); go_simp; try with_reducible rfl) ?_
            go_frame
            refine tk 49 rfl (fun w hSw => by (try dsimp only at hSw); go_simp; try with_reducible rfl) ?_
            go_frame
            refine tk 50 rfl (fun w hSw => by (try dsimp only at hSw); go_simp; try with_reducible rfl) ?_
            go_frame
            refine wpAnyH_done (by kernel_rfl) ?_ _
            have HXE := Lib.hid (HT.out.trans (HX.out.mono HT.out.size))
            clear hHeld HX HT HRN HSK HLEN HSAME
            go_wp2
            go_roundg (n - (k + 1))
            case rel => exact ⟨k + 1, by go_num, HLT.out, Nat.le_refl _, HXE⟩
            case measure => have := HLT.out; omega
        · obtain rfl : k = n := by omega
          have HBE := Lib.hid (HBW.out.trans (HT.out.mono HBW.out.size))
          clear HT
          go_wp2
          go_ret
          exact ⟨rfl, HBE.out⟩
set_option maxRecDepth 100000 in
theorem gridRows_walk {H : Type} (enc : TypeId × Value → H) (base : Nat) (W : World)
    (v0 : Value) (d0 : DataW H) (p0 : List MemPlace) (ok0 : Value.okWide Try.prog W .any base 24 v0) (k0 : DataW.Trod enc Try.prog W 0 (fun _ => true) true 24 v0 d0 p0)
    (v1 : Value) (d1 : DataW H) (p1 : List MemPlace) (ok1 : Value.okWide Try.prog W .any base 67 v1) (k1 : DataW.Trod enc Try.prog W 0 (fun _ => true) true 67 v1 d1 p1) :
    Calls Try.prog 5 #[v0, v1] W fun e w' => e = .returned (.bool true) ∧ Below W.heap.size W w' := by
  obtain ⟨cols, u, LL, rfl, hL⟩ := open_gdraft enc base W ok0 k0
  obtain ⟨s, rfl, hs⟩ := open_st enc base W ok1 k1
  by_cases h : s.what % 10 < 6
  · exact grows_lt W cols u LL s hL hs h
  · exact grows_ge W cols u LL s hL hs (by omega)
end Go.Proofs.Ytdeahnphcfcfpaa.Lab
