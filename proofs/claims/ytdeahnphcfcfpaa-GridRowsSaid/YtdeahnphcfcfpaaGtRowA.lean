/- GridRows: the walk of what is done to a place. -/
import Derived.Test.YtdeahnphcfcfpaaGtMath
import Derived.Test.YtdeahnphcfcfpaaGgWorks
import Derived.Test.YtdeahnphcfcfpaaRoSame
namespace Go.Proofs.Ytdeahnphcfcfpaa.Lab
open Go Go.RowKit

theorem gridM_len (cols : Nat) (LL : List (List Dc)) (O : List Dc) : (gridM cols LL O).length ≤ 8 := by
  have hl : (rowsD (1 + cols % 20) LL O).length = min 8 LL.length := by unfold rowsD; rw [List.length_map, List.length_take]
  have hn := gK_len (c := 1 + cols % 20) (RS := rowsD (1 + cols % 20) LL O) (n := max 1 (min 8 LL.length)) (k := min 8 LL.length) (by omega) (by omega)
  rw [gridM, hn]
  omega
set_option maxHeartbeats 16000000 in
set_option maxRecDepth 100000 in
theorem grows_lt (W : World) (cols : Nat) (lv : Value) (LL : List (List Dc)) (s : St) (hL : LnsIn W lv LL) (hs : s.ok) (he : s.what % 10 < 6) :
    Calls Try.prog 5 #[.agg #[.int .u8 (cols : Nat), lv], stV s] W fun e w' => e = .returned (.bool true) ∧ Below W.heap.size W w' := by
  have HLL := Lib.hid hL
  have HOK := Lib.hid hs
  obtain ⟨la, lc, hlv, _⟩ := hL
  obtain ⟨ll, hll⟩ : ∃ ll, ll = LL.length := ⟨_, rfl⟩
  rw [← hll] at hlv
  subst hlv
  obtain ⟨w0, hw0⟩ : ∃ X, X = (W.alloc (.cells #[.int .u8 (cols : Nat), .slice la ll lc] 24)).alloc (.cells #[.int .u8 (s.what : Nat), .int .u8 (s.row : Nat), .int .u8 (s.col : Nat), .int .u8 (s.n : Nat), .int .u8 (s.m : Nat), .int .u8 (s.cell.ru : Nat), .int .u8 (s.cell.ms : Nat), .int .u8 (s.cell.at1 : Nat), .bool s.cell.wide, .bool s.cell.high, .bool s.odd] 67) := ⟨_, rfl⟩
  obtain ⟨b2, hb2⟩ : ∃ b, b = W.heap.size := ⟨_, rfl⟩
  obtain ⟨b3, hb3⟩ : ∃ b, b = W.heap.size + 1 := ⟨_, rfl⟩
  have B0 : Below W.heap.size W w0 := by rw [hw0]; exact ((Below.refl _ _).alloc (Nat.le_refl _) _).alloc (by simp) _
  have h2 : Lie w0 b2 [.int .u8 (cols : Nat), .slice la ll lc] := by rw [hw0]; exact (Lie.new W _ _ b2 hb2).below ((Below.refl _ _).alloc (Nat.le_refl _) _)
  have h3 : Lie w0 b3 [.int .u8 (s.what : Nat), .int .u8 (s.row : Nat), .int .u8 (s.col : Nat), .int .u8 (s.n : Nat), .int .u8 (s.m : Nat), .int .u8 (s.cell.ru : Nat), .int .u8 (s.cell.ms : Nat), .int .u8 (s.cell.at1 : Nat), .bool s.cell.wide, .bool s.cell.high, .bool s.odd] := by rw [hw0]; exact Lie.new _ _ _ b3 (by rw [hb3]; simp)
  have HL2 := Lib.hid h2
  have HL := Lib.hid h3
  have HB0 := Lib.hid B0
  have HZ0 := Lib.hid (show b3 < w0.heap.size by rw [hw0, hb3]; simp)
  clear B0 h2 h3 hs hll
  go_enter Try.func5, Try.ntmps5
  go_upto_region 1 with (fail)
  rw [← hw0, ← hb3, ← hb2]
  clear hw0 hb3 hb2
  go_wp2_with fail
  refine (works_any w0).mono ?_
  rintro e w1 ⟨rfl, b1⟩
  have HB := Lib.hid b1
  have yb := HL2.out.below b1
  have z0 := yb.at 0 rfl
  have z1 := yb.at 1 rfl
  clear b1 yb
  go_wp2_with fail
  refine (rgrid_any w1 cols (.slice la ll lc) (.slice none 0 0) LL [] (HLL.out.below (HB0.out.trans (HB.out.mono HB0.out.size))) (DsIn.nil _ _ _)).mono ?_
  rintro e w2 ⟨v, rfl, hrl, b2'⟩
  have HRL := Lib.hid hrl
  replace HB := Lib.hid (HB.out.trans (b2'.mono HB.out.size))
  clear hrl b2' z0 z1 HLL HL2
  obtain ⟨G, hG⟩ : ∃ G, G = gridM cols LL [] := ⟨_, rfl⟩
  have HD := Lib.hid (gridM_good cols LL [])
  have HGL := Lib.hid (gridM_len cols LL [])
  rw [← hG] at HRL HD HGL
  obtain ⟨m, hm⟩ : ∃ m, m = 1 + cols % 20 := ⟨_, rfl⟩
  have HM5 := Lib.hid (show m ≤ 512 by omega)
  rw [← hm] at HD
  clear hG hm
  obtain ⟨va, vc, rfl⟩ := HRL.out.shape
  obtain ⟨n, hn⟩ : ∃ n, n = G.length := ⟨_, rfl⟩
  rw [← hn] at HRL ⊢
  have HN := Lib.hid hn
  clear hn
  go_wp2_with fail
  refine (of_any w2 _ m (.slice va n vc) G HRL.out HD.out ⟨by have := HGL.out; omega, HM5.out⟩).mono ?_
  rintro e w3 ⟨p, rb, c, rfl, gg, b3'⟩
  obtain ⟨lo, hlo⟩ : ∃ lo, lo = w2.heap.size := ⟨_, rfl⟩
  rw [← hlo] at gg
  have HLO := Lib.hid (show w0.heap.size ≤ lo by rw [hlo]; exact HB.out.size)
  replace HB := Lib.hid (HB.out.trans (b3'.mono HB.out.size))
  have HG3 := Lib.hid gg
  clear gg b3' hlo HRL
  go_wp2_with fail
  refine (rows_any w3 lo p rb c m G HG3.out HD.out).mono ?_
  rintro e w4 ⟨vw, Kw, rfl, gw, hkw, _, b4⟩
  obtain ⟨gwb, gwc, hvw, hgw, _⟩ := gw.here (by have h1 := congrArg List.length hkw; rw [List.length_map] at h1; have := HD.out.n0; omega)
  have hlw : Kw.length = n := by have h1 := congrArg List.length hkw; rw [List.length_map] at h1; have := HN.out; omega
  rw [hlw] at hvw
  subst hvw
  have HKW := Lib.hid gw
  have HKL := Lib.hid hlw
  have HKM := Lib.hid hkw
  have HPW := Lib.hid (show p < w3.heap.size ∧ rb < w3.heap.size from ⟨HG3.out.lt.1, HG3.out.lt.2.1⟩)
  have HGW := Lib.hid hgw
  have HG4 := Lib.hid (HG3.out.below b4)
  have HW4 := Lib.hid b4.size
  replace HB := Lib.hid (HB.out.trans (b4.mono HB.out.size))
  clear gw hkw hgw b4 HG3 hlw
  go_wp2_with fail
  refine (gsize w4 lo p rb c m G HG4.out HD.out).mono ?_
  rintro e w5 ⟨rfl, b5⟩
  rw [← HN.out]
  have HG5 := Lib.hid (HG4.out.below b5)
  have HKW5 := Lib.hid (HKW.out.below b5)
  replace HB := Lib.hid (HB.out.trans (b5.mono HB.out.size))
  clear b5 HG4 HKW
  obtain ⟨e10, he10⟩ : ∃ e, e = s.what % 10 := ⟨_, rfl⟩
  have r1 : Int.tmod (s.what : Int) 10 = (e10 : Int) := by rw [he10]; rfl
  have r1' : (s.what : Int) % 10 = (e10 : Int) := by omega
  have u1 : IntKind.u8.wrap (e10 : Int) = (e10 : Int) := by rw [IntKind.wrap_u8]; omega
  have h6 : (e10 : Int) < 6 := by omega
  have HE6 := Lib.hid he
  clear he10 he
  have yb := HL.out.below HB.out
  have y0 := yb.at 0 rfl
  have y1 := yb.at 1 rfl
  have y2 := yb.at 2 rfl
  have y3 := yb.at 3 rfl
  have y4 := yb.at 4 rfl
  have y5 := yb.at 5 rfl
  have y6 := yb.at 6 rfl
  have y7 := yb.at 7 rfl
  have y8 := yb.at 8 rfl
  have y9 := yb.at 9 rfl
  have y10 := yb.at 10 rfl
  clear yb
  have hlo5 : lo ≤ w5.heap.size := Nat.le_of_lt (Nat.lt_of_le_of_lt HG5.out.lt.2.2.2 HG5.out.lt.1)
  have HN0 := Lib.hid (show 0 < n by have := HD.out.n0; have := HN.out; omega)
  have HN6 := Lib.hid (show n ≤ 600 by have := HGL.out; have := HN.out; omega)
  have HD5 := Lib.hid (show DoesS w5 lo p rb m G s from does_any w5 lo p rb c m G s HOK.out HG5.out HD.out hlo5)
  clear hlo5
  go_wp2_with fail
  refine (show Calls _ _ _ _ _ from HD5.out).mono ?_
  rintro e w6 ⟨v, rfl, _, _, ⟨rb6, c6, gg, _⟩, bt⟩
  obtain ⟨G6, hG6⟩ : ∃ G', G' = doesG s m G := ⟨_, rfl⟩
  have hsz := does_size (G := G) (m := m) s (by have := HE6.out; omega)
  have HD6 := Lib.hid (show Good G6 m by have := does_good s HD.out; rw [hsz.2] at this; rw [hG6]; exact this)
  have HL6 := Lib.hid (show G6.length = n by rw [hG6, hsz.1, HN.out])
  have HR6 := Lib.hid (show ∀ k : Nat, (k : Int) ≠ actR s n → rowG G6 k = rowG G k from fun k hk => by
    rw [hG6, doesG_lt HE6.out]
    rw [HN.out] at hk
    exact act_other hk)
  rw [← hG6] at gg
  have HG6 := Lib.hid gg
  have HKW6 := Lib.hid (HKW5.out.buts bt (by have := HPW.out; have := HGW.out; omega) (fun x hx => by have h1 := (HKW5.out.2.lt hx).1; have := HPW.out; omega))
  replace HB := Lib.hid (show Below w0.heap.size w0 w6 from HB.out.trans (bt.below (C := w0.heap.size) (fun i hi => by have h1 := HG5.out.lt; have h2 := HLO.out; rcases hi with rfl | rfl <;> omega) HB.out.size))
  clear y0 y1 y2 y3 y4 y5 y6 y7 y8 y9 y10
  clear gg bt hG6 hsz HD5 HG5 HKW5
  have yb := HL.out.below HB.out
  have y0 := yb.at 0 rfl
  have y1 := yb.at 1 rfl
  have y2 := yb.at 2 rfl
  have y3 := yb.at 3 rfl
  have y4 := yb.at 4 rfl
  have y5 := yb.at 5 rfl
  have y6 := yb.at 6 rfl
  have y7 := yb.at 7 rfl
  have y8 := yb.at 8 rfl
  have y9 := yb.at 9 rfl
  have y10 := yb.at 10 rfl
  clear yb
  obtain ⟨k6, hk6⟩ : ∃ k : Int, k = ((s.what % 6 : Nat) : Int) := ⟨_, rfl⟩
  obtain ⟨ar, har⟩ : ∃ a, a = actR s n := ⟨_, rfl⟩
  obtain ⟨ac, hac⟩ : ∃ a, a = actC s m := ⟨_, rfl⟩
  obtain ⟨an, han⟩ : ∃ a, a = actN s := ⟨_, rfl⟩
  obtain ⟨x, hx⟩ : ∃ a, a = actX s := ⟨_, rfl⟩
  have HAV := Lib.hid (show actV s n m = .agg #[.int .i64 k6, .int .i64 ar, .int .i64 ac, .int .i64 an, .int .i32 x.ru, .int .i32 x.m0, .int .i32 x.m1, .int .u8 x.k, .int .u8 x.a.fg.k, .int .u8 x.a.fg.r, .int .u8 x.a.fg.g, .int .u8 x.a.fg.b, .int .u8 x.a.bg.k, .int .u8 x.a.bg.r, .int .u8 x.a.bg.g, .int .u8 x.a.bg.b, .int .u16 (x.a.fl : Nat), .int .u8 x.l, .int .i32 769] by rw [hk6, har, hac, han, hx]; unfold actV actA; rfl)
  rw [← har] at HR6
  clear hk6 har hac han hx
  go_wp2_with fail
  refine (sact_any w6 s n m HOK.out HN0.out HN6.out HD.out.m0 (by have := HM5.out; omega)).mono ?_
  rintro e w7 ⟨rfl, b7⟩
  rw [HAV.out]
  have hfd : ∀ W : World, (Instr.field 71 (.agg #[.int .i64 k6, .int .i64 ar, .int .i64 ac, .int .i64 an, .int .i32 x.ru, .int .i32 x.m0, .int .i32 x.m1, .int .u8 x.k, .int .u8 x.a.fg.k, .int .u8 x.a.fg.r, .int .u8 x.a.fg.g, .int .u8 x.a.fg.b, .int .u8 x.a.bg.k, .int .u8 x.a.bg.r, .int .u8 x.a.bg.g, .int .u8 x.a.bg.b, .int .u16 (x.a.fl : Nat), .int .u8 x.l, .int .i32 769]) 1).run Try.prog W = .ok (.agg #[.int .i64 ar, .int .i64 ac]) W := fun _ => by kernel_rfl
  obtain ⟨w8, hw8⟩ : ∃ X, X = w7.alloc (.cells #[.int .i64 ar, .int .i64 ac] 48) := ⟨_, rfl⟩
  obtain ⟨b9, hb9⟩ : ∃ b, b = w7.heap.size := ⟨_, rfl⟩
  have h9 : Lie w8 b9 [.int .i64 ar, .int .i64 ac] := by rw [hw8]; exact Lie.new w7 _ _ b9 hb9
  have b8 : Below w6.heap.size w6 w8 := by rw [hw8]; exact b7.alloc b7.size _
  have H9 := Lib.hid h9
  have HG8 := Lib.hid (HG6.out.below b8)
  have HKW8 := Lib.hid (HKW6.out.below b8)
  replace HB := Lib.hid (HB.out.trans (b8.mono HB.out.size))
  clear y0 y1 y2 y3 y4 y5 y6 y7 y8 y9 y10
  clear b7 b8 h9 HG6 HKW6
  go_upto_region 9 with (fail)
  rw [← hw8, ← hb9]
  clear hw8 hb9 hfd
  go_wp2_with fail
  refine (rows_any w8 lo p rb6 c6 m G6 HG8.out HD6.out).mono ?_
  rintro e w9 ⟨vn, Kn, rfl, gn, hkn, _, b10⟩
  have hln : Kn.length = n := by have h1 := congrArg List.length hkn; rw [List.length_map] at h1; have := HL6.out; omega
  obtain ⟨gnb, gnc, hvn, _, _⟩ := gn.here (by have := HN0.out; omega)
  rw [hln] at hvn
  subst hvn
  have HKN := Lib.hid gn
  have HKNL := Lib.hid hln
  have HKNM := Lib.hid hkn
  have HKW9 := Lib.hid (HKW8.out.below b10)
  have H99 := Lib.hid (H9.out.below b10)
  replace HB := Lib.hid (HB.out.trans (b10.mono HB.out.size))
  have HT0 := Lib.hid (show Below w9.heap.size w9 w9 from Below.refl _ _)
  have hn5 : n ≤ 600 := HN6.out
  clear gn hkn b10 hln HKW8 H9 HG8
  go_wp2
  go_loopg [11] n (fun Gs i wr => ∃ (k : Nat), i = .int .i64 k ∧ k ≤ n ∧ n - k ≤ Gs ∧ Hid (Below w9.heap.size w9 wr))
  case atStart => exact ⟨0, rfl, Nat.zero_le _, Nat.sub_le _ _, HT0⟩
  case round =>
    obtain ⟨k, rfl, hkn, hgk, HT⟩ := hrel
    clear HT0
    by_cases hlt : k < n
    · have HLT := Lib.hid (show k + 1 ≤ n from hlt)
      have hk1 : k < Kn.length := by have := HKNL.out; omega
      have hk2 : k < Kw.length := by have := HKL.out; omega
      obtain ⟨xn, hxn⟩ : ∃ x, x = Kn[k] := ⟨_, rfl⟩
      obtain ⟨xw, hxw⟩ : ∃ x, x = Kw[k] := ⟨_, rfl⟩
      have hrn : xn.R = rowG G6 k := by rw [hxn, ← hdAt_eq hk1, rowG_hd, HKNM.out]
      have hrw : xw.R = rowG G k := by rw [hxw, ← hdAt_eq hk2, rowG_hd, HKM.out]
      have HRN := Lib.hid (show ∀ W, Below wr.heap.size wr W → RowIn W (hdV xn) xn.R from fun W kb => by rw [hxn]; exact (((HKN.out.below HT.out).below kb).row hk1).row)
      have HRW := Lib.hid (show ∀ W, Below wr.heap.size wr W → RowIn W (hdV xw) xw.R from fun W kb => by rw [hxw]; exact (((HKW9.out.below HT.out).below kb).row hk2).row)
      have HSK := Lib.hid (show ∀ W, Below wr.heap.size wr W → (fun wx => wx.cell? ⟨b9, 0, none⟩ = some (.int .i64 ar) ∧ wx.cell? ⟨gnb, k, none⟩ = some (hdV xn) ∧ wx.cell? ⟨gwb, k, none⟩ = some (hdV xw)) W from fun W kb => by
        refine ⟨((H99.out.below HT.out).below kb).at 0 rfl, ?_, ?_⟩
        · rw [hxn]; exact ((HKN.out.below HT.out).below kb).at hk1
        · rw [hxw]; exact ((HKW9.out.below HT.out).below kb).at hk2)
      have HLEN := Lib.hid (show xn.R.length ≤ 10000 by rw [hrn]; have := (HD6.out.len (i := k) (by have := HL6.out; omega)).2.1; have := HM5.out; omega)
      have HSAME := Lib.hid (show (k : Int) ≠ ar → decide (xn.R = xw.R) = true from fun hne => decide_eq_true (by rw [hrn, hrw]; exact HR6.out k hne))
      clear hxn hxw hrn hrw hk1 hk2
      by_cases hkr : (k : Int) = ar
      · subst hkr
        have hne : ((k : Int) != (k : Int)) = false := by simp
        go_upto_region 13 with (fail)
        refine wp_region_held_drew (S := fun wx => wx.cell? ⟨b9, 0, none⟩ = some (.int .i64 (k : Nat)) ∧ wx.cell? ⟨gnb, k, none⟩ = some (hdV xn) ∧ wx.cell? ⟨gwb, k, none⟩ = some (hdV xw)) (by kernel_rfl) ?_ (fun hHeld => ?_)
        · exact HSK.out _ ((Below.refl _ _).drew)
        obtain ⟨wd, hwd⟩ : ∃ X, X = wr.drew := ⟨_, rfl⟩
        have HX := Lib.hid (show Below wr.heap.size wr wd by rw [hwd]; exact (Below.refl _ _).drew)
        replace hHeld := HSK.out _ HX.out
        rw [← hwd]
        clear hwd
        refine tk 0 rfl (fun w hSw => by (try dsimp only at hSw); go_simp; try with_reducible rfl) ?_
        go_frame
        refine tk 1 rfl (fun w hSw => by (try dsimp only at hSw); go_simp; try with_reducible rfl) ?_
        go_frame
        refine tk 2 rfl (fun w hSw => by (try dsimp only at hSw); go_simp; try with_reducible rfl) ?_
        go_frame
        refine tk 3 rfl (fun w hSw => by (try dsimp only at hSw); go_simp; try with_reducible rfl) ?_
        go_frame
        refine tk 4 rfl (fun w hSw => by (try dsimp only at hSw); go_simp; try with_reducible rfl) ?_
        go_frame
        refine sk 5 rfl ?_
        go_frame
        refine sk 6 rfl ?_
        go_frame
        refine sk 7 rfl ?_
        go_frame
        refine sk 8 rfl ?_
        go_frame
        refine sk 9 rfl ?_
        go_frame
        refine sk 10 rfl ?_
        go_frame
        refine sk 11 rfl ?_
        go_frame
        refine sk 12 rfl ?_
        go_frame
        refine sk 13 rfl ?_
        go_frame
        refine sk 14 rfl ?_
        go_frame
        refine tk 15 rfl (fun w hSw => by (try dsimp only at hSw); go_simp; try with_reducible rfl) ?_
        go_frame
        refine wpAnyH_done (by kernel_rfl) ?_ _
        have HXE := Lib.hid (HT.out.trans (HX.out.mono HT.out.size))
        clear hHeld HX HT HRN HRW HSK HLEN HSAME
        go_wp2
        go_roundg (n - (k + 1))
        case rel => exact ⟨k + 1, by go_num, HLT.out, Nat.le_refl _, HXE⟩
        case measure => have := HLT.out; omega
      · have hne : ((k : Int) != ar) = true := by simp [hkr]
        replace HSAME := Lib.hid (HSAME.out hkr)
        go_upto_region 13 with (fail)
        refine wp_region_held_drew (S := fun wx => wx.cell? ⟨b9, 0, none⟩ = some (.int .i64 ar) ∧ wx.cell? ⟨gnb, k, none⟩ = some (hdV xn) ∧ wx.cell? ⟨gwb, k, none⟩ = some (hdV xw)) (by kernel_rfl) ?_ (fun hHeld => ?_)
        · exact HSK.out _ ((Below.refl _ _).drew)
        obtain ⟨wd, hwd⟩ : ∃ X, X = wr.drew := ⟨_, rfl⟩
        have HX := Lib.hid (show Below wr.heap.size wr wd by rw [hwd]; exact (Below.refl _ _).drew)
        replace hHeld := HSK.out _ HX.out
        rw [← hwd]
        clear hwd
        refine tk 0 rfl (fun w hSw => by (try dsimp only at hSw); go_simp; try with_reducible rfl) ?_
        go_frame
        refine tk 1 rfl (fun w hSw => by (try dsimp only at hSw); go_simp; try with_reducible rfl) ?_
        go_frame
        refine tk 2 rfl (fun w hSw => by (try dsimp only at hSw); go_simp; try with_reducible rfl) ?_
        go_frame
        refine tk 3 rfl (fun w hSw => by (try dsimp only at hSw); go_simp; try with_reducible rfl) ?_
        go_frame
        refine tk 4 rfl (fun w hSw => by (try dsimp only at hSw); go_simp; try with_reducible rfl) ?_
        go_frame
        refine tk 5 rfl (fun w hSw => by (try dsimp only at hSw); go_simp; try with_reducible rfl) ?_
        go_frame
        refine tk 6 rfl (fun w hSw => by (try dsimp only at hSw); go_simp; try with_reducible rfl) ?_
        go_frame
        refine tk 7 rfl (fun w hSw => by (try dsimp only at hSw); go_simp; try with_reducible rfl) ?_
        go_frame
        refine tk 8 rfl (fun w hSw => by (try dsimp only at hSw); go_simp; try with_reducible rfl) ?_
        go_frame
        refine tk 9 rfl (fun w hSw => by (try dsimp only at hSw); go_simp; try with_reducible rfl) ?_
        go_frame
        refine tk 10 rfl (fun w hSw => by (try dsimp only at hSw); go_simp; try with_reducible rfl) ?_
        go_frame
        refine tk 11 rfl (fun w hSw => by (try dsimp only at hSw); go_simp; try with_reducible rfl) ?_
        go_frame
        refine tk 12 rfl (fun w hSw => by (try dsimp only at hSw); go_simp; try with_reducible rfl) ?_
        go_frame
        refine do_at (i := 13) rfl (by kernel_rfl) (by kernel_rfl) (fun K hK => ?_)
        go_simp
        refine (rsame_any wd (hdV xn) (hdV xw) xn.R xw.R (HRN.out _ HX.out) (HRW.out _ HX.out) HLEN.out).mono ?_
        rintro e wz ⟨rfl, bz⟩
        rw [HSAME.out]
        replace HX := Lib.hid (HX.out.trans (bz.mono HX.out.size))
        clear bz
        go_wp2_with fail
        refine hK.out _ _ ?_ (fun hHeld => ?_)
        · exact HSK.out _ HX.out
        clear hK K
        try go_frame
        refine tk 14 rfl (fun w hSw => by (try dsimp only at hSw); go_simp; try with_reducible rfl) ?_
        go_frame
        refine tk 15 rfl (fun w hSw => by (try dsimp only at hSw); go_simp; try with_reducible rfl) ?_
        go_frame
        refine wpAnyH_done (by kernel_rfl) ?_ _
        have HXE := Lib.hid (HT.out.trans (HX.out.mono HT.out.size))
        clear hHeld HX HT HRN HRW HSK HLEN HSAME
        go_wp2
        go_roundg (n - (k + 1))
        case rel => exact ⟨k + 1, by go_num, HLT.out, Nat.le_refl _, HXE⟩
        case measure => have := HLT.out; omega
    · obtain rfl : k = n := by omega
      have HBE := Lib.hid (HB0.out.trans ((HB.out.trans (HT.out.mono HB.out.size)).mono HB0.out.size))
      clear HT
      go_wp2
      go_ret
      exact ⟨rfl, HBE.out⟩
end Go.Proofs.Ytdeahnphcfcfpaa.Lab
