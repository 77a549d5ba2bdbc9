/- RectMoves. -/
import Derived.Test.YtlaafmjiiiaceaaDoorRcWorks
import Derived.Test.YtlaafmjiiiaceaaDoorRcGrid
import Derived.Test.YtlaafmjiiiaceaaDoorRcAct
import Derived.Test.YtlaafmjiiiaceaaDoorRcTold
import Derived.Test.YtlaafmjiiiaceaaDoorRcSame
import Derived.Test.YtlaafmjiiiaceaaDoorRcOpen
import Derived.Test.YtlaafmjiiiaceaaDoorWiLaid
set_option linter.unusedVariables false
namespace Go.Proofs.YtlaafmjiiiaceaaDoor.Lab
open Go Go.RowKit

theorem fill_one {w : World} {v : Value} {G : List Cls} {U : Nat → Value} {m : Nat} {k : Rk} {b : Cel} (h : GSee w v G U) (hg : GG G m) (hk : k.In G.length m) (hT : Tabs w) (ho : ofI b.ru = 1) : Calls Tryd.prog 23 #[v, rkV k, celV b] w (Makes12 w (fillG G k b)) := by
  have := fill12_any w v G U m k.r4 b h hg (hk.ok (by have := hg.n1; omega) (by have := hg.m1; omega)) hT
  rw [if_pos ho, clip_self hk] at this
  exact this
theorem copy_own {w : World} {v : Value} {G : List Cls} {U : Nat → Value} {m : Nat} {k : Rk} (h : GSee w v G U) (hg : GG G m) (hk : k.In G.length m) : Calls Tryd.prog 19 #[v, rkV k, .agg #[.int .i64 (k.t : Nat), .int .i64 (k.l : Nat)]] w (Makes12 w (brkG G k)) := by
  have ho := hk.ok (by have := hg.n1; omega) (by have := hg.m1; omega)
  have := copy12_any w v G U m k.r4 (k.t : Nat) (k.l : Nat) h hg ho ho.t ho.l
  rw [copyR_self hg hk] at this
  exact this
theorem len_copyR (G : List Cls) (m : Nat) (r : R4) (tr tc : Int) : (copyR G m r tr tc).length = G.length := by
  unfold copyR
  split
  · exact len_layG _ _ _
  · rfl
theorem drawn_is : ∀ d : Nat, d < 256 → ofI (((97 + d % 26 : Nat) : Int)) = 1 := by
  have : ∀ j : Fin 26, ofI (((97 + j.val : Nat) : Int)) = 1 := by decide +kernel
  intro d _
  exact this ⟨d % 26, Nat.mod_lt _ (by decide)⟩
theorem celD_one {d : Dc} (h : d.ok) : ofI (celD d).ru = 1 := drawn_is d.ru h.1
theorem celD_l (d : Dc) : (celD d).l = 0 ∨ (celD d).l = 1 := by unfold celD; cases d.high <;> simp
set_option maxHeartbeats 16000000 in
set_option maxRecDepth 100000 in
theorem moves_core (W : World) (cols : Nat) (u : Value) (LL : List (List Dc)) (a : Ac) (hc : cols < 256) (hL : LnsIn W u LL) (ha : a.ok) (hT : Tabs W) :
    Calls Tryd.prog 6 #[.agg #[.int .u8 (cols : Nat), u], acV a] W fun e w' => e = .returned (.bool true) ∧ Below W.heap.size W w' := by
  obtain ⟨la, lc, eu⟩ := hL.shape
  obtain ⟨ln, hln⟩ : ∃ n, n = LL.length := ⟨_, rfl⟩
  rw [← hln] at eu
  subst eu
  obtain ⟨b2, hb2⟩ : ∃ b, b = W.heap.size := ⟨_, rfl⟩
  obtain ⟨b3, hb3⟩ : ∃ b, b = W.heap.size + 1 := ⟨_, rfl⟩
  obtain ⟨w0, hw0⟩ : ∃ x, x = (W.alloc (.cells #[.int .u8 (cols : Nat), .slice la ln lc] 24)).alloc (.cells #[.int .u8 (a.what : Nat), .int .i64 a.r.t, .int .i64 a.r.l, .int .i64 a.r.n, .int .i64 a.r.c, .int .i64 a.p, .int .i64 a.q, .int .u8 (a.d.ru : Nat), .int .u8 (a.d.ms : Nat), .int .u8 (a.d.at1 : Nat), .bool a.d.wide, .bool a.d.high, .int .u8 (a.ru : Nat)] 36) := ⟨_, rfl⟩
  have HB := Lib.hid (show Below W.heap.size W w0 by rw [hw0]; exact ((Below.refl _ _).alloc (Nat.le_refl _) _).alloc (by simp) _)
  have H2 := Lib.hid (show Lie w0 b2 [.int .u8 (cols : Nat), .slice la ln lc] by rw [hw0]; exact (Lie.new W _ _ b2 hb2).below ((Below.refl _ _).alloc (Nat.le_refl _) _))
  have H3 := Lib.hid (show Lie w0 b3 (cells13 a) by rw [hw0]; exact Lie.new _ _ _ b3 (by rw [hb3]; simp))
  have HT := Lib.hid (hT.below HB.out)
  have HLN := Lib.hid (hL.below HB.out)
  have HC := Lib.hid hc
  have HA := Lib.hid ha
  clear hc ha hT hL hln
  go_enter Tryd.func6, Tryd.ntmps6
  go_upto_region 1 with (fail)
  rw [← hw0, ← hb3, ← hb2]
  clear hw0 hb2 hb3
  go_wp2_with fail
  refine (works_any w0 HT.out).mono ?_
  rintro e w1 ⟨rfl, b1⟩
  replace H2 := Lib.hid (H2.out.below b1)
  replace H3 := Lib.hid (H3.out.below b1)
  replace HT := Lib.hid (HT.out.below b1)
  replace HLN := Lib.hid (HLN.out.below b1)
  replace HB := Lib.hid (HB.out.trans (b1.mono HB.out.size))
  clear b1
  have d0 := H2.out.at 0 rfl
  have d1 := H2.out.at 1 rfl
  go_wp2_with fail
  refine (rgrid12_any w1 cols _ LL HC.out HLN.out).mono ?_
  rintro e w2 ⟨gv, U, rfl, hG, b1⟩
  have HG := Lib.hid hG
  clear hG d0 d1
  replace H2 := Lib.hid (H2.out.below b1)
  replace H3 := Lib.hid (H3.out.below b1)
  replace HT := Lib.hid (HT.out.below b1)
  replace HLN := Lib.hid (HLN.out.below b1)
  replace HB := Lib.hid (HB.out.trans (b1.mono HB.out.size))
  clear b1
  clear H2 HLN
  have HGG := Lib.hid (rowsM_good cols LL)
  obtain ⟨m, hm⟩ : ∃ m, m = cols % 31 := ⟨_, rfl⟩
  rw [← hm] at HGG
  obtain ⟨G, hGd⟩ : ∃ G, G = rowsM cols LL := ⟨_, rfl⟩
  rw [← hGd] at HG HGG
  have HM := Lib.hid (show m < 31 by omega)
  have HR8 := Lib.hid (show G.length ≤ 8 by rw [hGd, rowsM_len]; omega)
  clear hm hGd HC
  obtain ⟨ga, gc', hgv⟩ := HG.out.shape
  obtain ⟨rows, hrows⟩ : ∃ n, n = G.length := ⟨_, rfl⟩
  have HRW := Lib.hid hrows
  rw [← hrows] at hgv
  rw [← hrows] at HR8
  subst hgv
  clear hrows
  by_cases hr0 : rows = 0
  · have hq0 : ((rows : Int) == 0) = true := by simp; omega
    clear hr0
    have KEEP := Lib.hid (show ∀ W', Below w2.heap.size w2 W' → (fun wx => wx.cell? ⟨b3, 0, none⟩ = some (.int .u8 (a.what : Nat)) ∧ wx.cell? ⟨b3, 1, none⟩ = some (.int .i64 a.r.t) ∧ wx.cell? ⟨b3, 2, none⟩ = some (.int .i64 a.r.l) ∧ wx.cell? ⟨b3, 3, none⟩ = some (.int .i64 a.r.n) ∧ wx.cell? ⟨b3, 4, none⟩ = some (.int .i64 a.r.c) ∧ wx.cell? ⟨b3, 5, none⟩ = some (.int .i64 a.p) ∧ wx.cell? ⟨b3, 6, none⟩ = some (.int .i64 a.q) ∧ wx.cell? ⟨b3, 7, none⟩ = some (.int .u8 (a.d.ru : Nat)) ∧ wx.cell? ⟨b3, 8, none⟩ = some (.int .u8 (a.d.ms : Nat)) ∧ wx.cell? ⟨b3, 9, none⟩ = some (.int .u8 (a.d.at1 : Nat)) ∧ wx.cell? ⟨b3, 10, none⟩ = some (.bool a.d.wide) ∧ wx.cell? ⟨b3, 11, none⟩ = some (.bool a.d.high) ∧ wx.cell? ⟨b3, 12, none⟩ = some (.int .u8 (a.ru : Nat))) W' from fun W' kb => by
      have h := H3.out.below kb
      exact ⟨h.at 0 rfl, h.at 1 rfl, h.at 2 rfl, h.at 3 rfl, h.at 4 rfl, h.at 5 rfl, h.at 6 rfl, h.at 7 rfl, h.at 8 rfl, h.at 9 rfl, h.at 10 rfl, h.at 11 rfl, h.at 12 rfl⟩)
    have C1 := Lib.hid (fun W => rect1_any W a HA.out)
    have C3 := Lib.hid (fun W => to_any W a HA.out)
    clear H3 HT
    go_wp2_with fail
    refine wp_region_held_drew (S := (fun wx => wx.cell? ⟨b3, 0, none⟩ = some (.int .u8 (a.what : Nat)) ∧ wx.cell? ⟨b3, 1, none⟩ = some (.int .i64 a.r.t) ∧ wx.cell? ⟨b3, 2, none⟩ = some (.int .i64 a.r.l) ∧ wx.cell? ⟨b3, 3, none⟩ = some (.int .i64 a.r.n) ∧ wx.cell? ⟨b3, 4, none⟩ = some (.int .i64 a.r.c) ∧ wx.cell? ⟨b3, 5, none⟩ = some (.int .i64 a.p) ∧ wx.cell? ⟨b3, 6, none⟩ = some (.int .i64 a.q) ∧ wx.cell? ⟨b3, 7, none⟩ = some (.int .u8 (a.d.ru : Nat)) ∧ wx.cell? ⟨b3, 8, none⟩ = some (.int .u8 (a.d.ms : Nat)) ∧ wx.cell? ⟨b3, 9, none⟩ = some (.int .u8 (a.d.at1 : Nat)) ∧ wx.cell? ⟨b3, 10, none⟩ = some (.bool a.d.wide) ∧ wx.cell? ⟨b3, 11, none⟩ = some (.bool a.d.high) ∧ wx.cell? ⟨b3, 12, none⟩ = some (.int .u8 (a.ru : Nat)))) (by kernel_rfl) ?_ (fun hHeld => ?_)
    · exact KEEP.out _ ((Below.refl _ _).drew)
    obtain ⟨wd, hwd⟩ : ∃ X, X = w2.drew := ⟨_, rfl⟩
    have HX := Lib.hid (show Below w2.heap.size w2 wd by rw [hwd]; exact (Below.refl _ _).drew)
    replace hHeld := KEEP.out _ HX.out
    rw [← hwd]
    clear hwd
    replace HG := Lib.hid (HG.out.below HX.out)
    replace HB := Lib.hid (HB.out.trans (HX.out.mono HB.out.size))
    refine tk 0 rfl (fun w hSw => by (try dsimp only at hSw); go_simp; try with_reducible rfl) ?_
    go_frame
    refine tk 1 rfl (fun w hSw => by (try dsimp only at hSw); go_simp; try with_reducible rfl) ?_
    go_frame
    refine tk 3 rfl (fun w hSw => by (try dsimp only at hSw); go_simp; try with_reducible rfl) ?_
    go_frame
    refine tk 7 rfl (fun w hSw => by (try dsimp only at hSw); go_simp; try with_reducible rfl) ?_
    go_frame
    refine tk 8 rfl (fun w hSw => by (try dsimp only at hSw); go_simp; try with_reducible rfl) ?_
    go_frame
    refine do_at (i := 2) rfl (by kernel_rfl) (by kernel_rfl) (fun K hK => ?_)
    go_simp
    refine (C1.out _).mono ?_
    rintro e w4 ⟨rfl, b1⟩
    replace HX := Lib.hid (HX.out.trans (b1.mono HX.out.size))
    replace HG := Lib.hid (HG.out.below b1)
    replace HB := Lib.hid (HB.out.trans (b1.mono HB.out.size))
    clear b1
    go_wp2_with fail
    refine hK.out _ _ ?_ (fun hHeld => ?_)
    · exact KEEP.out _ HX.out
    clear hK K
    try go_frame
    refine do_at (i := 4) rfl (by kernel_rfl) (by kernel_rfl) (fun K hK => ?_)
    go_simp
    refine (C3.out _).mono ?_
    rintro e w5 ⟨rfl, b1⟩
    replace HX := Lib.hid (HX.out.trans (b1.mono HX.out.size))
    replace HG := Lib.hid (HG.out.below b1)
    replace HB := Lib.hid (HB.out.trans (b1.mono HB.out.size))
    clear b1
    go_wp2_with fail
    refine hK.out _ _ ?_ (fun hHeld => ?_)
    · exact KEEP.out _ HX.out
    clear hK K
    try go_frame
    refine do_at (i := 5) rfl (by kernel_rfl) (by kernel_rfl) (fun K hK => ?_)
    go_simp
    refine (copy12_any w5 _ G U m (rectM a) (smallM a.p) (smallM a.q) HG.out HGG.out (rectM_ok HA.out) (small_ok HA.out.p) (small_ok HA.out.q)).mono ?_
    rintro e w6 ⟨v6, U6, rfl, g6, b1⟩
    obtain ⟨va, vc, hv6⟩ := g6.shape
    rw [len_copyR, ← HRW.out] at hv6
    subst hv6
    clear g6
    replace HX := Lib.hid (HX.out.trans (b1.mono HX.out.size))
    replace HG := Lib.hid (HG.out.below b1)
    replace HB := Lib.hid (HB.out.trans (b1.mono HB.out.size))
    clear b1
    go_wp2_with fail
    refine hK.out _ _ ?_ (fun hHeld => ?_)
    · exact KEEP.out _ HX.out
    clear hK K
    try go_frame
    refine tk 6 rfl (fun w hSw => by (try dsimp only at hSw); go_simp; try with_reducible rfl) ?_
    go_frame
    refine tk 9 rfl (fun w hSw => by (try dsimp only at hSw); go_simp; try with_reducible rfl) ?_
    go_frame
    refine tk 10 rfl (fun w hSw => by (try dsimp only at hSw); go_simp; try with_reducible rfl) ?_
    go_frame
    refine wpAnyH_done (by kernel_rfl) ?_ _
    clear hHeld
    go_wp2
    go_ret
    exact ⟨rfl, HB.out⟩
  have HR0 := Lib.hid (show 0 < rows by omega)
  obtain ⟨g, o, cp, e, hcap, hgs, hcell⟩ := HG.out.open (by rw [← HRW.out]; omega)
  injection e with e1 e2 e3
  subst e1 e3
  clear e2
  have h0 := hcell 0 (by rw [← HRW.out]; omega)
  rw [Nat.add_zero] at h0
  obtain ⟨xa, xc, ex⟩ := (HG.out.row (i := 0) (by rw [← HRW.out]; omega)).shape
  rw [(HGG.out.at (i := 0) (by rw [← HRW.out]; omega)).2.1] at ex
  rw [ex] at h0
  have hq0 : ((rows : Int) == 0) = false := by simp; omega
  have HK0 := Lib.hid (show ∀ W', Below w2.heap.size w2 W' → W'.cell? ⟨g, o, none⟩ = some (.slice xa m xc) from fun W' kb => (kb.cell (p := ⟨g, o, none⟩) hgs).trans h0)
  clear hcell hcap hgs ex hr0
  by_cases hm0 : m = 0
  · have hq1 : ((m : Int) == 0) = true := by simp; omega
    clear hm0 HK0
    have KEEP := Lib.hid (show ∀ W', Below w2.heap.size w2 W' → (fun wx => wx.cell? ⟨b3, 0, none⟩ = some (.int .u8 (a.what : Nat)) ∧ wx.cell? ⟨b3, 1, none⟩ = some (.int .i64 a.r.t) ∧ wx.cell? ⟨b3, 2, none⟩ = some (.int .i64 a.r.l) ∧ wx.cell? ⟨b3, 3, none⟩ = some (.int .i64 a.r.n) ∧ wx.cell? ⟨b3, 4, none⟩ = some (.int .i64 a.r.c) ∧ wx.cell? ⟨b3, 5, none⟩ = some (.int .i64 a.p) ∧ wx.cell? ⟨b3, 6, none⟩ = some (.int .i64 a.q) ∧ wx.cell? ⟨b3, 7, none⟩ = some (.int .u8 (a.d.ru : Nat)) ∧ wx.cell? ⟨b3, 8, none⟩ = some (.int .u8 (a.d.ms : Nat)) ∧ wx.cell? ⟨b3, 9, none⟩ = some (.int .u8 (a.d.at1 : Nat)) ∧ wx.cell? ⟨b3, 10, none⟩ = some (.bool a.d.wide) ∧ wx.cell? ⟨b3, 11, none⟩ = some (.bool a.d.high) ∧ wx.cell? ⟨b3, 12, none⟩ = some (.int .u8 (a.ru : Nat))) W' from fun W' kb => by
      have h := H3.out.below kb
      exact ⟨h.at 0 rfl, h.at 1 rfl, h.at 2 rfl, h.at 3 rfl, h.at 4 rfl, h.at 5 rfl, h.at 6 rfl, h.at 7 rfl, h.at 8 rfl, h.at 9 rfl, h.at 10 rfl, h.at 11 rfl, h.at 12 rfl⟩)
    have C1 := Lib.hid (fun W => rect1_any W a HA.out)
    have C3 := Lib.hid (fun W => to_any W a HA.out)
    clear H3 HT
    go_wp2_with fail
    refine wp_region_held_drew (S := (fun wx => wx.cell? ⟨b3, 0, none⟩ = some (.int .u8 (a.what : Nat)) ∧ wx.cell? ⟨b3, 1, none⟩ = some (.int .i64 a.r.t) ∧ wx.cell? ⟨b3, 2, none⟩ = some (.int .i64 a.r.l) ∧ wx.cell? ⟨b3, 3, none⟩ = some (.int .i64 a.r.n) ∧ wx.cell? ⟨b3, 4, none⟩ = some (.int .i64 a.r.c) ∧ wx.cell? ⟨b3, 5, none⟩ = some (.int .i64 a.p) ∧ wx.cell? ⟨b3, 6, none⟩ = some (.int .i64 a.q) ∧ wx.cell? ⟨b3, 7, none⟩ = some (.int .u8 (a.d.ru : Nat)) ∧ wx.cell? ⟨b3, 8, none⟩ = some (.int .u8 (a.d.ms : Nat)) ∧ wx.cell? ⟨b3, 9, none⟩ = some (.int .u8 (a.d.at1 : Nat)) ∧ wx.cell? ⟨b3, 10, none⟩ = some (.bool a.d.wide) ∧ wx.cell? ⟨b3, 11, none⟩ = some (.bool a.d.high) ∧ wx.cell? ⟨b3, 12, none⟩ = some (.int .u8 (a.ru : Nat)))) (by kernel_rfl) ?_ (fun hHeld => ?_)
    · exact KEEP.out _ ((Below.refl _ _).drew)
    obtain ⟨wd, hwd⟩ : ∃ X, X = w2.drew := ⟨_, rfl⟩
    have HX := Lib.hid (show Below w2.heap.size w2 wd by rw [hwd]; exact (Below.refl _ _).drew)
    replace hHeld := KEEP.out _ HX.out
    rw [← hwd]
    clear hwd
    replace HG := Lib.hid (HG.out.below HX.out)
    replace HB := Lib.hid (HB.out.trans (HX.out.mono HB.out.size))
    refine tk 0 rfl (fun w hSw => by (try dsimp only at hSw); go_simp; try with_reducible rfl) ?_
    go_frame
    refine tk 1 rfl (fun w hSw => by (try dsimp only at hSw); go_simp; try with_reducible rfl) ?_
    go_frame
    refine tk 3 rfl (fun w hSw => by (try dsimp only at hSw); go_simp; try with_reducible rfl) ?_
    go_frame
    refine tk 7 rfl (fun w hSw => by (try dsimp only at hSw); go_simp; try with_reducible rfl) ?_
    go_frame
    refine tk 8 rfl (fun w hSw => by (try dsimp only at hSw); go_simp; try with_reducible rfl) ?_
    go_frame
    refine do_at (i := 2) rfl (by kernel_rfl) (by kernel_rfl) (fun K hK => ?_)
    go_simp
    refine (C1.out _).mono ?_
    rintro e w4 ⟨rfl, b1⟩
    replace HX := Lib.hid (HX.out.trans (b1.mono HX.out.size))
    replace HG := Lib.hid (HG.out.below b1)
    replace HB := Lib.hid (HB.out.trans (b1.mono HB.out.size))
    clear b1
    go_wp2_with fail
    refine hK.out _ _ ?_ (fun hHeld => ?_)
    · exact KEEP.out _ HX.out
    clear hK K
    try go_frame
    refine do_at (i := 4) rfl (by kernel_rfl) (by kernel_rfl) (fun K hK => ?_)
    go_simp
    refine (C3.out _).mono ?_
    rintro e w5 ⟨rfl, b1⟩
    replace HX := Lib.hid (HX.out.trans (b1.mono HX.out.size))
    replace HG := Lib.hid (HG.out.below b1)
    replace HB := Lib.hid (HB.out.trans (b1.mono HB.out.size))
    clear b1
    go_wp2_with fail
    refine hK.out _ _ ?_ (fun hHeld => ?_)
    · exact KEEP.out _ HX.out
    clear hK K
    try go_frame
    refine do_at (i := 5) rfl (by kernel_rfl) (by kernel_rfl) (fun K hK => ?_)
    go_simp
    refine (copy12_any w5 _ G U m (rectM a) (smallM a.p) (smallM a.q) HG.out HGG.out (rectM_ok HA.out) (small_ok HA.out.p) (small_ok HA.out.q)).mono ?_
    rintro e w6 ⟨v6, U6, rfl, g6, b1⟩
    obtain ⟨va, vc, hv6⟩ := g6.shape
    rw [len_copyR, ← HRW.out] at hv6
    subst hv6
    clear g6
    replace HX := Lib.hid (HX.out.trans (b1.mono HX.out.size))
    replace HG := Lib.hid (HG.out.below b1)
    replace HB := Lib.hid (HB.out.trans (b1.mono HB.out.size))
    clear b1
    go_wp2_with fail
    refine hK.out _ _ ?_ (fun hHeld => ?_)
    · exact KEEP.out _ HX.out
    clear hK K
    try go_frame
    refine tk 6 rfl (fun w hSw => by (try dsimp only at hSw); go_simp; try with_reducible rfl) ?_
    go_frame
    refine tk 9 rfl (fun w hSw => by (try dsimp only at hSw); go_simp; try with_reducible rfl) ?_
    go_frame
    refine tk 10 rfl (fun w hSw => by (try dsimp only at hSw); go_simp; try with_reducible rfl) ?_
    go_frame
    refine wpAnyH_done (by kernel_rfl) ?_ _
    clear hHeld h0
    go_wp2
    go_ret
    exact ⟨rfl, HB.out⟩
  have HM0 := Lib.hid (show 0 < m by omega)
  have hq1 : ((m : Int) == 0) = false := by simp; omega
  clear hm0
  go_wp2_with fail
  have KEEP0 := Lib.hid (show ∀ W', Below w2.heap.size w2 W' → (fun wx => wx.cell? ⟨g, o, none⟩ = some (.slice xa m xc)) W' from fun W' kb => HK0.out W' kb)
  refine wp_region_held_drew (S := (fun wx => wx.cell? ⟨g, o, none⟩ = some (.slice xa m xc))) (by kernel_rfl) ?_ (fun hHeld => ?_)
  · exact KEEP0.out _ ((Below.refl _ _).drew)
  obtain ⟨wd, hwd⟩ : ∃ X, X = w2.drew := ⟨_, rfl⟩
  have HX := Lib.hid (show Below w2.heap.size w2 wd by rw [hwd]; exact (Below.refl _ _).drew)
  replace hHeld := KEEP0.out _ HX.out
  rw [← hwd]
  clear hwd
  refine tk 0 rfl (fun w hSw => by (try dsimp only at hSw); go_simp; try with_reducible rfl) ?_
  go_frame
  refine tk 1 rfl (fun w hSw => by (try dsimp only at hSw); go_simp; try with_reducible rfl) ?_
  go_frame
  refine tk 2 rfl (fun w hSw => by (try dsimp only at hSw); go_simp; try with_reducible rfl) ?_
  go_frame
  refine tk 3 rfl (fun w hSw => by (try dsimp only at hSw); go_simp; try with_reducible rfl) ?_
  go_frame
  refine tk 4 rfl (fun w hSw => by (try dsimp only at hSw); go_simp; try with_reducible rfl) ?_
  go_frame
  refine tk 5 rfl (fun w hSw => by (try dsimp only at hSw); go_simp; try with_reducible rfl) ?_
  go_frame
  refine tk 6 rfl (fun w hSw => by (try dsimp only at hSw); go_simp; try with_reducible rfl) ?_
  go_frame
  refine tk 7 rfl (fun w hSw => by (try dsimp only at hSw); go_simp; try with_reducible rfl) ?_
  go_frame
  refine wpAnyH_done (by kernel_rfl) ?_ _
  replace H3 := Lib.hid (H3.out.below HX.out)
  replace HT := Lib.hid (HT.out.below HX.out)
  replace HG := Lib.hid (HG.out.below HX.out)
  replace HB := Lib.hid (HB.out.trans (HX.out.mono HB.out.size))
  clear hHeld KEEP0 HK0 h0 hq0 hq1 HX
  have a0 := H3.out.at 0 rfl
  have a1 := H3.out.at 1 rfl
  have a2 := H3.out.at 2 rfl
  have a3 := H3.out.at 3 rfl
  have a4 := H3.out.at 4 rfl
  have a5 := H3.out.at 5 rfl
  have a6 := H3.out.at 6 rfl
  have a7 := H3.out.at 7 rfl
  have a8 := H3.out.at 8 rfl
  have a9 := H3.out.at 9 rfl
  have a10 := H3.out.at 10 rfl
  have a11 := H3.out.at 11 rfl
  have a12 := H3.out.at 12 rfl
  go_wp2_with fail
  refine (rect1_any wd a HA.out).mono ?_
  rintro e w3 ⟨rfl, b1⟩
  replace H3 := Lib.hid (H3.out.below b1)
  replace HT := Lib.hid (HT.out.below b1)
  replace HG := Lib.hid (HG.out.below b1)
  replace HB := Lib.hid (HB.out.trans (b1.mono HB.out.size))
  clear b1
  clear a0 a1 a2 a3 a4 a5 a6 a7 a8 a9 a10 a11 a12
  have HRO := Lib.hid (rectM_ok HA.out)
  go_wp2_with fail
  refine (clip_any w3 (rectM a) rows m HRO.out (by have := HR8.out; omega) (by have := HM.out; omega)).mono ?_
  rintro e w4 ⟨rfl, b1⟩
  replace H3 := Lib.hid (H3.out.below b1)
  replace HT := Lib.hid (HT.out.below b1)
  replace HG := Lib.hid (HG.out.below b1)
  replace HB := Lib.hid (HB.out.trans (b1.mono HB.out.size))
  clear b1
  obtain ⟨k, hk⟩ : ∃ k, k = clipM (rectM a) rows m := ⟨_, rfl⟩
  have HKI := Lib.hid (show k.In G.length m by rw [hk, ← HRW.out]; exact clip_in _ _ _)
  rw [← hk]
  clear hk HRO
  obtain ⟨b8, hb8⟩ : ∃ b, b = w4.heap.size := ⟨_, rfl⟩
  obtain ⟨w5, hw5⟩ : ∃ x, x = w4.alloc (.cells #[.int .i64 (k.t : Nat), .int .i64 (k.l : Nat), .int .i64 (k.n : Nat), .int .i64 (k.c : Nat)] 30) := ⟨_, rfl⟩
  have b1 : Below w4.heap.size w4 w5 := by rw [hw5]; exact (Below.refl _ _).alloc (Nat.le_refl _) _
  have H8 := Lib.hid (show Lie w5 b8 [.int .i64 (k.t : Nat), .int .i64 (k.l : Nat), .int .i64 (k.n : Nat), .int .i64 (k.c : Nat)] by rw [hw5]; exact Lie.new w4 _ _ b8 hb8)
  replace H3 := Lib.hid (H3.out.below b1)
  replace HT := Lib.hid (HT.out.below b1)
  replace HG := Lib.hid (HG.out.below b1)
  replace HB := Lib.hid (HB.out.trans (b1.mono HB.out.size))
  clear b1
  go_upto_region 8 with (fail)
  rw [← hw5, ← hb8]
  clear hw5 hb8
  have c0 := H8.out.at 0 rfl
  have c1 := H8.out.at 1 rfl
  have c2 := H8.out.at 2 rfl
  have c3 := H8.out.at 3 rfl
  go_wp2_with fail
  refine (copy_own HG.out HGG.out HKI.out).mono ?_
  rintro e w6 ⟨v6, U6, rfl, g6, b1⟩
  have HS := Lib.hid g6
  clear g6
  replace H3 := Lib.hid (H3.out.below b1)
  replace HT := Lib.hid (HT.out.below b1)
  replace HG := Lib.hid (HG.out.below b1)
  replace H8 := Lib.hid (H8.out.below b1)
  replace HB := Lib.hid (HB.out.trans (b1.mono HB.out.size))
  clear b1
  clear c0 c1 c2 c3
  have HSG := Lib.hid (HGG.out.brk k)
  have c0 := H8.out.at 0 rfl
  have c1 := H8.out.at 1 rfl
  have c2 := H8.out.at 2 rfl
  have c3 := H8.out.at 3 rfl
  go_wp2_with fail
  refine (copy_own HS.out HSG.out (by rw [len_brkG]; exact HKI.out)).mono ?_
  rintro e w7 ⟨v7, U7, rfl, g7, b1⟩
  rw [brkG_idem HGG.out] at g7
  have HS2 := Lib.hid g7
  clear g7
  replace H3 := Lib.hid (H3.out.below b1)
  replace HT := Lib.hid (HT.out.below b1)
  replace HG := Lib.hid (HG.out.below b1)
  replace H8 := Lib.hid (H8.out.below b1)
  replace HS := Lib.hid (HS.out.below b1)
  replace HB := Lib.hid (HB.out.trans (b1.mono HB.out.size))
  clear b1
  clear c0 c1 c2 c3
  go_wp2_with fail
  refine (rsame12_yes w7 _ _ (brkG G k) m U6 U7 HS.out HS2.out HSG.out).mono ?_
  rintro e w8 ⟨rfl, b1⟩
  replace H3 := Lib.hid (H3.out.below b1)
  replace HT := Lib.hid (HT.out.below b1)
  replace HG := Lib.hid (HG.out.below b1)
  replace H8 := Lib.hid (H8.out.below b1)
  replace HS := Lib.hid (HS.out.below b1)
  replace HS2 := Lib.hid (HS2.out.below b1)
  replace HB := Lib.hid (HB.out.trans (b1.mono HB.out.size))
  clear b1
  clear HS HS2
  clear HSG
  obtain ⟨b11, hb11⟩ : ∃ b, b = w8.heap.size := ⟨_, rfl⟩
  obtain ⟨w9, hw9⟩ : ∃ x, x = w8.alloc (.cells #[.int .i64 0, .int .i64 0, .int .i64 (rows : Nat), .int .i64 (m : Nat)] 30) := ⟨_, rfl⟩
  have b1 : Below w8.heap.size w8 w9 := by rw [hw9]; exact (Below.refl _ _).alloc (Nat.le_refl _) _
  have H11 := Lib.hid (show Lie w9 b11 [.int .i64 0, .int .i64 0, .int .i64 (rows : Nat), .int .i64 (m : Nat)] by rw [hw9]; exact Lie.new w8 _ _ b11 hb11)
  replace H3 := Lib.hid (H3.out.below b1)
  replace HT := Lib.hid (HT.out.below b1)
  replace HG := Lib.hid (HG.out.below b1)
  replace H8 := Lib.hid (H8.out.below b1)
  replace HB := Lib.hid (HB.out.trans (b1.mono HB.out.size))
  clear b1
  go_upto_region 13 with (fail)
  rw [← hw9, ← hb11]
  clear hw9 hb11
  have HAL := Lib.hid (show (⟨0, 0, G.length, m⟩ : Rk).In G.length m from all_in _ _ (by rw [← HRW.out]; exact HR0.out) HM0.out)
  have HCA := Lib.hid (show Calls Tryd.prog 19 #[_, .agg #[.int .i64 0, .int .i64 0, .int .i64 (rows : Nat), .int .i64 (m : Nat)], .agg #[.int .i64 0, .int .i64 0]] w9 (Makes12 w9 G) by
    have := copy_own HG.out HGG.out HAL.out
    rw [brkG_all HGG.out] at this
    dsimp only at this
    rw [← HRW.out] at this
    exact this)
  have c0 := H11.out.at 0 rfl
  have c1 := H11.out.at 1 rfl
  have c2 := H11.out.at 2 rfl
  have c3 := H11.out.at 3 rfl
  go_wp2_with fail
  refine (HCA.out).mono ?_
  rintro e w10 ⟨v10, U10, rfl, g10, b1⟩
  have HS := Lib.hid g10
  clear g10 HCA
  replace H3 := Lib.hid (H3.out.below b1)
  replace HT := Lib.hid (HT.out.below b1)
  replace HG := Lib.hid (HG.out.below b1)
  replace H8 := Lib.hid (H8.out.below b1)
  replace H11 := Lib.hid (H11.out.below b1)
  replace HB := Lib.hid (HB.out.trans (b1.mono HB.out.size))
  clear b1
  clear c0 c1 c2 c3
  go_wp2_with fail
  refine (rsame12_yes w10 _ _ G m U10 U HS.out HG.out HGG.out).mono ?_
  rintro e w11 ⟨rfl, b1⟩
  replace H3 := Lib.hid (H3.out.below b1)
  replace HT := Lib.hid (HT.out.below b1)
  replace HG := Lib.hid (HG.out.below b1)
  replace H8 := Lib.hid (H8.out.below b1)
  replace H11 := Lib.hid (H11.out.below b1)
  replace HS := Lib.hid (HS.out.below b1)
  replace HB := Lib.hid (HB.out.trans (b1.mono HB.out.size))
  clear b1
  clear HS
  have a7 := H3.out.at 7 rfl
  have a8 := H3.out.at 8 rfl
  have a9 := H3.out.at 9 rfl
  have a10 := H3.out.at 10 rfl
  have a11 := H3.out.at 11 rfl
  go_wp2_with fail
  refine (rcell_any w11 a.d HA.out.d).mono ?_
  rintro e w12 ⟨rfl, b1⟩
  replace H3 := Lib.hid (H3.out.below b1)
  replace HT := Lib.hid (HT.out.below b1)
  replace HG := Lib.hid (HG.out.below b1)
  replace H8 := Lib.hid (H8.out.below b1)
  replace H11 := Lib.hid (H11.out.below b1)
  replace HB := Lib.hid (HB.out.trans (b1.mono HB.out.size))
  clear b1
  clear a7 a8 a9 a10 a11
  have HC1 := Lib.hid (celD_one HA.out.d)
  have HCL := Lib.hid (celD_l a.d)
  obtain ⟨c, hc⟩ : ∃ c, c = celD a.d := ⟨_, rfl⟩
  rw [← hc] at HC1 HCL ⊢
  clear hc
  obtain ⟨b12, hb12⟩ : ∃ b, b = w12.heap.size := ⟨_, rfl⟩
  obtain ⟨w13, hw13⟩ : ∃ x, x = w12.alloc (.cells #[.int .i32 c.ru, .int .i32 c.m0, .int .i32 c.m1, .int .u8 c.k, .int .u8 c.a.fg.k, .int .u8 c.a.fg.r, .int .u8 c.a.fg.g, .int .u8 c.a.fg.b, .int .u8 c.a.bg.k, .int .u8 c.a.bg.r, .int .u8 c.a.bg.g, .int .u8 c.a.bg.b, .int .u16 (c.a.fl : Nat), .int .u8 c.l] 62) := ⟨_, rfl⟩
  have b1 : Below w12.heap.size w12 w13 := by rw [hw13]; exact (Below.refl _ _).alloc (Nat.le_refl _) _
  have H12 := Lib.hid (show Lie w13 b12 [.int .i32 c.ru, .int .i32 c.m0, .int .i32 c.m1, .int .u8 c.k, .int .u8 c.a.fg.k, .int .u8 c.a.fg.r, .int .u8 c.a.fg.g, .int .u8 c.a.fg.b, .int .u8 c.a.bg.k, .int .u8 c.a.bg.r, .int .u8 c.a.bg.g, .int .u8 c.a.bg.b, .int .u16 (c.a.fl : Nat), .int .u8 c.l] by rw [hw13]; exact Lie.new w12 _ _ b12 hb12)
  replace H3 := Lib.hid (H3.out.below b1)
  replace HT := Lib.hid (HT.out.below b1)
  replace HG := Lib.hid (HG.out.below b1)
  replace H8 := Lib.hid (H8.out.below b1)
  replace H11 := Lib.hid (H11.out.below b1)
  replace HB := Lib.hid (HB.out.trans (b1.mono HB.out.size))
  clear b1
  go_upto_region 16 with (fail)
  rw [← hw13, ← hb12]
  clear hw13 hb12
  have HLZ := Lib.hid (show ofI 122 = 1 by decide +kernel)
  have KEEP := Lib.hid (show ∀ W', Below w13.heap.size w13 W' → (fun wx => (wx.cell? ⟨b8, 0, none⟩ = some (.int .i64 (k.t : Nat)) ∧ wx.cell? ⟨b8, 1, none⟩ = some (.int .i64 (k.l : Nat)) ∧ wx.cell? ⟨b8, 2, none⟩ = some (.int .i64 (k.n : Nat)) ∧ wx.cell? ⟨b8, 3, none⟩ = some (.int .i64 (k.c : Nat))) ∧ wx.cell? ⟨b12, 0, none⟩ = some (.int .i32 c.ru) ∧ wx.cell? ⟨b12, 1, none⟩ = some (.int .i32 c.m0) ∧ wx.cell? ⟨b12, 2, none⟩ = some (.int .i32 c.m1) ∧ wx.cell? ⟨b12, 3, none⟩ = some (.int .u8 c.k) ∧ wx.cell? ⟨b12, 4, none⟩ = some (.int .u8 c.a.fg.k) ∧ wx.cell? ⟨b12, 5, none⟩ = some (.int .u8 c.a.fg.r) ∧ wx.cell? ⟨b12, 6, none⟩ = some (.int .u8 c.a.fg.g) ∧ wx.cell? ⟨b12, 7, none⟩ = some (.int .u8 c.a.fg.b) ∧ wx.cell? ⟨b12, 8, none⟩ = some (.int .u8 c.a.bg.k) ∧ wx.cell? ⟨b12, 9, none⟩ = some (.int .u8 c.a.bg.r) ∧ wx.cell? ⟨b12, 10, none⟩ = some (.int .u8 c.a.bg.g) ∧ wx.cell? ⟨b12, 11, none⟩ = some (.int .u8 c.a.bg.b) ∧ wx.cell? ⟨b12, 12, none⟩ = some (.int .u16 (c.a.fl : Nat)) ∧ wx.cell? ⟨b12, 13, none⟩ = some (.int .u8 c.l)) W' from fun W' kb => by
    have h := H8.out.below kb
    have g := H12.out.below kb
    exact ⟨⟨h.at 0 rfl, h.at 1 rfl, h.at 2 rfl, h.at 3 rfl⟩, g.at 0 rfl, g.at 1 rfl, g.at 2 rfl, g.at 3 rfl, g.at 4 rfl, g.at 5 rfl, g.at 6 rfl, g.at 7 rfl, g.at 8 rfl, g.at 9 rfl, g.at 10 rfl, g.at 11 rfl, g.at 12 rfl, g.at 13 rfl⟩)
  refine wp_region_held_drew (S := (fun wx => (wx.cell? ⟨b8, 0, none⟩ = some (.int .i64 (k.t : Nat)) ∧ wx.cell? ⟨b8, 1, none⟩ = some (.int .i64 (k.l : Nat)) ∧ wx.cell? ⟨b8, 2, none⟩ = some (.int .i64 (k.n : Nat)) ∧ wx.cell? ⟨b8, 3, none⟩ = some (.int .i64 (k.c : Nat))) ∧ wx.cell? ⟨b12, 0, none⟩ = some (.int .i32 c.ru) ∧ wx.cell? ⟨b12, 1, none⟩ = some (.int .i32 c.m0) ∧ wx.cell? ⟨b12, 2, none⟩ = some (.int .i32 c.m1) ∧ wx.cell? ⟨b12, 3, none⟩ = some (.int .u8 c.k) ∧ wx.cell? ⟨b12, 4, none⟩ = some (.int .u8 c.a.fg.k) ∧ wx.cell? ⟨b12, 5, none⟩ = some (.int .u8 c.a.fg.r) ∧ wx.cell? ⟨b12, 6, none⟩ = some (.int .u8 c.a.fg.g) ∧ wx.cell? ⟨b12, 7, none⟩ = some (.int .u8 c.a.fg.b) ∧ wx.cell? ⟨b12, 8, none⟩ = some (.int .u8 c.a.bg.k) ∧ wx.cell? ⟨b12, 9, none⟩ = some (.int .u8 c.a.bg.r) ∧ wx.cell? ⟨b12, 10, none⟩ = some (.int .u8 c.a.bg.g) ∧ wx.cell? ⟨b12, 11, none⟩ = some (.int .u8 c.a.bg.b) ∧ wx.cell? ⟨b12, 12, none⟩ = some (.int .u16 (c.a.fl : Nat)) ∧ wx.cell? ⟨b12, 13, none⟩ = some (.int .u8 c.l))) (by kernel_rfl) ?_ (fun hHeld => ?_)
  · exact KEEP.out _ ((Below.refl _ _).drew)
  obtain ⟨we, hwd⟩ : ∃ X, X = w13.drew := ⟨_, rfl⟩
  have HX := Lib.hid (show Below w13.heap.size w13 we by rw [hwd]; exact (Below.refl _ _).drew)
  replace hHeld := KEEP.out _ HX.out
  rw [← hwd]
  clear hwd
  replace H3 := Lib.hid (H3.out.below HX.out)
  replace HT := Lib.hid (HT.out.below HX.out)
  replace HG := Lib.hid (HG.out.below HX.out)
  replace H8 := Lib.hid (H8.out.below HX.out)
  replace H11 := Lib.hid (H11.out.below HX.out)
  replace H12 := Lib.hid (H12.out.below HX.out)
  replace HB := Lib.hid (HB.out.trans (HX.out.mono HB.out.size))
  refine tk 0 rfl (fun w hSw => by (try dsimp only at hSw); go_simp; try with_reducible rfl) ?_
  go_frame
  refine tk 1 rfl (fun w hSw => by (try dsimp only at hSw); go_simp; try with_reducible rfl) ?_
  go_frame
  refine tk 2 rfl (fun w hSw => by (try dsimp only at hSw); go_simp; try with_reducible rfl) ?_
  go_frame
  refine tk 4 rfl (fun w hSw => by (try dsimp only at hSw); go_simp; try with_reducible rfl) ?_
  go_frame
  refine tk 5 rfl (fun w hSw => by (try dsimp only at hSw); go_simp; try with_reducible rfl) ?_
  go_frame
  refine do_at (i := 3) rfl (by kernel_rfl) (by kernel_rfl) (fun K hK => ?_)
  go_simp
  refine (fill_one (b := ⟨122, 0, 0, 0, At.zero, 0⟩) HG.out HGG.out HKI.out HT.out HLZ.out).mono ?_
  rintro e w14 ⟨v14, U14, rfl, g14, b1⟩
  have HS := Lib.hid (g14.below (Below.refl _ _))
  clear g14
  have HSG := Lib.hid (HGG.out.fill HKI.out (b := ⟨122, 0, 0, 0, At.zero, 0⟩) (.inl rfl))
  replace HX := Lib.hid (HX.out.trans (b1.mono HX.out.size))
  replace H3 := Lib.hid (H3.out.below b1)
  replace HT := Lib.hid (HT.out.below b1)
  replace HG := Lib.hid (HG.out.below b1)
  replace H8 := Lib.hid (H8.out.below b1)
  replace H11 := Lib.hid (H11.out.below b1)
  replace H12 := Lib.hid (H12.out.below b1)
  replace HB := Lib.hid (HB.out.trans (b1.mono HB.out.size))
  clear b1
  go_wp2_with fail
  refine hK.out _ _ ?_ (fun hHeld => ?_)
  · exact KEEP.out _ HX.out
  clear hK K
  try go_frame
  refine do_at (i := 6) rfl (by kernel_rfl) (by kernel_rfl) (fun K hK => ?_)
  go_simp
  refine (fill_one (b := c) HS.out HSG.out (by rw [fillG, len_layG]; exact HKI.out) HT.out HC1.out).mono ?_
  rintro e w15 ⟨v15, U15, rfl, g15, b1⟩
  rw [fill_fill HGG.out HKI.out _ _ (.inl rfl)] at g15
  have HS2 := Lib.hid g15
  clear g15
  replace HX := Lib.hid (HX.out.trans (b1.mono HX.out.size))
  replace H3 := Lib.hid (H3.out.below b1)
  replace HT := Lib.hid (HT.out.below b1)
  replace HG := Lib.hid (HG.out.below b1)
  replace H8 := Lib.hid (H8.out.below b1)
  replace H11 := Lib.hid (H11.out.below b1)
  replace H12 := Lib.hid (H12.out.below b1)
  replace HS := Lib.hid (HS.out.below b1)
  replace HB := Lib.hid (HB.out.trans (b1.mono HB.out.size))
  clear b1
  go_wp2_with fail
  refine hK.out _ _ ?_ (fun hHeld => ?_)
  · exact KEEP.out _ HX.out
  clear hK K
  try go_frame
  clear HS
  refine tk 7 rfl (fun w hSw => by (try dsimp only at hSw); go_simp; try with_reducible rfl) ?_
  go_frame
  refine wpAnyH_done (by kernel_rfl) ?_ _
  clear hHeld KEEP HX HSG HLZ
  have c0 := H8.out.at 0 rfl
  have c1 := H8.out.at 1 rfl
  have c2 := H8.out.at 2 rfl
  have c3 := H8.out.at 3 rfl
  have y0 := H12.out.at 0 rfl
  have y1 := H12.out.at 1 rfl
  have y2 := H12.out.at 2 rfl
  have y3 := H12.out.at 3 rfl
  have y4 := H12.out.at 4 rfl
  have y5 := H12.out.at 5 rfl
  have y6 := H12.out.at 6 rfl
  have y7 := H12.out.at 7 rfl
  have y8 := H12.out.at 8 rfl
  have y9 := H12.out.at 9 rfl
  have y10 := H12.out.at 10 rfl
  have y11 := H12.out.at 11 rfl
  have y12 := H12.out.at 12 rfl
  have y13 := H12.out.at 13 rfl
  go_wp2_with fail
  refine (fill_one (b := c) HG.out HGG.out HKI.out HT.out HC1.out).mono ?_
  rintro e w16 ⟨v16, U16, rfl, g16, b1⟩
  have HS := Lib.hid g16
  clear g16
  replace H3 := Lib.hid (H3.out.below b1)
  replace HT := Lib.hid (HT.out.below b1)
  replace HG := Lib.hid (HG.out.below b1)
  replace H8 := Lib.hid (H8.out.below b1)
  replace H11 := Lib.hid (H11.out.below b1)
  replace H12 := Lib.hid (H12.out.below b1)
  replace HS2 := Lib.hid (HS2.out.below b1)
  replace HB := Lib.hid (HB.out.trans (b1.mono HB.out.size))
  clear b1
  clear c0 c1 c2 c3 y0 y1 y2 y3 y4 y5 y6 y7 y8 y9 y10 y11 y12 y13
  go_wp2_with fail
  refine (rsame12_yes w16 _ _ (fillG G k c) m U15 U16 HS2.out HS.out (HGG.out.fill HKI.out HCL.out)).mono ?_
  rintro e w17 ⟨rfl, b1⟩
  replace H3 := Lib.hid (H3.out.below b1)
  replace HT := Lib.hid (HT.out.below b1)
  replace HG := Lib.hid (HG.out.below b1)
  replace H8 := Lib.hid (H8.out.below b1)
  replace H11 := Lib.hid (H11.out.below b1)
  replace H12 := Lib.hid (H12.out.below b1)
  replace HS2 := Lib.hid (HS2.out.below b1)
  replace HS := Lib.hid (HS.out.below b1)
  replace HB := Lib.hid (HB.out.trans (b1.mono HB.out.size))
  clear b1
  clear HS HS2 H8 H12
  have c0 := H11.out.at 0 rfl
  have c1 := H11.out.at 1 rfl
  have c2 := H11.out.at 2 rfl
  have c3 := H11.out.at 3 rfl
  obtain ⟨B, hB⟩ : ∃ B : Cel, B = ⟨0, 0, 0, 0, At.zero, 1⟩ := ⟨_, rfl⟩
  have HBB := Lib.hid hB
  have HER := Lib.hid (show Calls Tryd.prog 24 #[_, .agg #[.int .i64 0, .int .i64 0, .int .i64 (rows : Nat), .int .i64 (m : Nat)], .agg #[.int .i32 0, .int .i32 0, .int .i32 0, .int .u8 0, .int .u8 0, .int .u8 0, .int .u8 0, .int .u8 0, .int .u8 0, .int .u8 0, .int .u8 0, .int .u8 0, .int .u16 0, .int .u8 1]] w17 (Makes12 w17 (fillG G ⟨0, 0, G.length, m⟩ B)) by
    have := erase12_any w17 _ G U m (⟨0, 0, G.length, m⟩ : Rk).r4 B HG.out HGG.out (HAL.out.ok (by have := HGG.out.n1; omega) (by have := HGG.out.m1; omega))
    rw [clip_self HAL.out, hB] at this
    rw [hB]
    dsimp only [r4V, Rk.r4] at this
    rw [← HRW.out] at this ⊢
    exact this)
  clear hB
  go_wp2_with fail
  refine (HER.out).mono ?_
  rintro e w18 ⟨v18, U18, rfl, g18, b1⟩
  have HE := Lib.hid g18
  clear g18 HER
  replace H3 := Lib.hid (H3.out.below b1)
  replace HT := Lib.hid (HT.out.below b1)
  replace HG := Lib.hid (HG.out.below b1)
  replace H11 := Lib.hid (H11.out.below b1)
  replace HB := Lib.hid (HB.out.trans (b1.mono HB.out.size))
  clear b1
  clear c0 c1 c2 c3
  clear H3 HT HG H11 HC1 HCL HKI
  have HEG := Lib.hid (HGG.out.fill HAL.out (b := B) (.inr (by rw [HBB.out])))
  have HEC := Lib.hid (fun i j (hi : i < rows) (hj : j < m) => fill_all HGG.out B (by rw [HBB.out]) (by rw [← HRW.out]; exact HR0.out) HM0.out (i := i) (j := j) (by rw [← HRW.out]; exact hi) hj)
  have HEL := Lib.hid (show (fillG G ⟨0, 0, G.length, m⟩ B).length = rows by rw [HRW.out]; exact len_layG _ _ _)
  obtain ⟨E, hE⟩ : ∃ E, E = fillG G ⟨0, 0, G.length, m⟩ B := ⟨_, rfl⟩
  rw [← hE] at HE HEG HEC HEL
  clear hE
  obtain ⟨va, vc, hv⟩ := HE.out.shape
  rw [HEL.out] at hv
  subst hv
  have HM8 := Lib.hid (show rows ≤ 8 ∧ m < 31 from ⟨HR8.out, HM.out⟩)
  clear HR8 HM
  go_wp2
  go_loopg [15] rows (fun gl vi wr => ∃ (i : Nat), vi = .int .i64 i ∧ i ≤ rows ∧ rows - i ≤ gl ∧ Hid (Below w18.heap.size w18 wr))
  case atStart => exact ⟨0, rfl, Nat.zero_le _, Nat.sub_le _ _, Lib.hid (Below.refl _ _)⟩
  case round =>
    obtain ⟨i, rfl, hin, hgi, HBI⟩ := hrel
    by_cases hlt : i < rows
    · have HLT := Lib.hid hlt
      have hi8 : i ≤ 8 := by have := HM8.out; omega
      go_wp2
      go_loopg [16] m (fun gl vj wi => ∃ (j : Nat), vj = .int .i64 j ∧ j ≤ m ∧ m - j ≤ gl ∧ Hid (Below w18.heap.size w18 wi))
      case atStart => exact ⟨0, rfl, Nat.zero_le _, Nat.sub_le _ _, HBI⟩
      case round =>
        obtain ⟨j, rfl, hjm, hgj, HBJ⟩ := hrel
        by_cases hjl : j < m
        · have HJL := Lib.hid hjl
          have hj31 : j ≤ 31 := by have := HM8.out; omega
          obtain ⟨g2, o2, cp2, e, hcap2, hgs2, hcell2⟩ := (HE.out.below HBJ.out).open (by rw [HEL.out]; omega)
          injection e with e1 e2 e3
          subst e1 e3
          clear e2
          have h0 := hcell2 i (by rw [HEL.out]; exact hlt)
          have HROW := Lib.hid ((HE.out.below HBJ.out).row (i := i) (by rw [HEL.out]; exact hlt))
          have hrl := (HEG.out.at (i := i) (by rw [HEL.out]; exact hlt)).2.1
          obtain ⟨g3, o3, cp3, eu, hcap3, hgs3, hC⟩ := HROW.out.open (by rw [hrl]; omega)
          rw [hrl] at eu
          rw [eu] at h0
          have hcj := hC j (by rw [hrl]; exact hjl)
          rw [HEC.out i j hlt hjl, HBB.out] at hcj
          obtain ⟨y0, y1, y2, y3, y4, y5, y6, y7, y8, y9, y10, y11, y12, y13⟩ := hcj
          dsimp only [At.zero, Cl.zero] at y0 y1 y2 y3 y4 y5 y6 y7 y8 y9 y10 y11 y12 y13
          have hq : ∀ w : World, (Op.equalIn 10000 62 (.agg #[.int .i32 0, .int .i32 0, .int .i32 0, .int .u8 0, .int .u8 0, .int .u8 0, .int .u8 0, .int .u8 0, .int .u8 0, .int .u8 0, .int .u8 0, .int .u8 0, .int .u16 0, .int .u8 1]) (.agg #[.int .i32 0, .int .i32 0, .int .i32 0, .int .u8 0, .int .u8 0, .int .u8 0, .int .u8 0, .int .u8 0, .int .u8 0, .int .u8 0, .int .u8 0, .int .u8 0, .int .u16 0, .int .u8 1])).run Tryd.prog w = .ok true w := fun w => by
            have := eqCel w ⟨0, 0, 0, 0, At.zero, 1⟩ ⟨0, 0, 0, 0, At.zero, 1⟩
            rwa [decide_eq_true rfl] at this
          clear hcell2 hcap2 hgs2 hrl hcap3 hgs3 hC eu
          go_wp2
          go_roundg (m - (j + 1))
          case rel => exact ⟨j + 1, by first | go_num | (refine congrArg _ ?_; unfold wrap64; omega), HJL.out, Nat.le_refl _, HBJ⟩
          case measure => have := HJL.out; omega
        · obtain rfl : j = m := by omega
          clear hjl
          go_wp2
          go_roundg (rows - (i + 1))
          case rel => exact ⟨i + 1, by first | go_num | (refine congrArg _ ?_; unfold wrap64; omega), HLT.out, Nat.le_refl _, HBJ⟩
          case measure => have := HLT.out; omega
    · obtain rfl : i = rows := by omega
      clear hlt
      go_wp2
      go_ret
      exact ⟨rfl, (HB.out.trans (HBI.out.mono HB.out.size))⟩
set_option maxRecDepth 100000 in
theorem rectMoves_walk {H : Type} (enc : TypeId × Value → H) (base : Nat) (W : World) (hT : Tabs W)
    (v0 : Value) (d0 : DataW H) (p0 : List MemPlace) (ok0 : Value.okWide Tryd.prog W .any base 24 v0) (k0 : DataW.Trod enc Tryd.prog W 0 (fun _ => true) true 24 v0 d0 p0)
    (v1 : Value) (d1 : DataW H) (p1 : List MemPlace) (ok1 : Value.okWide Tryd.prog W .any base 36 v1) (k1 : DataW.Trod enc Tryd.prog W 0 (fun _ => true) true 36 v1 d1 p1) :
    Calls Tryd.prog 6 #[v0, v1] W fun e w' => e = .returned (.bool true) ∧ Below W.heap.size W w' := by
  obtain ⟨cols, u, LL, rfl, hc, hL⟩ := open_gdraft enc base W ok0 k0
  obtain ⟨a, rfl, ha⟩ := open_ac enc base W ok1 k1
  exact moves_core W cols u LL a hc hL ha hT
end Go.Proofs.YtlaafmjiiiaceaaDoor.Lab
