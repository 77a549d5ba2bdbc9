/- RectSums. -/
import Derived.Test.YtlaafmjiiiaceaaDoorRcWorks
import Derived.Test.YtlaafmjiiiaceaaDoorRcAct
import Derived.Test.YtlaafmjiiiaceaaDoorRcTold
import Derived.Test.YtlaafmjiiiaceaaDoorRcOpen
import Derived.Test.YtlaafmjiiiaceaaDoorWiLaid
set_option linter.unusedVariables false
namespace Go.Proofs.YtlaafmjiiiaceaaDoor.Lab
open Go Go.RowKit

theorem suml_k {w : World} {v : Value} {G : List Cls} {U : Nat → Value} {m : Nat} {r : R4} {k : Rk} (h : GSee w v G U) (hg : GG G m) (hr : r.Ok) (hk : clipM r G.length m = k) :
    Calls Tryd.prog 15 #[v, r4V r] w fun x w' => x = .returned (.tuple #[.int .u16 (sumK G k), .int .u8 (levK G k)]) ∧ Below w.heap.size w w' := by
  have := suml_any w v G U m r h hg hr
  rwa [hk] at this
theorem sum_none (G : List Cls) (m : Nat) : clipM ⟨3, 3, -1, 9⟩ G.length m = Rk.z := by
  unfold clipM
  rw [if_pos (.inl (by dsimp only; rw [span_no (.inl (by decide))]))]
theorem sumK_z (G : List Cls) : sumK G Rk.z = 0 ∧ levK G Rk.z = 0 := ⟨rfl, rfl⟩
def accM (s : Nat → Int) : Nat → Int
  | 0 => 0
  | n + 1 => (accM s n + s n) % 65536
theorem lev_four (G : List Cls) (m t l n a b c d : Nat) (h0 : t + (a + b) ≤ G.length) (h1 : l + (c + d) ≤ m) :
    levA G m [⟨(t : Nat), (l : Nat), (a : Nat), (c : Nat)⟩, ⟨(t : Nat), (l + c : Nat), (a : Nat), (d : Nat)⟩, ⟨(t + a : Nat), (l : Nat), (b : Nat), (c : Nat)⟩, ⟨(t + a : Nat), (l + c : Nat), (b : Nat), (d : Nat)⟩] = levF G t l (a + b) (c + d) := by
  unfold levA
  simp only [List.any_cons, List.any_nil, Bool.or_false]
  rw [(sum_part (t := t) (l := l) (n := a) (c := c) (by omega) (by omega)).2, (sum_part (t := t) (l := l + c) (n := a) (c := d) (by omega) (by omega)).2, (sum_part (t := t + a) (l := l) (n := b) (c := c) (by omega) (by omega)).2, (sum_part (t := t + a) (l := l + c) (n := b) (c := d) (by omega) (by omega)).2, levF_four]
theorem part_ok {t l n c : Nat} (h : t ≤ 1000 ∧ l ≤ 1000 ∧ n ≤ 1000 ∧ c ≤ 1000) : R4.Ok ⟨(t : Nat), (l : Nat), (n : Nat), (c : Nat)⟩ := ⟨⟨by dsimp only; omega, by dsimp only; omega⟩, ⟨by dsimp only; omega, by dsimp only; omega⟩, ⟨by dsimp only; omega, by dsimp only; omega⟩, ⟨by dsimp only; omega, by dsimp only; omega⟩⟩
set_option maxHeartbeats 16000000 in
set_option maxRecDepth 100000 in
theorem sums_core (W : World) (cols : Nat) (u : Value) (LL : List (List Dc)) (a : Ac) (x y : Nat) (hc : cols < 256) (hL : LnsIn W u LL) (ha : a.ok) (hT : Tabs W) (hx : x < 256) (hy : y < 256) :
    Calls Tryd.prog 5 #[.agg #[.int .u8 (cols : Nat), u], acV a, .agg #[.int .u8 (x : Nat), .int .u8 (y : Nat)]] W fun e w' => e = .returned (.bool true) ∧ Below W.heap.size W w' := by
  obtain ⟨la, lc, eu⟩ := hL.shape
  obtain ⟨ln, hln⟩ : ∃ n, n = LL.length := ⟨_, rfl⟩
  rw [← hln] at eu
  subst eu
  obtain ⟨b3, hb3⟩ : ∃ b, b = W.heap.size := ⟨_, rfl⟩
  obtain ⟨b4, hb4⟩ : ∃ b, b = W.heap.size + 1 := ⟨_, rfl⟩
  obtain ⟨b5, hb5⟩ : ∃ b, b = W.heap.size + 2 := ⟨_, rfl⟩
  obtain ⟨w0, hw0⟩ : ∃ X', X' = ((W.alloc (.cells #[.int .u8 (cols : Nat), .slice la ln lc] 24)).alloc (.cells #[.int .u8 (a.what : Nat), .int .i64 a.r.t, .int .i64 a.r.l, .int .i64 a.r.n, .int .i64 a.r.c, .int .i64 a.p, .int .i64 a.q, .int .u8 (a.d.ru : Nat), .int .u8 (a.d.ms : Nat), .int .u8 (a.d.at1 : Nat), .bool a.d.wide, .bool a.d.high, .int .u8 (a.ru : Nat)] 36)).alloc (.cells #[.int .u8 (x : Nat), .int .u8 (y : Nat)] 48) := ⟨_, rfl⟩
  have HB := Lib.hid (show Below W.heap.size W w0 by rw [hw0]; exact (((Below.refl _ _).alloc (Nat.le_refl _) _).alloc (by simp) _).alloc (by simp; omega) _)
  have H3 := Lib.hid (show Lie w0 b3 [.int .u8 (cols : Nat), .slice la ln lc] by rw [hw0]; exact ((Lie.new W _ _ b3 hb3).below ((Below.refl _ _).alloc (Nat.le_refl _) _)).below ((Below.refl _ _).alloc (Nat.le_refl _) _))
  have H4 := Lib.hid (show Lie w0 b4 (cells13 a) by rw [hw0]; exact (Lie.new _ _ _ b4 (by rw [hb4]; simp)).below ((Below.refl _ _).alloc (Nat.le_refl _) _))
  have H5 := Lib.hid (show Lie w0 b5 [.int .u8 (x : Nat), .int .u8 (y : Nat)] by rw [hw0]; exact Lie.new _ _ _ b5 (by rw [hb5]; simp))
  have HT := Lib.hid (hT.below HB.out)
  have HLN := Lib.hid (hL.below HB.out)
  have HC := Lib.hid hc
  have HA := Lib.hid ha
  have HXY := Lib.hid (show x < 256 ∧ y < 256 from ⟨hx, hy⟩)
  clear hc ha hT hL hln hx hy
  go_enter Tryd.func5, Tryd.ntmps5
  go_upto_region 1 with (fail)
  rw [← hw0, ← hb5, ← hb4, ← hb3]
  clear hw0 hb3 hb4 hb5
  go_wp2_with fail
  refine (works_any w0 HT.out).mono ?_
  rintro e w1 ⟨rfl, b1⟩
  replace H3 := Lib.hid (H3.out.below b1)
  replace H4 := Lib.hid (H4.out.below b1)
  replace H5 := Lib.hid (H5.out.below b1)
  replace HT := Lib.hid (HT.out.below b1)
  replace HLN := Lib.hid (HLN.out.below b1)
  replace HB := Lib.hid (HB.out.trans (b1.mono HB.out.size))
  clear b1
  have d0 := H3.out.at 0 rfl
  have d1 := H3.out.at 1 rfl
  go_wp2_with fail
  refine (rgrid12_any w1 cols _ LL HC.out HLN.out).mono ?_
  rintro e w2 ⟨gv, U, rfl, hG, b1⟩
  have HG := Lib.hid hG
  clear hG d0 d1
  replace H3 := Lib.hid (H3.out.below b1)
  replace H4 := Lib.hid (H4.out.below b1)
  replace H5 := Lib.hid (H5.out.below b1)
  replace HT := Lib.hid (HT.out.below b1)
  replace HLN := Lib.hid (HLN.out.below b1)
  replace HB := Lib.hid (HB.out.trans (b1.mono HB.out.size))
  clear b1
  clear H3 HLN HT
  have HGG := Lib.hid (rowsM_good cols LL)
  obtain ⟨m, hm⟩ : ∃ m, m = cols % 31 := ⟨_, rfl⟩
  rw [← hm] at HGG
  obtain ⟨G, hGd⟩ : ∃ G, G = rowsM cols LL := ⟨_, rfl⟩
  rw [← hGd] at HG HGG
  have HM := Lib.hid (show m < 31 by omega)
  have HR8 := Lib.hid (show G.length ≤ 8 by rw [hGd, rowsM_len]; omega)
  clear hm hGd HC
  obtain ⟨ga, gc', hgv⟩ := HG.out.shape
  obtain ⟨rows, hrows⟩ : ∃ n, n = G.length := ⟨_, rfl⟩
  have HRW := Lib.hid hrows
  rw [← hrows] at hgv
  rw [← hrows] at HR8
  subst hgv
  clear hrows
  by_cases hr0 : rows = 0
  · have HZ := Lib.hid (show rows = 0 from hr0)
    have hgt : ¬ (rows : Int) > 0 := by omega
    clear hr0
    have a0 := H4.out.at 0 rfl
    have a1 := H4.out.at 1 rfl
    have a2 := H4.out.at 2 rfl
    have a3 := H4.out.at 3 rfl
    have a4 := H4.out.at 4 rfl
    have a5 := H4.out.at 5 rfl
    have a6 := H4.out.at 6 rfl
    have a7 := H4.out.at 7 rfl
    have a8 := H4.out.at 8 rfl
    have a9 := H4.out.at 9 rfl
    have a10 := H4.out.at 10 rfl
    have a11 := H4.out.at 11 rfl
    have a12 := H4.out.at 12 rfl
    go_wp2_with fail
    refine (rect1_any w2 a HA.out).mono ?_
    rintro e v1 ⟨rfl, b1⟩
    replace H4 := Lib.hid (H4.out.below b1)
    replace H5 := Lib.hid (H5.out.below b1)
    replace HG := Lib.hid (HG.out.below b1)
    replace HB := Lib.hid (HB.out.trans (b1.mono HB.out.size))
    clear b1
    clear a0 a1 a2 a3 a4 a5 a6 a7 a8 a9 a10 a11 a12
    have HRO := Lib.hid (rectM_ok HA.out)
    go_wp2_with fail
    refine (clip_any v1 (rectM a) rows 0 HRO.out (by have := HR8.out; omega) (by have := HM.out; omega)).mono ?_
    rintro e v2 ⟨rfl, b1⟩
    replace H4 := Lib.hid (H4.out.below b1)
    replace H5 := Lib.hid (H5.out.below b1)
    replace HG := Lib.hid (HG.out.below b1)
    replace HB := Lib.hid (HB.out.trans (b1.mono HB.out.size))
    clear b1
    obtain ⟨k, hk⟩ : ∃ k, k = clipM (rectM a) rows 0 := ⟨_, rfl⟩
    have HKC := Lib.hid (show clipM (rectM a) G.length m = k by rw [hk, ← HRW.out]; exact clip_none (.inl HZ.out) |>.trans (clip_none (.inl HZ.out)).symm)
    have HKI := Lib.hid (show k.In G.length m by rw [← HKC.out]; exact clip_in _ _ _)
    have HKS := Lib.hid (show clipM k.r4 rows 0 = k by rw [hk, clip_none (.inl HZ.out), clip_none (.inl HZ.out)])
    have HKK := Lib.hid (show clipM k.r4 G.length m = k from clip_self HKI.out)
    have HKO := Lib.hid (HKI.out.ok (by have := HGG.out.n1; omega) (by have := HGG.out.m1; omega))
    rw [← hk]
    clear hk
    obtain ⟨kt, kl, kn, kc⟩ := k
    try dsimp only [rkV]
    obtain ⟨b10, hb10⟩ : ∃ b, b = v2.heap.size := ⟨_, rfl⟩
    obtain ⟨v3, hv3⟩ : ∃ X', X' = v2.alloc (.cells #[.int .i64 (kt : Nat), .int .i64 (kl : Nat), .int .i64 (kn : Nat), .int .i64 (kc : Nat)] 30) := ⟨_, rfl⟩
    have b1 : Below v2.heap.size v2 v3 := by rw [hv3]; exact (Below.refl _ _).alloc (Nat.le_refl _) _
    have H10 := Lib.hid (show Lie v3 b10 [.int .i64 (kt : Nat), .int .i64 (kl : Nat), .int .i64 (kn : Nat), .int .i64 (kc : Nat)] by rw [hv3]; exact Lie.new v2 _ _ b10 hb10)
    replace H4 := Lib.hid (H4.out.below b1)
    replace H5 := Lib.hid (H5.out.below b1)
    replace HG := Lib.hid (HG.out.below b1)
    replace HB := Lib.hid (HB.out.trans (b1.mono HB.out.size))
    clear b1
    go_upto_region 8 with (fail)
    rw [← hv3, ← hb10]
    clear hv3 hb10
    have a0 := H4.out.at 0 rfl
    have a1 := H4.out.at 1 rfl
    have a2 := H4.out.at 2 rfl
    have a3 := H4.out.at 3 rfl
    have a4 := H4.out.at 4 rfl
    have a5 := H4.out.at 5 rfl
    have a6 := H4.out.at 6 rfl
    have a7 := H4.out.at 7 rfl
    have a8 := H4.out.at 8 rfl
    have a9 := H4.out.at 9 rfl
    have a10 := H4.out.at 10 rfl
    have a11 := H4.out.at 11 rfl
    have a12 := H4.out.at 12 rfl
    go_wp2_with fail
    refine (rect1_any v3 a HA.out).mono ?_
    rintro e v4 ⟨rfl, b1⟩
    replace H4 := Lib.hid (H4.out.below b1)
    replace H5 := Lib.hid (H5.out.below b1)
    replace HG := Lib.hid (HG.out.below b1)
    replace H10 := Lib.hid (H10.out.below b1)
    replace HB := Lib.hid (HB.out.trans (b1.mono HB.out.size))
    clear b1
    clear a0 a1 a2 a3 a4 a5 a6 a7 a8 a9 a10 a11 a12
    go_wp2_with fail
    refine (suml_k HG.out HGG.out HRO.out HKC.out).mono ?_
    rintro e v5 ⟨rfl, b1⟩
    replace H4 := Lib.hid (H4.out.below b1)
    replace H5 := Lib.hid (H5.out.below b1)
    replace HG := Lib.hid (HG.out.below b1)
    replace H10 := Lib.hid (H10.out.below b1)
    replace HB := Lib.hid (HB.out.trans (b1.mono HB.out.size))
    clear b1
    obtain ⟨N, hN⟩ : ∃ N, N = sumK G ⟨kt, kl, kn, kc⟩ := ⟨_, rfl⟩
    obtain ⟨V, hV⟩ : ∃ V, V = levK G ⟨kt, kl, kn, kc⟩ := ⟨_, rfl⟩
    have HSG := Lib.hid (fun (w : World) (h : GSee w (.slice ga rows gc') G U) => (show Calls Tryd.prog 15 #[.slice ga rows gc', .agg #[.int .i64 (kt : Nat), .int .i64 (kl : Nat), .int .i64 (kn : Nat), .int .i64 (kc : Nat)]] w fun x w' => x = .returned (.tuple #[.int .u16 N, .int .u8 V]) ∧ Below w.heap.size w w' by
      have := suml_k h HGG.out HKO.out HKK.out
      rw [← hN, ← hV] at this
      exact this))
    rw [← hN, ← hV]
    have HN := Lib.hid hN
    have HV := Lib.hid hV
    clear hN hV
    have c0 := H10.out.at 0 rfl
    have c1 := H10.out.at 1 rfl
    have c2 := H10.out.at 2 rfl
    have c3 := H10.out.at 3 rfl
    go_wp2_with fail
    refine (HSG.out _ HG.out).mono ?_
    rintro e v6 ⟨rfl, b1⟩
    replace H4 := Lib.hid (H4.out.below b1)
    replace H5 := Lib.hid (H5.out.below b1)
    replace HG := Lib.hid (HG.out.below b1)
    replace H10 := Lib.hid (H10.out.below b1)
    replace HB := Lib.hid (HB.out.trans (b1.mono HB.out.size))
    clear b1
    clear c0 c1 c2 c3 HSG
    have HNO := Lib.hid (fun (w : World) (h : GSee w (.slice ga rows gc') G U) => (show Calls Tryd.prog 15 #[.slice ga rows gc', .agg #[.int .i64 3, .int .i64 3, .int .i64 (-1), .int .i64 9]] w fun x w' => x = .returned (.tuple #[.int .u16 0, .int .u8 0]) ∧ Below w.heap.size w w' by
      have := suml_k h HGG.out (r := ⟨3, 3, -1, 9⟩) (ok_of (by decide)) (sum_none G m)
      rw [(sumK_z G).1, (sumK_z G).2] at this
      exact this))
    go_wp2_with fail
    refine (HNO.out _ HG.out).mono ?_
    rintro e v7 ⟨rfl, b1⟩
    replace H4 := Lib.hid (H4.out.below b1)
    replace H5 := Lib.hid (H5.out.below b1)
    replace HG := Lib.hid (HG.out.below b1)
    replace H10 := Lib.hid (H10.out.below b1)
    replace HB := Lib.hid (HB.out.trans (b1.mono HB.out.size))
    clear b1
    clear HNO
    have KEEP := Lib.hid (show ∀ W', Below v7.heap.size v7 W' → (fun wx => wx.cell? ⟨b10, 0, none⟩ = some (.int .i64 (kt : Nat)) ∧ wx.cell? ⟨b10, 1, none⟩ = some (.int .i64 (kl : Nat)) ∧ wx.cell? ⟨b10, 2, none⟩ = some (.int .i64 (kn : Nat)) ∧ wx.cell? ⟨b10, 3, none⟩ = some (.int .i64 (kc : Nat))) W' from fun W' kb => by
      have h := H10.out.below kb
      exact ⟨h.at 0 rfl, h.at 1 rfl, h.at 2 rfl, h.at 3 rfl⟩)
    have HCL := Lib.hid (fun w => (show Calls Tryd.prog 17 #[.agg #[.int .i64 (kt : Nat), .int .i64 (kl : Nat), .int .i64 (kn : Nat), .int .i64 (kc : Nat)], .int .i64 (rows : Nat), .int .i64 0] w fun x w' => x = .returned (.agg #[.int .i64 (kt : Nat), .int .i64 (kl : Nat), .int .i64 (kn : Nat), .int .i64 (kc : Nat)]) ∧ Below w.heap.size w w' by
      have := clip_any w (Rk.r4 ⟨kt, kl, kn, kc⟩) rows 0 HKO.out (by have := HR8.out; omega) (by have := HM.out; omega)
      rw [HKS.out] at this
      exact this))
    have hq := fun w => eqR4_self w (kt : Nat) (kl : Nat) (kn : Nat) (kc : Nat)
    go_wp2_with fail
    refine wp_region_held_drew (S := (fun wx => wx.cell? ⟨b10, 0, none⟩ = some (.int .i64 (kt : Nat)) ∧ wx.cell? ⟨b10, 1, none⟩ = some (.int .i64 (kl : Nat)) ∧ wx.cell? ⟨b10, 2, none⟩ = some (.int .i64 (kn : Nat)) ∧ wx.cell? ⟨b10, 3, none⟩ = some (.int .i64 (kc : Nat)))) (by kernel_rfl) ?_ (fun hHeld => ?_)
    · exact KEEP.out _ ((Below.refl _ _).drew)
    obtain ⟨v8, hwd⟩ : ∃ X, X = v7.drew := ⟨_, rfl⟩
    have HX := Lib.hid (show Below v7.heap.size v7 v8 by rw [hwd]; exact (Below.refl _ _).drew)
    replace hHeld := KEEP.out _ HX.out
    rw [← hwd]
    clear hwd
    replace H4 := Lib.hid (H4.out.below HX.out)
    replace H5 := Lib.hid (H5.out.below HX.out)
    replace HG := Lib.hid (HG.out.below HX.out)
    replace H10 := Lib.hid (H10.out.below HX.out)
    replace HB := Lib.hid (HB.out.trans (HX.out.mono HB.out.size))
    refine tk 0 rfl (fun w hSw => by (try dsimp only at hSw); go_simp; try with_reducible rfl) ?_
    go_frame
    refine tk 1 rfl (fun w hSw => by (try dsimp only at hSw); go_simp; try with_reducible rfl) ?_
    go_frame
    refine tk 2 rfl (fun w hSw => by (try dsimp only at hSw); go_simp; try with_reducible rfl) ?_
    go_frame
    refine tk 3 rfl (fun w hSw => by (try dsimp only at hSw); go_simp; try with_reducible rfl) ?_
    go_frame
    refine tk 4 rfl (fun w hSw => by (try dsimp only at hSw); go_simp; try with_reducible rfl) ?_
    go_frame
    refine tk 5 rfl (fun w hSw => by (try dsimp only at hSw); go_simp; try with_reducible rfl) ?_
    go_frame
    refine tk 6 rfl (fun w hSw => by (try dsimp only at hSw); go_simp; try with_reducible rfl) ?_
    go_frame
    refine tk 7 rfl (fun w hSw => by (try dsimp only at hSw); go_simp; try with_reducible rfl) ?_
    go_frame
    refine tk 8 rfl (fun w hSw => by (try dsimp only at hSw); go_simp; try with_reducible rfl) ?_
    go_frame
    refine tk 9 rfl (fun w hSw => by (try dsimp only at hSw); go_simp; try with_reducible rfl) ?_
    go_frame
    refine tk 10 rfl (fun w hSw => by (try dsimp only at hSw); go_simp; try with_reducible rfl) ?_
    go_frame
    refine tk 11 rfl (fun w hSw => by (try dsimp only at hSw); go_simp; try with_reducible rfl) ?_
    go_frame
    refine tk 12 rfl (fun w hSw => by (try dsimp only at hSw); go_simp; try with_reducible rfl) ?_
    go_frame
    refine tk 13 rfl (fun w hSw => by (try dsimp only at hSw); go_simp; try with_reducible rfl) ?_
    go_frame
    refine tk 14 rfl (fun w hSw => by (try dsimp only at hSw); go_simp; try with_reducible rfl) ?_
    go_frame
    refine tk 15 rfl (fun w hSw => by (try dsimp only at hSw); go_simp; try with_reducible rfl) ?_
    go_frame
    refine tk 16 rfl (fun w hSw => by (try dsimp only at hSw); go_simp; try with_reducible rfl) ?_
    go_frame
    refine tk 17 rfl (fun w hSw => by (try dsimp only at hSw); go_simp; try with_reducible rfl) ?_
    go_frame
    refine tk 18 rfl (fun w hSw => by (try dsimp only at hSw); go_simp; try with_reducible rfl) ?_
    go_frame
    refine tk 19 rfl (fun w hSw => by (try dsimp only at hSw); go_simp; try with_reducible rfl) ?_
    go_frame
    refine tk 21 rfl (fun w hSw => by (try dsimp only at hSw); go_simp; try with_reducible rfl) ?_
    go_frame
    refine do_at (i := 20) rfl (by kernel_rfl) (by kernel_rfl) (fun K hK => ?_)
    go_simp
    refine (HCL.out _).mono ?_
    rintro e v9 ⟨rfl, b1⟩
    replace HX := Lib.hid (HX.out.trans (b1.mono HX.out.size))
    replace H4 := Lib.hid (H4.out.below b1)
    replace H5 := Lib.hid (H5.out.below b1)
    replace HG := Lib.hid (HG.out.below b1)
    replace H10 := Lib.hid (H10.out.below b1)
    replace HB := Lib.hid (HB.out.trans (b1.mono HB.out.size))
    clear b1
    go_wp2_with fail
    refine hK.out _ _ ?_ (fun hHeld => ?_)
    · exact KEEP.out _ HX.out
    clear hK K
    try go_frame
    refine tk 22 rfl (fun w hSw => by (try dsimp only at hSw); go_simp; try with_reducible rfl) ?_
    go_frame
    refine tk 23 rfl (fun w hSw => by (try dsimp only at hSw); go_simp; try with_reducible rfl) ?_
    go_frame
    refine wpAnyH_done (by kernel_rfl) ?_ _
    clear hHeld KEEP HX HCL hq HKS HRO
    have c2 := H10.out.at 2 rfl
    have HKZ := Lib.hid (show (⟨kt, kl, kn, kc⟩ : Rk) = Rk.z from HKC.out.symm.trans (clip_none (.inl (HRW.out.symm.trans HZ.out))))
    clear hgt
    have hz : ((kn : Int) == 0) = true := by have := HKZ.out; injection this with _ _ e _; simp [e]
    have e4 : kt = 0 ∧ kl = 0 ∧ kn = 0 ∧ kc = 0 := by have := HKZ.out; injection this with e1 e2 e3 e4; exact ⟨e1, e2, e3, e4⟩
    have hn0 : (N == 0) = true := by rw [HN.out, HKZ.out]; rfl
    have hv0 : (V == 0) = true := by rw [HV.out, HKZ.out]; rfl
    have hq : ∀ w : World, (Op.equalIn 10000 30 (.agg #[.int .i64 (kt : Nat), .int .i64 (kl : Nat), .int .i64 (kn : Nat), .int .i64 (kc : Nat)]) (.agg #[.int .i64 0, .int .i64 0, .int .i64 0, .int .i64 0])).run Tryd.prog w = .ok true w := fun w => by
      rw [eqR4, e4.1, e4.2.1, e4.2.2.1, e4.2.2.2]
      rfl
    have c0 := H10.out.at 0 rfl
    have c1 := H10.out.at 1 rfl
    have c3 := H10.out.at 3 rfl
    clear e4
    go_wp2
    go_ret
    exact ⟨rfl, HB.out⟩
  obtain ⟨g, o, cp, e, hcap, hgs, hcell⟩ := HG.out.open (by rw [← HRW.out]; omega)
  injection e with e1 e2 e3
  subst e1 e3
  clear e2
  have h0 := hcell 0 (by rw [← HRW.out]; omega)
  rw [Nat.add_zero] at h0
  obtain ⟨xa, xc, ex⟩ := (HG.out.row (i := 0) (by rw [← HRW.out]; omega)).shape
  rw [(HGG.out.at (i := 0) (by rw [← HRW.out]; omega)).2.1] at ex
  rw [ex] at h0
  have hgt : (rows : Int) > 0 := by omega
  obtain ⟨ga, hga⟩ : ∃ ga : Option Addr, ga = some ⟨g, o, none⟩ := ⟨_, rfl⟩
  clear hcell hcap hgs ex hr0
  clear hga
  have a0 := H4.out.at 0 rfl
  have a1 := H4.out.at 1 rfl
  have a2 := H4.out.at 2 rfl
  have a3 := H4.out.at 3 rfl
  have a4 := H4.out.at 4 rfl
  have a5 := H4.out.at 5 rfl
  have a6 := H4.out.at 6 rfl
  have a7 := H4.out.at 7 rfl
  have a8 := H4.out.at 8 rfl
  have a9 := H4.out.at 9 rfl
  have a10 := H4.out.at 10 rfl
  have a11 := H4.out.at 11 rfl
  have a12 := H4.out.at 12 rfl
  go_wp2_with fail
  refine (rect1_any w2 a HA.out).mono ?_
  rintro e v1 ⟨rfl, b1⟩
  replace H4 := Lib.hid (H4.out.below b1)
  replace H5 := Lib.hid (H5.out.below b1)
  replace HG := Lib.hid (HG.out.below b1)
  replace HB := Lib.hid (HB.out.trans (b1.mono HB.out.size))
  clear b1
  clear a0 a1 a2 a3 a4 a5 a6 a7 a8 a9 a10 a11 a12
  have HRO := Lib.hid (rectM_ok HA.out)
  go_wp2_with fail
  refine (clip_any v1 (rectM a) rows m HRO.out (by have := HR8.out; omega) (by have := HM.out; omega)).mono ?_
  rintro e v2 ⟨rfl, b1⟩
  replace H4 := Lib.hid (H4.out.below b1)
  replace H5 := Lib.hid (H5.out.below b1)
  replace HG := Lib.hid (HG.out.below b1)
  replace HB := Lib.hid (HB.out.trans (b1.mono HB.out.size))
  clear b1
  obtain ⟨k, hk⟩ : ∃ k, k = clipM (rectM a) rows m := ⟨_, rfl⟩
  have HKC := Lib.hid (show clipM (rectM a) G.length m = k by rw [hk, ← HRW.out])
  have HKI := Lib.hid (show k.In G.length m by rw [← HKC.out]; exact clip_in _ _ _)
  have HKS := Lib.hid (show clipM k.r4 rows m = k by rw [HRW.out]; exact clip_self HKI.out)
  have HKK := Lib.hid (show clipM k.r4 G.length m = k from clip_self HKI.out)
  have HKO := Lib.hid (HKI.out.ok (by have := HGG.out.n1; omega) (by have := HGG.out.m1; omega))
  rw [← hk]
  clear hk
  obtain ⟨kt, kl, kn, kc⟩ := k
  try dsimp only [rkV]
  obtain ⟨b10, hb10⟩ : ∃ b, b = v2.heap.size := ⟨_, rfl⟩
  obtain ⟨v3, hv3⟩ : ∃ X', X' = v2.alloc (.cells #[.int .i64 (kt : Nat), .int .i64 (kl : Nat), .int .i64 (kn : Nat), .int .i64 (kc : Nat)] 30) := ⟨_, rfl⟩
  have b1 : Below v2.heap.size v2 v3 := by rw [hv3]; exact (Below.refl _ _).alloc (Nat.le_refl _) _
  have H10 := Lib.hid (show Lie v3 b10 [.int .i64 (kt : Nat), .int .i64 (kl : Nat), .int .i64 (kn : Nat), .int .i64 (kc : Nat)] by rw [hv3]; exact Lie.new v2 _ _ b10 hb10)
  replace H4 := Lib.hid (H4.out.below b1)
  replace H5 := Lib.hid (H5.out.below b1)
  replace HG := Lib.hid (HG.out.below b1)
  replace HB := Lib.hid (HB.out.trans (b1.mono HB.out.size))
  clear b1
  go_upto_region 8 with (fail)
  rw [← hv3, ← hb10]
  clear hv3 hb10
  have a0 := H4.out.at 0 rfl
  have a1 := H4.out.at 1 rfl
  have a2 := H4.out.at 2 rfl
  have a3 := H4.out.at 3 rfl
  have a4 := H4.out.at 4 rfl
  have a5 := H4.out.at 5 rfl
  have a6 := H4.out.at 6 rfl
  have a7 := H4.out.at 7 rfl
  have a8 := H4.out.at 8 rfl
  have a9 := H4.out.at 9 rfl
  have a10 := H4.out.at 10 rfl
  have a11 := H4.out.at 11 rfl
  have a12 := H4.out.at 12 rfl
  go_wp2_with fail
  refine (rect1_any v3 a HA.out).mono ?_
  rintro e v4 ⟨rfl, b1⟩
  replace H4 := Lib.hid (H4.out.below b1)
  replace H5 := Lib.hid (H5.out.below b1)
  replace HG := Lib.hid (HG.out.below b1)
  replace H10 := Lib.hid (H10.out.below b1)
  replace HB := Lib.hid (HB.out.trans (b1.mono HB.out.size))
  clear b1
  clear a0 a1 a2 a3 a4 a5 a6 a7 a8 a9 a10 a11 a12
  go_wp2_with fail
  refine (suml_k HG.out HGG.out HRO.out HKC.out).mono ?_
  rintro e v5 ⟨rfl, b1⟩
  replace H4 := Lib.hid (H4.out.below b1)
  replace H5 := Lib.hid (H5.out.below b1)
  replace HG := Lib.hid (HG.out.below b1)
  replace H10 := Lib.hid (H10.out.below b1)
  replace HB := Lib.hid (HB.out.trans (b1.mono HB.out.size))
  clear b1
  obtain ⟨N, hN⟩ : ∃ N, N = sumK G ⟨kt, kl, kn, kc⟩ := ⟨_, rfl⟩
  obtain ⟨V, hV⟩ : ∃ V, V = levK G ⟨kt, kl, kn, kc⟩ := ⟨_, rfl⟩
  have HSG := Lib.hid (fun (w : World) (h : GSee w (.slice (some ⟨g, o, none⟩) rows gc') G U) => (show Calls Tryd.prog 15 #[.slice (some ⟨g, o, none⟩) rows gc', .agg #[.int .i64 (kt : Nat), .int .i64 (kl : Nat), .int .i64 (kn : Nat), .int .i64 (kc : Nat)]] w fun x w' => x = .returned (.tuple #[.int .u16 N, .int .u8 V]) ∧ Below w.heap.size w w' by
    have := suml_k h HGG.out HKO.out HKK.out
    rw [← hN, ← hV] at this
    exact this))
  rw [← hN, ← hV]
  have HN := Lib.hid hN
  have HV := Lib.hid hV
  clear hN hV
  have c0 := H10.out.at 0 rfl
  have c1 := H10.out.at 1 rfl
  have c2 := H10.out.at 2 rfl
  have c3 := H10.out.at 3 rfl
  go_wp2_with fail
  refine (HSG.out _ HG.out).mono ?_
  rintro e v6 ⟨rfl, b1⟩
  replace H4 := Lib.hid (H4.out.below b1)
  replace H5 := Lib.hid (H5.out.below b1)
  replace HG := Lib.hid (HG.out.below b1)
  replace H10 := Lib.hid (H10.out.below b1)
  replace HB := Lib.hid (HB.out.trans (b1.mono HB.out.size))
  clear b1
  clear c0 c1 c2 c3 HSG
  have HNO := Lib.hid (fun (w : World) (h : GSee w (.slice (some ⟨g, o, none⟩) rows gc') G U) => (show Calls Tryd.prog 15 #[.slice (some ⟨g, o, none⟩) rows gc', .agg #[.int .i64 3, .int .i64 3, .int .i64 (-1), .int .i64 9]] w fun x w' => x = .returned (.tuple #[.int .u16 0, .int .u8 0]) ∧ Below w.heap.size w w' by
    have := suml_k h HGG.out (r := ⟨3, 3, -1, 9⟩) (ok_of (by decide)) (sum_none G m)
    rw [(sumK_z G).1, (sumK_z G).2] at this
    exact this))
  go_wp2_with fail
  refine (HNO.out _ HG.out).mono ?_
  rintro e v7 ⟨rfl, b1⟩
  replace H4 := Lib.hid (H4.out.below b1)
  replace H5 := Lib.hid (H5.out.below b1)
  replace HG := Lib.hid (HG.out.below b1)
  replace H10 := Lib.hid (H10.out.below b1)
  replace HB := Lib.hid (HB.out.trans (b1.mono HB.out.size))
  clear b1
  clear HNO
  have KEEP := Lib.hid (show ∀ W', Below v7.heap.size v7 W' → (fun wx => wx.cell? ⟨b10, 0, none⟩ = some (.int .i64 (kt : Nat)) ∧ wx.cell? ⟨b10, 1, none⟩ = some (.int .i64 (kl : Nat)) ∧ wx.cell? ⟨b10, 2, none⟩ = some (.int .i64 (kn : Nat)) ∧ wx.cell? ⟨b10, 3, none⟩ = some (.int .i64 (kc : Nat))) W' from fun W' kb => by
    have h := H10.out.below kb
    exact ⟨h.at 0 rfl, h.at 1 rfl, h.at 2 rfl, h.at 3 rfl⟩)
  have HCL := Lib.hid (fun w => (show Calls Tryd.prog 17 #[.agg #[.int .i64 (kt : Nat), .int .i64 (kl : Nat), .int .i64 (kn : Nat), .int .i64 (kc : Nat)], .int .i64 (rows : Nat), .int .i64 (m : Nat)] w fun x w' => x = .returned (.agg #[.int .i64 (kt : Nat), .int .i64 (kl : Nat), .int .i64 (kn : Nat), .int .i64 (kc : Nat)]) ∧ Below w.heap.size w w' by
    have := clip_any w (Rk.r4 ⟨kt, kl, kn, kc⟩) rows m HKO.out (by have := HR8.out; omega) (by have := HM.out; omega)
    rw [HKS.out] at this
    exact this))
  have hq := fun w => eqR4_self w (kt : Nat) (kl : Nat) (kn : Nat) (kc : Nat)
  go_wp2_with fail
  refine wp_region_held_drew (S := (fun wx => wx.cell? ⟨b10, 0, none⟩ = some (.int .i64 (kt : Nat)) ∧ wx.cell? ⟨b10, 1, none⟩ = some (.int .i64 (kl : Nat)) ∧ wx.cell? ⟨b10, 2, none⟩ = some (.int .i64 (kn : Nat)) ∧ wx.cell? ⟨b10, 3, none⟩ = some (.int .i64 (kc : Nat)))) (by kernel_rfl) ?_ (fun hHeld => ?_)
  · exact KEEP.out _ ((Below.refl _ _).drew)
  obtain ⟨v8, hwd⟩ : ∃ X, X = v7.drew := ⟨_, rfl⟩
  have HX := Lib.hid (show Below v7.heap.size v7 v8 by rw [hwd]; exact (Below.refl _ _).drew)
  replace hHeld := KEEP.out _ HX.out
  rw [← hwd]
  clear hwd
  replace H4 := Lib.hid (H4.out.below HX.out)
  replace H5 := Lib.hid (H5.out.below HX.out)
  replace HG := Lib.hid (HG.out.below HX.out)
  replace H10 := Lib.hid (H10.out.below HX.out)
  replace HB := Lib.hid (HB.out.trans (HX.out.mono HB.out.size))
  refine tk 0 rfl (fun w hSw => by (try dsimp only at hSw); go_simp; try with_reducible rfl) ?_
  go_frame
  refine tk 1 rfl (fun w hSw => by (try dsimp only at hSw); go_simp; try with_reducible rfl) ?_
  go_frame
  refine tk 2 rfl (fun w hSw => by (try dsimp only at hSw); go_simp; try with_reducible rfl) ?_
  go_frame
  refine tk 3 rfl (fun w hSw => by (try dsimp only at hSw); go_simp; try with_reducible rfl) ?_
  go_frame
  refine tk 4 rfl (fun w hSw => by (try dsimp only at hSw); go_simp; try with_reducible rfl) ?_
  go_frame
  refine tk 5 rfl (fun w hSw => by (try dsimp only at hSw); go_simp; try with_reducible rfl) ?_
  go_frame
  refine tk 6 rfl (fun w hSw => by (try dsimp only at hSw); go_simp; try with_reducible rfl) ?_
  go_frame
  refine tk 7 rfl (fun w hSw => by (try dsimp only at hSw); go_simp; try with_reducible rfl) ?_
  go_frame
  refine tk 8 rfl (fun w hSw => by (try dsimp only at hSw); go_simp; try with_reducible rfl) ?_
  go_frame
  refine tk 9 rfl (fun w hSw => by (try dsimp only at hSw); go_simp; try with_reducible rfl) ?_
  go_frame
  refine tk 10 rfl (fun w hSw => by (try dsimp only at hSw); go_simp; try with_reducible rfl) ?_
  go_frame
  refine tk 11 rfl (fun w hSw => by (try dsimp only at hSw); go_simp; try with_reducible rfl) ?_
  go_frame
  refine tk 12 rfl (fun w hSw => by (try dsimp only at hSw); go_simp; try with_reducible rfl) ?_
  go_frame
  refine tk 13 rfl (fun w hSw => by (try dsimp only at hSw); go_simp; try with_reducible rfl) ?_
  go_frame
  refine tk 14 rfl (fun w hSw => by (try dsimp only at hSw); go_simp; try with_reducible rfl) ?_
  go_frame
  refine tk 15 rfl (fun w hSw => by (try dsimp only at hSw); go_simp; try with_reducible rfl) ?_
  go_frame
  refine tk 16 rfl (fun w hSw => by (try dsimp only at hSw); go_simp; try with_reducible rfl) ?_
  go_frame
  refine tk 17 rfl (fun w hSw => by (try dsimp only at hSw); go_simp; try with_reducible rfl) ?_
  go_frame
  refine tk 18 rfl (fun w hSw => by (try dsimp only at hSw); go_simp; try with_reducible rfl) ?_
  go_frame
  refine tk 19 rfl (fun w hSw => by (try dsimp only at hSw); go_simp; try with_reducible rfl) ?_
  go_frame
  refine tk 21 rfl (fun w hSw => by (try dsimp only at hSw); go_simp; try with_reducible rfl) ?_
  go_frame
  refine do_at (i := 20) rfl (by kernel_rfl) (by kernel_rfl) (fun K hK => ?_)
  go_simp
  refine (HCL.out _).mono ?_
  rintro e v9 ⟨rfl, b1⟩
  replace HX := Lib.hid (HX.out.trans (b1.mono HX.out.size))
  replace H4 := Lib.hid (H4.out.below b1)
  replace H5 := Lib.hid (H5.out.below b1)
  replace HG := Lib.hid (HG.out.below b1)
  replace H10 := Lib.hid (H10.out.below b1)
  replace HB := Lib.hid (HB.out.trans (b1.mono HB.out.size))
  clear b1
  go_wp2_with fail
  refine hK.out _ _ ?_ (fun hHeld => ?_)
  · exact KEEP.out _ HX.out
  clear hK K
  try go_frame
  refine tk 22 rfl (fun w hSw => by (try dsimp only at hSw); go_simp; try with_reducible rfl) ?_
  go_frame
  refine tk 23 rfl (fun w hSw => by (try dsimp only at hSw); go_simp; try with_reducible rfl) ?_
  go_frame
  refine wpAnyH_done (by kernel_rfl) ?_ _
  clear hHeld KEEP HX HCL hq HKS HRO
  have c2 := H10.out.at 2 rfl
  clear hgt h0
  by_cases hkn : kn = 0 ∨ kc = 0
  · have HKZ := Lib.hid (show (⟨kt, kl, kn, kc⟩ : Rk) = Rk.z from HKI.out.e hkn)
    clear hkn
    have hz : ((kn : Int) == 0) = true := by have := HKZ.out; injection this with _ _ e _; simp [e]
    have e4 : kt = 0 ∧ kl = 0 ∧ kn = 0 ∧ kc = 0 := by have := HKZ.out; injection this with e1 e2 e3 e4; exact ⟨e1, e2, e3, e4⟩
    have hn0 : (N == 0) = true := by rw [HN.out, HKZ.out]; rfl
    have hv0 : (V == 0) = true := by rw [HV.out, HKZ.out]; rfl
    have hq : ∀ w : World, (Op.equalIn 10000 30 (.agg #[.int .i64 (kt : Nat), .int .i64 (kl : Nat), .int .i64 (kn : Nat), .int .i64 (kc : Nat)]) (.agg #[.int .i64 0, .int .i64 0, .int .i64 0, .int .i64 0])).run Tryd.prog w = .ok true w := fun w => by
      rw [eqR4, e4.1, e4.2.1, e4.2.2.1, e4.2.2.2]
      rfl
    have c0 := H10.out.at 0 rfl
    have c1 := H10.out.at 1 rfl
    have c3 := H10.out.at 3 rfl
    clear e4
    go_wp2
    go_ret
    exact ⟨rfl, HB.out⟩
  have HK2 := Lib.hid (show kt + kn ≤ 8 ∧ kl + kc ≤ 31 ∧ 0 < kn ∧ 0 < kc by
    have h1 := HKI.out.r
    have h2 := HKI.out.c
    have := HR8.out
    have := HM.out
    have := HRW.out
    dsimp only at h1 h2
    omega)
  have hz : ((kn : Int) == 0) = false := by have := HK2.out; simp; omega
  clear hkn
  obtain ⟨up, hup⟩ : ∃ u, u = x % (kn + 1) := ⟨_, rfl⟩
  obtain ⟨lf, hlf⟩ : ∃ u, u = y % (kc + 1) := ⟨_, rfl⟩
  have HUL := Lib.hid (show up ≤ kn ∧ lf ≤ kc from ⟨by have := Nat.mod_lt x (show 0 < kn + 1 by omega); omega, by have := Nat.mod_lt y (show 0 < kc + 1 by omega); omega⟩)
  have i1 : IntKind.i64.wrap (x : Int) = (x : Int) := by have := HXY.out; rw [IntKind.wrap_i64]; omega
  have i2 : IntKind.i64.wrap (y : Int) = (y : Int) := by have := HXY.out; rw [IntKind.wrap_i64]; omega
  have i3 : IntKind.i64.wrap ((kn : Int) + 1) = (kn : Int) + 1 := by have := HK2.out; rw [IntKind.wrap_i64]; omega
  have i4 : IntKind.i64.wrap ((kc : Int) + 1) = (kc : Int) + 1 := by have := HK2.out; rw [IntKind.wrap_i64]; omega
  have i5 : Int.tmod (x : Int) ((kn : Int) + 1) = (up : Int) := by rw [hup, show ((kn : Int) + 1) = ((kn + 1 : Nat) : Int) by omega]; rfl
  have i6 : Int.tmod (y : Int) ((kc : Int) + 1) = (lf : Int) := by rw [hlf, show ((kc : Int) + 1) = ((kc + 1 : Nat) : Int) by omega]; rfl
  have i7 : (x : Int) % ((kn : Int) + 1) = (up : Int) := by rw [hup, show ((kn : Int) + 1) = ((kn + 1 : Nat) : Int) by omega]; rfl
  have i8 : (y : Int) % ((kc : Int) + 1) = (lf : Int) := by rw [hlf, show ((kc : Int) + 1) = ((kc + 1 : Nat) : Int) by omega]; rfl
  have i9 : IntKind.i64.wrap (up : Int) = (up : Int) := by have := HUL.out; have := HK2.out; rw [IntKind.wrap_i64]; omega
  have i10 : IntKind.i64.wrap (lf : Int) = (lf : Int) := by have := HUL.out; have := HK2.out; rw [IntKind.wrap_i64]; omega
  have z1 : ((kn : Int) + 1 == 0) = false := by simp; omega
  have z2 : ((kc : Int) + 1 == 0) = false := by simp; omega
  have z3 : ¬ ((kn : Int) + 1 = 0) := by omega
  have z4 : ¬ ((kc : Int) + 1 = 0) := by omega
  clear hup hlf
  go_wp2_with fail
  have KEEP := Lib.hid (show ∀ W', Below v9.heap.size v9 W' → (fun wx => (wx.cell? ⟨b5, 0, none⟩ = some (.int .u8 (x : Nat)) ∧ wx.cell? ⟨b5, 1, none⟩ = some (.int .u8 (y : Nat))) ∧ wx.cell? ⟨b10, 2, none⟩ = some (.int .i64 (kn : Nat)) ∧ wx.cell? ⟨b10, 3, none⟩ = some (.int .i64 (kc : Nat))) W' from fun W' kb => by
    have h := H10.out.below kb
    have g := H5.out.below kb
    exact ⟨⟨g.at 0 rfl, g.at 1 rfl⟩, h.at 2 rfl, h.at 3 rfl⟩)
  refine wp_region_held_drew (S := (fun wx => (wx.cell? ⟨b5, 0, none⟩ = some (.int .u8 (x : Nat)) ∧ wx.cell? ⟨b5, 1, none⟩ = some (.int .u8 (y : Nat))) ∧ wx.cell? ⟨b10, 2, none⟩ = some (.int .i64 (kn : Nat)) ∧ wx.cell? ⟨b10, 3, none⟩ = some (.int .i64 (kc : Nat)))) (by kernel_rfl) ?_ (fun hHeld => ?_)
  · exact KEEP.out _ ((Below.refl _ _).drew)
  obtain ⟨va, hwd⟩ : ∃ X, X = v9.drew := ⟨_, rfl⟩
  have HX := Lib.hid (show Below v9.heap.size v9 va by rw [hwd]; exact (Below.refl _ _).drew)
  replace hHeld := KEEP.out _ HX.out
  rw [← hwd]
  clear hwd
  replace H4 := Lib.hid (H4.out.below HX.out)
  replace H5 := Lib.hid (H5.out.below HX.out)
  replace HG := Lib.hid (HG.out.below HX.out)
  replace H10 := Lib.hid (H10.out.below HX.out)
  replace HB := Lib.hid (HB.out.trans (HX.out.mono HB.out.size))
  refine tk 0 rfl (fun w hSw => by (try dsimp only at hSw); go_simp; try with_reducible rfl) ?_
  go_frame
  refine tk 1 rfl (fun w hSw => by (try dsimp only at hSw); go_simp; try with_reducible rfl) ?_
  go_frame
  refine tk 2 rfl (fun w hSw => by (try dsimp only at hSw); go_simp; try with_reducible rfl) ?_
  go_frame
  refine tk 3 rfl (fun w hSw => by (try dsimp only at hSw); go_simp; try with_reducible rfl) ?_
  go_frame
  refine tk 4 rfl (fun w hSw => by (try dsimp only at hSw); go_simp; try with_reducible rfl) ?_
  go_frame
  refine tk 5 rfl (fun w hSw => by (try dsimp only at hSw); go_simp; try with_reducible rfl) ?_
  go_frame
  refine tk 6 rfl (fun w hSw => by (try dsimp only at hSw); go_simp; try with_reducible rfl) ?_
  go_frame
  refine tk 7 rfl (fun w hSw => by (try dsimp only at hSw); go_simp; try with_reducible rfl) ?_
  go_frame
  refine tk 8 rfl (fun w hSw => by (try dsimp only at hSw); go_simp; try with_reducible rfl) ?_
  go_frame
  refine tk 9 rfl (fun w hSw => by (try dsimp only at hSw); go_simp; try with_reducible rfl) ?_
  go_frame
  refine tk 10 rfl (fun w hSw => by (try dsimp only at hSw); go_simp; try with_reducible rfl) ?_
  go_frame
  refine tk 11 rfl (fun w hSw => by (try dsimp only at hSw); go_simp; try with_reducible rfl) ?_
  go_frame
  refine tk 12 rfl (fun w hSw => by (try dsimp only at hSw); go_simp; try with_reducible rfl) ?_
  go_frame
  refine tk 13 rfl (fun w hSw => by (try dsimp only at hSw); go_simp; try with_reducible rfl) ?_
  go_frame
  refine tk 14 rfl (fun w hSw => by (try dsimp only at hSw); go_simp; try with_reducible rfl) ?_
  go_frame
  refine tk 15 rfl (fun w hSw => by (try dsimp only at hSw); go_simp; try with_reducible rfl) ?_
  go_frame
  refine wpAnyH_done (by kernel_rfl) ?_ _
  clear hHeld KEEP HX i1 i2 i3 i4 i5 i6 i7 i8 z1 z2 z3 z4 c2 hz
  obtain ⟨b, hb⟩ : ∃ b, kn = up + b := ⟨kn - up, by have := HUL.out; omega⟩
  obtain ⟨d, hd⟩ : ∃ d, kc = lf + d := ⟨kc - lf, by have := HUL.out; omega⟩
  have HKB := Lib.hid hb
  have HKD := Lib.hid hd
  have j1 : (kn : Int) - (up : Int) = (b : Int) := by omega
  have j2 : (kc : Int) - (lf : Int) = (d : Int) := by omega
  have HSM := Lib.hid (show kt ≤ 8 ∧ kl ≤ 31 ∧ up ≤ 8 ∧ lf ≤ 31 ∧ b ≤ 8 ∧ d ≤ 31 by have := HK2.out; omega)
  clear hb hd
  have j3 : IntKind.i64.wrap (b : Int) = (b : Int) := by have := HSM.out; rw [IntKind.wrap_i64]; omega
  have j4 : IntKind.i64.wrap (d : Int) = (d : Int) := by have := HSM.out; rw [IntKind.wrap_i64]; omega
  have j5 : IntKind.i64.wrap ((kl : Int) + (lf : Int)) = (kl : Int) + (lf : Int) := by have := HSM.out; rw [IntKind.wrap_i64]; omega
  have j6 : IntKind.i64.wrap ((kt : Int) + (up : Int)) = (kt : Int) + (up : Int) := by have := HSM.out; rw [IntKind.wrap_i64]; omega
  have c0 := H10.out.at 0 rfl
  have c1 := H10.out.at 1 rfl
  have c2 := H10.out.at 2 rfl
  have c3 := H10.out.at 3 rfl
  obtain ⟨b19, hb19⟩ : ∃ b, b = va.heap.size := ⟨_, rfl⟩
  obtain ⟨vb, hvb⟩ : ∃ X', X' = va.alloc (.cells #[.int .i64 (kt : Nat), .int .i64 (kl : Nat), .int .i64 (up : Nat), .int .i64 (lf : Nat), .int .i64 (kt : Nat), .int .i64 ((kl : Int) + (lf : Int)), .int .i64 (up : Nat), .int .i64 (d : Nat), .int .i64 ((kt : Int) + (up : Int)), .int .i64 (kl : Nat), .int .i64 (b : Nat), .int .i64 (lf : Nat), .int .i64 ((kt : Int) + (up : Int)), .int .i64 ((kl : Int) + (lf : Int)), .int .i64 (b : Nat), .int .i64 (d : Nat)] 51) := ⟨_, rfl⟩
  have b1 : Below va.heap.size va vb := by rw [hvb]; exact (Below.refl _ _).alloc (Nat.le_refl _) _
  have H19 := Lib.hid (show Lie vb b19 [.int .i64 (kt : Nat), .int .i64 (kl : Nat), .int .i64 (up : Nat), .int .i64 (lf : Nat), .int .i64 (kt : Nat), .int .i64 ((kl : Int) + (lf : Int)), .int .i64 (up : Nat), .int .i64 (d : Nat), .int .i64 ((kt : Int) + (up : Int)), .int .i64 (kl : Nat), .int .i64 (b : Nat), .int .i64 (lf : Nat), .int .i64 ((kt : Int) + (up : Int)), .int .i64 ((kl : Int) + (lf : Int)), .int .i64 (b : Nat), .int .i64 (d : Nat)] by rw [hvb]; exact Lie.new va _ _ b19 hb19)
  replace HG := Lib.hid (HG.out.below b1)
  replace HB := Lib.hid (HB.out.trans (b1.mono HB.out.size))
  clear b1
  go_upto_region 17 with (fail)
  rw [← hvb, ← hb19]
  clear hvb hb19 j1 j2 j3 j4 j5 j6 c0 c1 c2 c3 H4 H5 H10 i9 i10
  have HP1 := Lib.hid (show kt + up ≤ G.length ∧ kl + (lf + d) ≤ m ∧ kt + (up + b) ≤ G.length by
    have h1 := HKI.out.r
    have h2 := HKI.out.c
    have := HKB.out
    have := HKD.out
    dsimp only at h1 h2
    omega)
  obtain ⟨s, hs⟩ : ∃ s : Nat → Int, s = fun i => (-(if i = 0 then sumF G kt kl up lf else if i = 1 then sumF G kt (kl + lf) up d else if i = 2 then sumF G (kt + up) kl b lf else sumF G (kt + up) (kl + lf) b d)) % 65536 := ⟨_, rfl⟩
  have HS0 := Lib.hid (fun (w : World) (h : GSee w (.slice (some ⟨g, o, none⟩) rows gc') G U) => (show Calls Tryd.prog 15 #[.slice (some ⟨g, o, none⟩) rows gc', .agg #[.int .i64 (kt : Nat), .int .i64 (kl : Nat), .int .i64 (up : Nat), .int .i64 (lf : Nat)]] w fun x w' => x = .returned (.tuple #[.int .u16 (s 0), .int .u8 (levK G (clipM ⟨(kt : Nat), (kl : Nat), (up : Nat), (lf : Nat)⟩ G.length m))]) ∧ Below w.heap.size w w' by
    have := suml_k h HGG.out (r := ⟨(kt : Nat), (kl : Nat), (up : Nat), (lf : Nat)⟩) (part_ok (by have := HSM.out; omega)) rfl
    rw [show sumK G (clipM ⟨(kt : Nat), (kl : Nat), (up : Nat), (lf : Nat)⟩ G.length m) = s 0 by unfold sumK; rw [(sum_part (by have := HP1.out; omega) (by have := HP1.out; omega)).1, hs]; rfl] at this
    exact this))
  have HS1 := Lib.hid (fun (w : World) (h : GSee w (.slice (some ⟨g, o, none⟩) rows gc') G U) => (show Calls Tryd.prog 15 #[.slice (some ⟨g, o, none⟩) rows gc', .agg #[.int .i64 (kt : Nat), .int .i64 ((kl : Int) + (lf : Int)), .int .i64 (up : Nat), .int .i64 (d : Nat)]] w fun x w' => x = .returned (.tuple #[.int .u16 (s 1), .int .u8 (levK G (clipM ⟨(kt : Nat), ((kl + lf : Nat) : Int), (up : Nat), (d : Nat)⟩ G.length m))]) ∧ Below w.heap.size w w' by
    have := suml_k h HGG.out (r := ⟨(kt : Nat), ((kl + lf : Nat) : Int), (up : Nat), (d : Nat)⟩) (part_ok (by have := HSM.out; omega)) rfl
    rw [show sumK G (clipM ⟨(kt : Nat), ((kl + lf : Nat) : Int), (up : Nat), (d : Nat)⟩ G.length m) = s 1 by unfold sumK; rw [(sum_part (by have := HP1.out; omega) (by have := HP1.out; omega)).1, hs]; rfl] at this
    exact this))
  have HS2 := Lib.hid (fun (w : World) (h : GSee w (.slice (some ⟨g, o, none⟩) rows gc') G U) => (show Calls Tryd.prog 15 #[.slice (some ⟨g, o, none⟩) rows gc', .agg #[.int .i64 ((kt : Int) + (up : Int)), .int .i64 (kl : Nat), .int .i64 (b : Nat), .int .i64 (lf : Nat)]] w fun x w' => x = .returned (.tuple #[.int .u16 (s 2), .int .u8 (levK G (clipM ⟨((kt + up : Nat) : Int), (kl : Nat), (b : Nat), (lf : Nat)⟩ G.length m))]) ∧ Below w.heap.size w w' by
    have := suml_k h HGG.out (r := ⟨((kt + up : Nat) : Int), (kl : Nat), (b : Nat), (lf : Nat)⟩) (part_ok (by have := HSM.out; omega)) rfl
    rw [show sumK G (clipM ⟨((kt + up : Nat) : Int), (kl : Nat), (b : Nat), (lf : Nat)⟩ G.length m) = s 2 by unfold sumK; rw [(sum_part (by have := HP1.out; omega) (by have := HP1.out; omega)).1, hs]; rfl] at this
    exact this))
  have HS3 := Lib.hid (fun (w : World) (h : GSee w (.slice (some ⟨g, o, none⟩) rows gc') G U) => (show Calls Tryd.prog 15 #[.slice (some ⟨g, o, none⟩) rows gc', .agg #[.int .i64 ((kt : Int) + (up : Int)), .int .i64 ((kl : Int) + (lf : Int)), .int .i64 (b : Nat), .int .i64 (d : Nat)]] w fun x w' => x = .returned (.tuple #[.int .u16 (s 3), .int .u8 (levK G (clipM ⟨((kt + up : Nat) : Int), ((kl + lf : Nat) : Int), (b : Nat), (d : Nat)⟩ G.length m))]) ∧ Below w.heap.size w w' by
    have := suml_k h HGG.out (r := ⟨((kt + up : Nat) : Int), ((kl + lf : Nat) : Int), (b : Nat), (d : Nat)⟩) (part_ok (by have := HSM.out; omega)) rfl
    rw [show sumK G (clipM ⟨((kt + up : Nat) : Int), ((kl + lf : Nat) : Int), (b : Nat), (d : Nat)⟩ G.length m) = s 3 by unfold sumK; rw [(sum_part (by have := HP1.out; omega) (by have := HP1.out; omega)).1, hs]; rfl] at this
    exact this))
  have HAC := Lib.hid (show accM s 4 = N by
    have h4 := sumF_four G kt kl up b lf d
    rw [HN.out, HKB.out, HKD.out]
    show _ = (-(sumF G kt kl (up + b) (lf + d))) % 65536
    have q0 : s 0 = (-(sumF G kt kl up lf)) % 65536 := by rw [hs]; rfl
    have q1 : s 1 = (-(sumF G kt (kl + lf) up d)) % 65536 := by rw [hs]; rfl
    have q2 : s 2 = (-(sumF G (kt + up) kl b lf)) % 65536 := by rw [hs]; rfl
    have q3 : s 3 = (-(sumF G (kt + up) (kl + lf) b d)) % 65536 := by rw [hs]; rfl
    show ((((0 + s 0) % 65536 + s 1) % 65536 + s 2) % 65536 + s 3) % 65536 = _
    rw [h4, q0, q1, q2, q3]
    omega)
  have HVA := Lib.hid (show b01 (levA G m [⟨(kt : Nat), (kl : Nat), (up : Nat), (lf : Nat)⟩, ⟨(kt : Nat), ((kl + lf : Nat) : Int), (up : Nat), (d : Nat)⟩, ⟨((kt + up : Nat) : Int), (kl : Nat), (b : Nat), (lf : Nat)⟩, ⟨((kt + up : Nat) : Int), ((kl + lf : Nat) : Int), (b : Nat), (d : Nat)⟩]) = V by
    rw [lev_four G m kt kl 0 up b lf d (by have := HP1.out; omega) (by have := HP1.out; omega), HV.out, HKB.out, HKD.out]
    rfl)
  have HWR := Lib.hid (fun i => (show IntKind.u16.wrap (accM s i + s i) = accM s (i + 1) by rw [wrapu]; rfl))
  clear hs
  go_wp2
  go_loopg [20, 21] 4 (fun gl vs vi wr => ∃ (i : Nat), vs = .int .u16 (accM s i) ∧ vi = .int .i64 i ∧ i ≤ 4 ∧ 4 - i ≤ gl ∧ Hid (Below vb.heap.size vb wr))
  case atStart => exact ⟨0, rfl, rfl, Nat.zero_le _, Nat.sub_le _ _, Lib.hid (Below.refl _ _)⟩
  case round =>
    obtain ⟨i, rfl, rfl, hin, hgi, HBI⟩ := hrel
    have hl19 := H19.out.below HBI.out
    have HGI := Lib.hid (HG.out.below HBI.out)
    match i, hin with
    | 0, _ =>
      have e0 := hl19.at 0 rfl
      have e1 := hl19.at 1 rfl
      have e2 := hl19.at 2 rfl
      have e3 := hl19.at 3 rfl
      have hw := HWR.out 0
      clear hl19
      go_wp2_with fail
      refine (HS0.out _ HGI.out).mono ?_
      rintro e wn ⟨rfl, b1⟩
      have HBN := Lib.hid (HBI.out.trans (b1.mono HBI.out.size))
      clear b1 HBI HGI e0 e1 e2 e3
      go_wp2
      go_roundg 3
      case rel => exact ⟨1, by first | rfl | (rw [← hw]) | (rw [hw]), by go_num, by omega, Nat.le_refl _, HBN⟩
      case measure => omega
    | 1, _ =>
      have e0 := hl19.at 4 rfl
      have e1 := hl19.at 5 rfl
      have e2 := hl19.at 6 rfl
      have e3 := hl19.at 7 rfl
      have hw := HWR.out 1
      clear hl19
      go_wp2_with fail
      refine (HS1.out _ HGI.out).mono ?_
      rintro e wn ⟨rfl, b1⟩
      have HBN := Lib.hid (HBI.out.trans (b1.mono HBI.out.size))
      clear b1 HBI HGI e0 e1 e2 e3
      go_wp2
      go_roundg 2
      case rel => exact ⟨2, by first | rfl | (rw [← hw]) | (rw [hw]), by go_num, by omega, Nat.le_refl _, HBN⟩
      case measure => omega
    | 2, _ =>
      have e0 := hl19.at 8 rfl
      have e1 := hl19.at 9 rfl
      have e2 := hl19.at 10 rfl
      have e3 := hl19.at 11 rfl
      have hw := HWR.out 2
      clear hl19
      go_wp2_with fail
      refine (HS2.out _ HGI.out).mono ?_
      rintro e wn ⟨rfl, b1⟩
      have HBN := Lib.hid (HBI.out.trans (b1.mono HBI.out.size))
      clear b1 HBI HGI e0 e1 e2 e3
      go_wp2
      go_roundg 1
      case rel => exact ⟨3, by first | rfl | (rw [← hw]) | (rw [hw]), by go_num, by omega, Nat.le_refl _, HBN⟩
      case measure => omega
    | 3, _ =>
      have e0 := hl19.at 12 rfl
      have e1 := hl19.at 13 rfl
      have e2 := hl19.at 14 rfl
      have e3 := hl19.at 15 rfl
      have hw := HWR.out 3
      clear hl19
      go_wp2_with fail
      refine (HS3.out _ HGI.out).mono ?_
      rintro e wn ⟨rfl, b1⟩
      have HBN := Lib.hid (HBI.out.trans (b1.mono HBI.out.size))
      clear b1 HBI HGI e0 e1 e2 e3
      go_wp2
      go_roundg 0
      case rel => exact ⟨4, by first | rfl | (rw [← hw]) | (rw [hw]), by go_num, by omega, Nat.le_refl _, HBN⟩
      case measure => omega
    | 4, _ =>
      have e0 := hl19.at 0 rfl
      have e1 := hl19.at 1 rfl
      have e2 := hl19.at 2 rfl
      have e3 := hl19.at 3 rfl
      have e4 := hl19.at 4 rfl
      have e5 := hl19.at 5 rfl
      have e6 := hl19.at 6 rfl
      have e7 := hl19.at 7 rfl
      have e8 := hl19.at 8 rfl
      have e9 := hl19.at 9 rfl
      have e10 := hl19.at 10 rfl
      have e11 := hl19.at 11 rfl
      have e12 := hl19.at 12 rfl
      have e13 := hl19.at 13 rfl
      have e14 := hl19.at 14 rfl
      have e15 := hl19.at 15 rfl
      have ha := HAC.out
      have hnn : (accM s 4 == N) = true := by rw [ha]; simp
      obtain ⟨bz, hbz⟩ : ∃ b, b = wr.heap.size := ⟨_, rfl⟩
      obtain ⟨wz, hwz⟩ : ∃ X', X' = wr.alloc (.cells #[.int .i64 (kt : Nat), .int .i64 (kl : Nat), .int .i64 (up : Nat), .int .i64 (lf : Nat), .int .i64 (kt : Nat), .int .i64 ((kl : Int) + (lf : Int)), .int .i64 (up : Nat), .int .i64 (d : Nat), .int .i64 ((kt : Int) + (up : Int)), .int .i64 (kl : Nat), .int .i64 (b : Nat), .int .i64 (lf : Nat), .int .i64 ((kt : Int) + (up : Int)), .int .i64 ((kl : Int) + (lf : Int)), .int .i64 (b : Nat), .int .i64 (d : Nat)] 30) := ⟨_, rfl⟩
      have hbb : Below wr.heap.size wr wz := by rw [hwz]; exact (Below.refl _ _).alloc (Nat.le_refl _) _
      have HZL := Lib.hid (show Lie wz bz [.int .i64 (kt : Nat), .int .i64 (kl : Nat), .int .i64 (up : Nat), .int .i64 (lf : Nat), .int .i64 (kt : Nat), .int .i64 ((kl : Int) + (lf : Int)), .int .i64 (up : Nat), .int .i64 (d : Nat), .int .i64 ((kt : Int) + (up : Int)), .int .i64 (kl : Nat), .int .i64 (b : Nat), .int .i64 (lf : Nat), .int .i64 ((kt : Int) + (up : Int)), .int .i64 ((kl : Int) + (lf : Int)), .int .i64 (b : Nat), .int .i64 (d : Nat)] by rw [hwz]; exact Lie.new wr _ _ bz hbz)
      have HGZ := Lib.hid (HGI.out.below hbb)
      have HBZ := Lib.hid (HBI.out.trans (hbb.mono HBI.out.size))
      clear hl19 hbb HBI HGI ha
      go_wp2_with fail
      rw [← hwz, ← hbz]
      clear hwz hbz e0 e1 e2 e3 e4 e5 e6 e7 e8 e9 e10 e11 e12 e13 e14 e15
      refine (level12_any wz _ G U m (some ⟨bz, 0, none⟩) 4 4 [⟨(kt : Nat), (kl : Nat), (up : Nat), (lf : Nat)⟩, ⟨(kt : Nat), ((kl + lf : Nat) : Int), (up : Nat), (d : Nat)⟩, ⟨((kt + up : Nat) : Int), (kl : Nat), (b : Nat), (lf : Nat)⟩, ⟨((kt + up : Nat) : Int), ((kl + lf : Nat) : Int), (b : Nat), (d : Nat)⟩] HGZ.out HGG.out (fun j hj => by
        have hj4 : j < 4 := hj
        refine ⟨bz, 0, rfl, HZL.out.1, ?_⟩
        have hsm := HSM.out
        match j, hj4 with
        | 0, _ => exact ⟨⟨HZL.out.at 0 rfl, HZL.out.at 1 rfl, HZL.out.at 2 rfl, HZL.out.at 3 rfl⟩, part_ok (by omega)⟩
        | 1, _ => exact ⟨⟨HZL.out.at 4 rfl, HZL.out.at 5 rfl, HZL.out.at 6 rfl, HZL.out.at 7 rfl⟩, part_ok (by omega)⟩
        | 2, _ => exact ⟨⟨HZL.out.at 8 rfl, HZL.out.at 9 rfl, HZL.out.at 10 rfl, HZL.out.at 11 rfl⟩, part_ok (by omega)⟩
        | 3, _ => exact ⟨⟨HZL.out.at 12 rfl, HZL.out.at 13 rfl, HZL.out.at 14 rfl, HZL.out.at 15 rfl⟩, part_ok (by omega)⟩) rfl (Nat.le_refl _) (by decide)).mono ?_
      rw [HVA.out]
      rintro e wy ⟨rfl, b1⟩
      have HBY := Lib.hid (HBZ.out.trans (b1.mono HBZ.out.size))
      clear b1 HBZ HGZ HZL
      go_wp2
      go_ret
      exact ⟨rfl, HB.out.trans (HBY.out.mono HB.out.size)⟩
set_option maxRecDepth 100000 in
theorem rectSums_walk {H : Type} (enc : TypeId × Value → H) (base : Nat) (W : World) (hT : Tabs W)
    (v0 : Value) (d0 : DataW H) (p0 : List MemPlace) (ok0 : Value.okWide Tryd.prog W .any base 24 v0) (k0 : DataW.Trod enc Tryd.prog W 0 (fun _ => true) true 24 v0 d0 p0)
    (v1 : Value) (d1 : DataW H) (p1 : List MemPlace) (ok1 : Value.okWide Tryd.prog W .any base 36 v1) (k1 : DataW.Trod enc Tryd.prog W 0 (fun _ => true) true 36 v1 d1 p1)
    (v2 : Value) (d2 : DataW H) (p2 : List MemPlace) (ok2 : Value.okWide Tryd.prog W .any base 48 v2) (k2 : DataW.Trod enc Tryd.prog W 0 (fun _ => true) true 48 v2 d2 p2) :
    Calls Tryd.prog 5 #[v0, v1, v2] W fun e w' => e = .returned (.bool true) ∧ Below W.heap.size W w' := by
  obtain ⟨cols, u, LL, rfl, hc, hL⟩ := open_gdraft enc base W ok0 k0
  obtain ⟨a, rfl, ha⟩ := open_ac enc base W ok1 k1
  obtain ⟨x, y, rfl, hx, hy⟩ := open_two enc W k2 (by
    simp only [Value.okWide, Tryd.underlying48] at ok2
    obtain ⟨cs, h1, _⟩ := ok2
    exact ⟨cs, h1⟩)
  exact sums_core W cols u LL a x y hc hL ha hT hx hy
end Go.Proofs.YtlaafmjiiiaceaaDoor.Lab
