/- RectBlind. -/
import Derived.Test.YtlaafmjiiiaceaaDoorRcWorks
import Derived.Test.YtlaafmjiiiaceaaDoorRcKeep
import Derived.Test.YtlaafmjiiiaceaaDoorRcOther
import Derived.Test.YtlaafmjiiiaceaaDoorRcLow
import Derived.Test.YtlaafmjiiiaceaaDoorRcOpen
import Derived.Test.YtlaafmjiiiaceaaDoorWiLaid
set_option linter.unusedVariables false
namespace Go.Proofs.YtlaafmjiiiaceaaDoor.Lab
open Go Go.RowKit

theorem suml_k {w : World} {v : Value} {G : List Cls} {U : Nat → Value} {m : Nat} {r : R4} {k : Rk} (h : GSee w v G U) (hg : GG G m) (hr : r.Ok) (hk : clipM r G.length m = k) :
    Calls Tryd.prog 15 #[v, r4V r] w fun x w' => x = .returned (.tuple #[.int .u16 (sumK G k), .int .u8 (levK G k)]) ∧ Below w.heap.size w w' := by
  have := suml_any w v G U m r h hg hr
  rwa [hk] at this
theorem AcsIn.at {w : World} {a : Option Addr} {len : Nat} {T : Nat → Ac} {i : Nat} (h : AcsIn w a len T) (hi : i < len) : ∃ b o, a = some ⟨b, o, none⟩ ∧ (T i).ok ∧ Ac13 w b (o + i * 13) (T i) := by
  obtain ⟨b, o, e, _, hc⟩ := h.2.2 (by omega)
  exact ⟨b, o, e, h.2.1 i hi, hc i hi⟩
set_option maxHeartbeats 16000000 in
set_option maxRecDepth 100000 in
theorem blind_core (W : World) (cols : Nat) (u : Value) (LL : List (List Dc)) (cols2 : Nat) (u2 : Value) (OO : List (List Dc)) (aa : Option Addr) (len cap : Nat) (T : Nat → Ac) (hc : cols < 256) (hL : LnsIn W u LL) (hO : LnsIn W u2 OO) (hA : AcsIn W aa len T) (hT : Tabs W) :
    Calls Tryd.prog 4 #[.agg #[.int .u8 (cols : Nat), u], .agg #[.int .u8 (cols2 : Nat), u2], .slice aa len cap] W fun e w' => e = .returned (.bool true) ∧ Below W.heap.size W w' := by
  obtain ⟨la, lc, eu⟩ := hL.shape
  obtain ⟨ln, hln⟩ : ∃ n, n = LL.length := ⟨_, rfl⟩
  rw [← hln] at eu
  subst eu
  obtain ⟨ma, mc, eu⟩ := hO.shape
  obtain ⟨mn, hmn⟩ : ∃ n, n = OO.length := ⟨_, rfl⟩
  rw [← hmn] at eu
  subst eu
  obtain ⟨b3, hb3⟩ : ∃ b, b = W.heap.size := ⟨_, rfl⟩
  obtain ⟨b4, hb4⟩ : ∃ b, b = W.heap.size + 1 := ⟨_, rfl⟩
  obtain ⟨w0, hw0⟩ : ∃ x, x = (W.alloc (.cells #[.int .u8 (cols : Nat), .slice la ln lc] 24)).alloc (.cells #[.int .u8 (cols2 : Nat), .slice ma mn mc] 24) := ⟨_, rfl⟩
  have HB := Lib.hid (show Below W.heap.size W w0 by rw [hw0]; exact ((Below.refl _ _).alloc (Nat.le_refl _) _).alloc (by simp) _)
  have H3 := Lib.hid (show Lie w0 b3 [.int .u8 (cols : Nat), .slice la ln lc] by rw [hw0]; exact (Lie.new W _ _ b3 hb3).below ((Below.refl _ _).alloc (Nat.le_refl _) _))
  have H4 := Lib.hid (show Lie w0 b4 [.int .u8 (cols2 : Nat), .slice ma mn mc] by rw [hw0]; exact Lie.new _ _ _ b4 (by rw [hb4]; simp))
  have HT := Lib.hid (hT.below HB.out)
  have HLN := Lib.hid (hL.below HB.out)
  have HON := Lib.hid (hO.below HB.out)
  have HAS := Lib.hid (hA.below HB.out)
  have HC := Lib.hid hc
  clear hc hT hL hO hA hln hmn
  go_enter Tryd.func4, Tryd.ntmps4
  go_upto_region 1 with (fail)
  rw [← hw0, ← hb4, ← hb3]
  clear hw0 hb3 hb4
  go_wp2_with fail
  refine (works_any w0 HT.out).mono ?_
  rintro e w1 ⟨rfl, b1⟩
  replace H3 := Lib.hid (H3.out.below b1)
  replace H4 := Lib.hid (H4.out.below b1)
  replace HT := Lib.hid (HT.out.below b1)
  replace HLN := Lib.hid (HLN.out.below b1)
  replace HON := Lib.hid (HON.out.below b1)
  replace HAS := Lib.hid (HAS.out.below b1)
  replace HB := Lib.hid (HB.out.trans (b1.mono HB.out.size))
  clear b1
  have KEEP := Lib.hid (show ∀ W', Below w1.heap.size w1 W' → (fun wx => (wx.cell? ⟨b3, 0, none⟩ = some (.int .u8 (cols : Nat)) ∧ wx.cell? ⟨b3, 1, none⟩ = some (.slice la ln lc)) ∧ wx.cell? ⟨b4, 0, none⟩ = some (.int .u8 (cols2 : Nat)) ∧ wx.cell? ⟨b4, 1, none⟩ = some (.slice ma mn mc)) W' from fun W' kb => by
    have h := H3.out.below kb
    have g := H4.out.below kb
    exact ⟨⟨h.at 0 rfl, h.at 1 rfl⟩, g.at 0 rfl, g.at 1 rfl⟩)
  go_wp2_with fail
  refine wp_region_held_drew (S := (fun wx => (wx.cell? ⟨b3, 0, none⟩ = some (.int .u8 (cols : Nat)) ∧ wx.cell? ⟨b3, 1, none⟩ = some (.slice la ln lc)) ∧ wx.cell? ⟨b4, 0, none⟩ = some (.int .u8 (cols2 : Nat)) ∧ wx.cell? ⟨b4, 1, none⟩ = some (.slice ma mn mc))) (by kernel_rfl) ?_ (fun hHeld => ?_)
  · exact KEEP.out _ ((Below.refl _ _).drew)
  obtain ⟨wd, hwd⟩ : ∃ X, X = w1.drew := ⟨_, rfl⟩
  have HX := Lib.hid (show Below w1.heap.size w1 wd by rw [hwd]; exact (Below.refl _ _).drew)
  replace hHeld := KEEP.out _ HX.out
  rw [← hwd]
  clear hwd
  replace H3 := Lib.hid (H3.out.below HX.out)
  replace H4 := Lib.hid (H4.out.below HX.out)
  replace HT := Lib.hid (HT.out.below HX.out)
  replace HLN := Lib.hid (HLN.out.below HX.out)
  replace HON := Lib.hid (HON.out.below HX.out)
  replace HAS := Lib.hid (HAS.out.below HX.out)
  replace HB := Lib.hid (HB.out.trans (HX.out.mono HB.out.size))
  refine tk 0 rfl (fun w hSw => by (try dsimp only at hSw); go_simp; try with_reducible rfl) ?_
  go_frame
  refine tk 2 rfl (fun w hSw => by (try dsimp only at hSw); go_simp; try with_reducible rfl) ?_
  go_frame
  refine tk 3 rfl (fun w hSw => by (try dsimp only at hSw); go_simp; try with_reducible rfl) ?_
  go_frame
  refine do_at (i := 1) rfl (by kernel_rfl) (by kernel_rfl) (fun K hK => ?_)
  go_simp
  refine (rgrid12_any wd cols _ LL HC.out HLN.out).mono ?_
  rintro e w2 ⟨gv, U, rfl, hG, b1⟩
  have HG := Lib.hid (hG.below (Below.refl _ _))
  clear hG
  replace HX := Lib.hid (HX.out.trans (b1.mono HX.out.size))
  replace H3 := Lib.hid (H3.out.below b1)
  replace H4 := Lib.hid (H4.out.below b1)
  replace HT := Lib.hid (HT.out.below b1)
  replace HLN := Lib.hid (HLN.out.below b1)
  replace HON := Lib.hid (HON.out.below b1)
  replace HAS := Lib.hid (HAS.out.below b1)
  replace HB := Lib.hid (HB.out.trans (b1.mono HB.out.size))
  clear b1
  go_wp2_with fail
  refine hK.out _ _ ?_ (fun hHeld => ?_)
  · exact KEEP.out _ HX.out
  clear hK K
  try go_frame
  refine do_at (i := 4) rfl (by kernel_rfl) (by kernel_rfl) (fun K hK => ?_)
  go_simp
  refine (rother12_any w2 cols _ LL cols2 _ OO HC.out HLN.out HON.out).mono ?_
  rintro e w3 ⟨hv, V, rfl, hH, b1⟩
  have HH := Lib.hid hH
  clear hH
  replace HX := Lib.hid (HX.out.trans (b1.mono HX.out.size))
  replace H3 := Lib.hid (H3.out.below b1)
  replace H4 := Lib.hid (H4.out.below b1)
  replace HT := Lib.hid (HT.out.below b1)
  replace HLN := Lib.hid (HLN.out.below b1)
  replace HON := Lib.hid (HON.out.below b1)
  replace HAS := Lib.hid (HAS.out.below b1)
  replace HG := Lib.hid (HG.out.below b1)
  replace HB := Lib.hid (HB.out.trans (b1.mono HB.out.size))
  clear b1
  go_wp2_with fail
  refine hK.out _ _ ?_ (fun hHeld => ?_)
  · exact KEEP.out _ HX.out
  clear hK K
  try go_frame
  refine tk 5 rfl (fun w hSw => by (try dsimp only at hSw); go_simp; try with_reducible rfl) ?_
  go_frame
  refine tk 6 rfl (fun w hSw => by (try dsimp only at hSw); go_simp; try with_reducible rfl) ?_
  go_frame
  refine wpAnyH_done (by kernel_rfl) ?_ _
  clear hHeld KEEP HX H3 H4 HLN HON
  have HGG := Lib.hid (rowsM_good cols LL)
  have HHG := Lib.hid (othM_good cols LL OO)
  have HLO := Lib.hid (oth_low cols LL OO)
  obtain ⟨m, hm⟩ : ∃ m, m = cols % 31 := ⟨_, rfl⟩
  rw [← hm] at HGG HHG
  obtain ⟨G, hGd⟩ : ∃ G, G = rowsM cols LL := ⟨_, rfl⟩
  obtain ⟨H, hHd⟩ : ∃ H, H = othM cols LL OO := ⟨_, rfl⟩
  rw [← hGd] at HG HGG HLO
  rw [← hHd] at HH HHG HLO
  clear hm hGd hHd HC
  obtain ⟨nb, hnb⟩ : ∃ n, n = min len 30 := ⟨_, rfl⟩
  have HMM := Lib.hid (show nb ≤ len ∧ nb ≤ 30 ∧ (nb = len ∨ nb = 30) by omega)
  clear hnb
  go_wp2
  go_loopg [7, 8, 9] nb (fun gl vg vh vi wr => ∃ (i : Nat) (G H : List Cls) (U V : Nat → Value), vi = .int .i64 i ∧ i ≤ nb ∧ nb - i ≤ gl ∧ Hid (GSee wr vg G U) ∧ Hid (GSee wr vh H V) ∧ Hid (GG G m) ∧ Hid (GG H m) ∧ Hid (GLow G H) ∧ Hid (Tabs wr) ∧ Hid (AcsIn wr aa len T) ∧ Hid (Below W.heap.size W wr))
  case atStart => exact ⟨0, G, H, U, V, rfl, Nat.zero_le _, Nat.sub_le _ _, HG, HH, HGG, HHG, HLO, HT, HAS, HB⟩
  case round =>
    clear HG HH HGG HHG HLO HT HAS HB G H U V
    obtain ⟨i, G, H, U, V, rfl, hin, hgk, HG, HH, HGG, HHG, HLO, HT, HAS, HB⟩ := hrel
    by_cases hlt : i < nb
    · have HLT := Lib.hid hlt
      have hA1 : (i : Int) < (len : Int) := by have := HMM.out; omega
      have hA2 : (i : Int) < 30 := by have := HMM.out; omega
      obtain ⟨ba, oa, ea, hao, hcl⟩ := HAS.out.at (i := i) (by have := HMM.out; omega)
      subst ea
      obtain ⟨a, ha⟩ : ∃ a, a = T i := ⟨_, rfl⟩
      rw [← ha] at hao hcl
      have HA := Lib.hid hao
      have HBA := Lib.hid (show ba < wr.heap.size by
        obtain ⟨o', ho, _⟩ := cells_of_cell (hcl 0 _ rfl)
        exact (Array.getElem?_eq_some_iff.1 ho).1)
      have HCL := Lib.hid (show ∀ W', Below wr.heap.size wr W' → Ac13 W' ba (oa + i * 13) a from fun W' kb j v hv => (kb.cell (p := ⟨ba, oa + i * 13 + j, none⟩) HBA.out).trans (hcl j v hv))
      have HW := Lib.hid (Below.refl wr.heap.size wr)
      have HK8 := Lib.hid (show i ≤ 30 by have := HMM.out; omega)
      clear ha hao hcl hlt
      have hc := HCL.out wr HW.out
      have a0 := hc 0 _ rfl
      have a1 := hc 1 _ rfl
      have a2 := hc 2 _ rfl
      have a3 := hc 3 _ rfl
      have a4 := hc 4 _ rfl
      have a5 := hc 5 _ rfl
      have a6 := hc 6 _ rfl
      have a7 := hc 7 _ rfl
      have a8 := hc 8 _ rfl
      have a9 := hc 9 _ rfl
      have a10 := hc 10 _ rfl
      have a11 := hc 11 _ rfl
      have a12 := hc 12 _ rfl
      rw [Nat.add_zero] at a0
      clear hc
      go_wp2_with fail
      refine (does_any wr a _ G U m HA.out HG.out HGG.out HT.out).mono ?_
      rintro e x1 ⟨v1, U1, rfl, g1, b1⟩
      have HG1 := Lib.hid (g1.below (Below.refl _ _))
      clear g1
      replace HT := Lib.hid (HT.out.below b1)
      replace HAS := Lib.hid (HAS.out.below b1)
      replace HG := Lib.hid (HG.out.below b1)
      replace HH := Lib.hid (HH.out.below b1)
      replace HB := Lib.hid (HB.out.trans (b1.mono HB.out.size))
      replace HW := Lib.hid (HW.out.trans (b1.mono HW.out.size))
      clear b1
      clear a0 a1 a2 a3 a4 a5 a6 a7 a8 a9 a10 a11 a12 HG
      have hc := HCL.out x1 HW.out
      have a0 := hc 0 _ rfl
      have a1 := hc 1 _ rfl
      have a2 := hc 2 _ rfl
      have a3 := hc 3 _ rfl
      have a4 := hc 4 _ rfl
      have a5 := hc 5 _ rfl
      have a6 := hc 6 _ rfl
      have a7 := hc 7 _ rfl
      have a8 := hc 8 _ rfl
      have a9 := hc 9 _ rfl
      have a10 := hc 10 _ rfl
      have a11 := hc 11 _ rfl
      have a12 := hc 12 _ rfl
      rw [Nat.add_zero] at a0
      clear hc
      go_wp2_with fail
      refine (does_any x1 a _ H V m HA.out HH.out HHG.out HT.out).mono ?_
      rintro e x2 ⟨v2, U2, rfl, g1, b1⟩
      have HH1 := Lib.hid (g1.below (Below.refl _ _))
      clear g1
      replace HT := Lib.hid (HT.out.below b1)
      replace HAS := Lib.hid (HAS.out.below b1)
      replace HG1 := Lib.hid (HG1.out.below b1)
      replace HH := Lib.hid (HH.out.below b1)
      replace HB := Lib.hid (HB.out.trans (b1.mono HB.out.size))
      replace HW := Lib.hid (HW.out.trans (b1.mono HW.out.size))
      clear b1
      clear a0 a1 a2 a3 a4 a5 a6 a7 a8 a9 a10 a11 a12 HH
      have HG2 := Lib.hid (HGG.out.does a)
      have HH2 := Lib.hid (HHG.out.does a)
      have HL2 := Lib.hid (HLO.out.does (m := m) a)
      clear HGG HHG HLO
      obtain ⟨G1, hG1⟩ : ∃ X, X = doesG a G m := ⟨_, rfl⟩
      obtain ⟨H1, hH1⟩ : ∃ X, X = doesG a H m := ⟨_, rfl⟩
      rw [← hG1] at HG1 HG2 HL2
      rw [← hH1] at HH1 HH2 HL2
      clear hG1 hH1
      go_wp2_with fail
      refine (low12_any x2 _ _ G1 H1 U1 U2 m HG1.out HH1.out HG2.out HH2.out HL2.out).mono ?_
      rintro e x3 ⟨rfl, b1⟩
      replace HT := Lib.hid (HT.out.below b1)
      replace HAS := Lib.hid (HAS.out.below b1)
      replace HG1 := Lib.hid (HG1.out.below b1)
      replace HH1 := Lib.hid (HH1.out.below b1)
      replace HB := Lib.hid (HB.out.trans (b1.mono HB.out.size))
      replace HW := Lib.hid (HW.out.trans (b1.mono HW.out.size))
      clear b1
      obtain ⟨k, hk⟩ : ∃ k, k = clipM (rectM a) G1.length m := ⟨_, rfl⟩
      have HKI := Lib.hid (show k.In G1.length m by rw [hk]; exact clip_in _ _ _)
      have HK1 := Lib.hid hk.symm
      have HK2 := Lib.hid (show clipM (rectM a) H1.length m = k by rw [hk, HL2.out.1])
      have HLS := Lib.hid (low_sum HL2.out HKI.out)
      clear hk
      have hc := HCL.out x3 HW.out
      have a0 := hc 0 _ rfl
      have a1 := hc 1 _ rfl
      have a2 := hc 2 _ rfl
      have a3 := hc 3 _ rfl
      have a4 := hc 4 _ rfl
      have a5 := hc 5 _ rfl
      have a6 := hc 6 _ rfl
      have a7 := hc 7 _ rfl
      have a8 := hc 8 _ rfl
      have a9 := hc 9 _ rfl
      have a10 := hc 10 _ rfl
      have a11 := hc 11 _ rfl
      have a12 := hc 12 _ rfl
      rw [Nat.add_zero] at a0
      clear hc
      go_wp2_with fail
      refine (rect1_any x3 a HA.out).mono ?_
      rintro e x4 ⟨rfl, b1⟩
      replace HT := Lib.hid (HT.out.below b1)
      replace HAS := Lib.hid (HAS.out.below b1)
      replace HG1 := Lib.hid (HG1.out.below b1)
      replace HH1 := Lib.hid (HH1.out.below b1)
      replace HB := Lib.hid (HB.out.trans (b1.mono HB.out.size))
      replace HW := Lib.hid (HW.out.trans (b1.mono HW.out.size))
      clear b1
      clear a0 a1 a2 a3 a4 a5 a6 a7 a8 a9 a10 a11 a12
      go_wp2_with fail
      refine (suml_k HG1.out HG2.out (rectM_ok HA.out) HK1.out).mono ?_
      rintro e x5 ⟨rfl, b1⟩
      replace HT := Lib.hid (HT.out.below b1)
      replace HAS := Lib.hid (HAS.out.below b1)
      replace HG1 := Lib.hid (HG1.out.below b1)
      replace HH1 := Lib.hid (HH1.out.below b1)
      replace HB := Lib.hid (HB.out.trans (b1.mono HB.out.size))
      replace HW := Lib.hid (HW.out.trans (b1.mono HW.out.size))
      clear b1
      have hc := HCL.out x5 HW.out
      have a0 := hc 0 _ rfl
      have a1 := hc 1 _ rfl
      have a2 := hc 2 _ rfl
      have a3 := hc 3 _ rfl
      have a4 := hc 4 _ rfl
      have a5 := hc 5 _ rfl
      have a6 := hc 6 _ rfl
      have a7 := hc 7 _ rfl
      have a8 := hc 8 _ rfl
      have a9 := hc 9 _ rfl
      have a10 := hc 10 _ rfl
      have a11 := hc 11 _ rfl
      have a12 := hc 12 _ rfl
      rw [Nat.add_zero] at a0
      clear hc
      go_wp2_with fail
      refine (rect1_any x5 a HA.out).mono ?_
      rintro e x6 ⟨rfl, b1⟩
      replace HT := Lib.hid (HT.out.below b1)
      replace HAS := Lib.hid (HAS.out.below b1)
      replace HG1 := Lib.hid (HG1.out.below b1)
      replace HH1 := Lib.hid (HH1.out.below b1)
      replace HB := Lib.hid (HB.out.trans (b1.mono HB.out.size))
      replace HW := Lib.hid (HW.out.trans (b1.mono HW.out.size))
      clear b1
      clear a0 a1 a2 a3 a4 a5 a6 a7 a8 a9 a10 a11 a12
      go_wp2_with fail
      refine (suml_k HH1.out HH2.out (rectM_ok HA.out) HK2.out).mono ?_
      rintro e x7 ⟨rfl, b1⟩
      replace HT := Lib.hid (HT.out.below b1)
      replace HAS := Lib.hid (HAS.out.below b1)
      replace HG1 := Lib.hid (HG1.out.below b1)
      replace HH1 := Lib.hid (HH1.out.below b1)
      replace HB := Lib.hid (HB.out.trans (b1.mono HB.out.size))
      replace HW := Lib.hid (HW.out.trans (b1.mono HW.out.size))
      clear b1
      rw [← HLS.out.1]
      obtain ⟨L, hLd⟩ : ∃ L, L = levK G1 k := ⟨_, rfl⟩
      obtain ⟨N1, hN1⟩ : ∃ N, N = sumK G1 k := ⟨_, rfl⟩
      obtain ⟨N2, hN2⟩ : ∃ N, N = sumK H1 k := ⟨_, rfl⟩
      have HNN := Lib.hid (show L = 0 → N1 = N2 by rw [hLd, hN1, hN2]; exact HLS.out.2)
      rw [← hLd, ← hN1, ← hN2]
      clear hLd hN1 hN2 HLS HK1 HK2 HKI HCL HBA HW
      by_cases h0 : L = 0
      · have hn := HNN.out h0
        subst hn h0
        clear HNN
        go_wp2
        go_roundg (nb - (i + 1))
        case rel =>
          have hi30 := HK8.out
          exact ⟨i + 1, G1, H1, U1, U2, by first | go_num | (refine congrArg _ ?_; unfold wrap64; omega), HLT.out, Nat.le_refl _, HG1, HH1, HG2, HH2, HL2, HT, HAS, HB⟩
        case measure => have := HLT.out; omega
      · have hq0 : (L == 0) = false := by simp; exact h0
        clear HNN h0
        go_wp2
        go_roundg (nb - (i + 1))
        case rel =>
          have hi30 := HK8.out
          exact ⟨i + 1, G1, H1, U1, U2, by first | go_num | (refine congrArg _ ?_; unfold wrap64; omega), HLT.out, Nat.le_refl _, HG1, HH1, HG2, HH2, HL2, HT, HAS, HB⟩
        case measure => have := HLT.out; omega
    · obtain rfl : i = nb := by omega
      clear hlt HG HH
      by_cases hq : i = len
      · subst hq
        have hA1 : ¬ (i : Int) < (i : Int) := by omega
        go_wp2
        go_ret
        exact ⟨rfl, HB.out⟩
      · have h30 : i = 30 := by have := HMM.out; omega
        have g8 : (30 : Int) < (len : Int) := by have := HMM.out; omega
        subst h30
        go_wp2
        go_ret
        exact ⟨rfl, HB.out⟩
set_option maxRecDepth 100000 in
theorem rectBlind_walk {H : Type} (enc : TypeId × Value → H) (base : Nat) (W : World) (hT : Tabs W)
    (v0 : Value) (d0 : DataW H) (p0 : List MemPlace) (ok0 : Value.okWide Tryd.prog W .any base 24 v0) (k0 : DataW.Trod enc Tryd.prog W 0 (fun _ => true) true 24 v0 d0 p0)
    (v1 : Value) (d1 : DataW H) (p1 : List MemPlace) (ok1 : Value.okWide Tryd.prog W .any base 24 v1) (k1 : DataW.Trod enc Tryd.prog W 0 (fun _ => true) true 24 v1 d1 p1)
    (v2 : Value) (d2 : DataW H) (p2 : List MemPlace) (ok2 : Value.okWide Tryd.prog W .any base 25 v2) (k2 : DataW.Trod enc Tryd.prog W 0 (fun _ => true) true 25 v2 d2 p2) :
    Calls Tryd.prog 4 #[v0, v1, v2] W fun e w' => e = .returned (.bool true) ∧ Below W.heap.size W w' := by
  obtain ⟨cols, u, LL, rfl, hc, hL⟩ := open_gdraft enc base W ok0 k0
  obtain ⟨cols2, u2, OO, rfl, _, hO⟩ := open_gdraft enc base W ok1 k1
  obtain ⟨aa, len, cap, T, rfl, hA⟩ := open_acs enc base W ok2 k2
  exact blind_core W cols u LL cols2 u2 OO aa len cap T hc hL hO hA hT
end Go.Proofs.YtlaafmjiiiaceaaDoor.Lab
