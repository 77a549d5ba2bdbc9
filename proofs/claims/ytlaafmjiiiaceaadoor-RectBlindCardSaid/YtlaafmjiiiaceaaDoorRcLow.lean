/- Do two grids look alike to Low: low. -/
import Derived.Test.YtlaafmjiiiaceaaDoorRcMath
import Derived.Test.YtlaafmjiiiaceaaDoorRcClip
import Derived.Test.YtlaafmjiiiaceaaDoorRoSame
set_option linter.unusedVariables false
namespace Go.Proofs.YtlaafmjiiiaceaaDoor.Lab
open Go Go.RowKit

theorem RowIn.at {w : World} {v : Value} {R : Cls} {j : Nat} (h : RowIn w v R) (hj : j < R.length) : ∃ g o c, v = .slice (some ⟨g, o, none⟩) R.length c ∧ g < w.heap.size ∧ C14 w g (o + j * 14) (gc R j) := by
  obtain ⟨g, o, c, e, _, hg, hC⟩ := h.open (by omega)
  exact ⟨g, o, c, e, hg, hC j hj⟩
set_option maxHeartbeats 16000000 in
set_option maxRecDepth 100000 in
theorem low12_any (w : World) (u v : Value) (G H : List Cls) (U V : Nat → Value) (m : Nat) (hu : GSee w u G U) (hv : GSee w v H V) (hg : GG G m) (hh : GG H m) (hl : GLow G H) :
    Calls Tryd.prog 14 #[u, v] w fun e w' => e = .returned (.bool true) ∧ Below w.heap.size w w' := by
  obtain ⟨ua, uc, e⟩ := hu.shape
  subst e
  obtain ⟨va, vc, e⟩ := hv.shape
  subst e
  obtain ⟨n, hn⟩ : ∃ n, n = G.length := ⟨_, rfl⟩
  have HN := Lib.hid hn
  have HNH := Lib.hid (show n = H.length from hn.trans hl.1)
  have HU := Lib.hid hu
  have HV := Lib.hid hv
  have HG := Lib.hid hg
  have HH := Lib.hid hh
  have HL := Lib.hid hl
  have HN6 := Lib.hid (show n ≤ 600 ∧ m ≤ 600 from ⟨by rw [hn]; exact hg.n1, hg.m1⟩)
  rw [← hn] at HU ⊢
  rw [← HNH.out] at HV ⊢
  clear hn hu hv hg hh hl
  have hnn : ((n : Int) != (n : Int)) = false := by simp
  go_enter Tryd.func14, Tryd.ntmps14
  go_wp2
  go_loopg [5] n (fun gl vi wr => ∃ (k : Nat), vi = .int .i64 k ∧ k ≤ n ∧ n - k ≤ gl ∧ Hid (Below w.heap.size w wr))
  case atStart => exact ⟨0, rfl, Nat.zero_le _, Nat.sub_le _ _, Lib.hid (Below.refl _ _)⟩
  case round =>
    obtain ⟨k, rfl, hkn, hgk, HB⟩ := hrel
    by_cases hlt : k < n
    · have HLT := Lib.hid hlt
      have hkG : k < G.length := by rw [← HN.out]; exact hlt
      have hkH : k < H.length := by rw [← HNH.out]; exact hlt
      obtain ⟨gu, ou, cu, e, _, hgu, hcu⟩ := (HU.out.below HB.out).open (by omega)
      injection e with e1 e2 e3
      subst e1 e3
      clear e2
      obtain ⟨gv, ov, cv, e, _, hgv, hcv⟩ := (HV.out.below HB.out).open (by omega)
      injection e with e1 e2 e3
      subst e1 e3
      clear e2
      have ck := hcu k hkG
      have dk := hcv k hkH
      have HRU := Lib.hid ((HU.out.below HB.out).row hkG)
      have HRV := Lib.hid ((HV.out.below HB.out).row hkH)
      obtain ⟨xa, xc, ex⟩ := HRU.out.shape
      obtain ⟨ya, yc, ey⟩ := HRV.out.shape
      have HLR := Lib.hid (show LowE (rowG G k) (rowG H k) from HL.out.2 k hkG)
      have HRL := Lib.hid (show (rowG G k).length = m ∧ (rowG H k).length = m ∧ Lv (rowG G k) from ⟨(HG.out.at hkG).2.1, (HH.out.at hkH).2.1, (HG.out.at hkG).2.2⟩)
      obtain ⟨R, hR⟩ : ∃ R, R = rowG G k := ⟨_, rfl⟩
      obtain ⟨S, hS⟩ : ∃ S, S = rowG H k := ⟨_, rfl⟩
      rw [← hR] at HRU HLR HRL ex
      rw [← hS] at HRV HLR HRL ey
      rw [HRL.out.1] at ex
      rw [HRL.out.2.1] at ey
      rw [ex] at HRU ck
      rw [ey] at HRV dk
      have KEEP := Lib.hid (show ∀ W, Below wr.heap.size wr W → (fun wx => wx.cell? ⟨gu, ou + k, none⟩ = some (.slice xa m xc) ∧ wx.cell? ⟨gv, ov + k, none⟩ = some (.slice ya m yc)) W from fun W kb => ⟨(kb.cell (p := ⟨gu, ou + k, none⟩) hgu).trans ck, (kb.cell (p := ⟨gv, ov + k, none⟩) hgv).trans dk⟩)
      have hmm : ((m : Int) != (m : Int)) = false := by simp
      clear hcu hcv hgu hgv hkG hkH ex ey hR hS
      go_wp2_with fail
      refine wp_region_held_drew (S := (fun wx => wx.cell? ⟨gu, ou + k, none⟩ = some (.slice xa m xc) ∧ wx.cell? ⟨gv, ov + k, none⟩ = some (.slice ya m yc))) (by kernel_rfl) ?_ (fun hHeld => ?_)
      · exact KEEP.out _ ((Below.refl _ _).drew)
      obtain ⟨wd, hwd⟩ : ∃ X, X = wr.drew := ⟨_, rfl⟩
      have HX := Lib.hid (show Below wr.heap.size wr wd by rw [hwd]; exact (Below.refl _ _).drew)
      replace hHeld := KEEP.out _ HX.out
      rw [← hwd]
      clear hwd
      refine tk 0 rfl (fun w hSw => by (try dsimp only at hSw); go_simp; try with_reducible rfl) ?_
      go_frame
      refine tk 1 rfl (fun w hSw => by (try dsimp only at hSw); go_simp; try with_reducible rfl) ?_
      go_frame
      refine tk 2 rfl (fun w hSw => by (try dsimp only at hSw); go_simp; try with_reducible rfl) ?_
      go_frame
      refine tk 3 rfl (fun w hSw => by (try dsimp only at hSw); go_simp; try with_reducible rfl) ?_
      go_frame
      refine tk 4 rfl (fun w hSw => by (try dsimp only at hSw); go_simp; try with_reducible rfl) ?_
      go_frame
      refine tk 5 rfl (fun w hSw => by (try dsimp only at hSw); go_simp; try with_reducible rfl) ?_
      go_frame
      refine tk 6 rfl (fun w hSw => by (try dsimp only at hSw); go_simp; try with_reducible rfl) ?_
      go_frame
      refine tk 7 rfl (fun w hSw => by (try dsimp only at hSw); go_simp; try with_reducible rfl) ?_
      go_frame
      refine tk 8 rfl (fun w hSw => by (try dsimp only at hSw); go_simp; try with_reducible rfl) ?_
      go_frame
      refine tk 9 rfl (fun w hSw => by (try dsimp only at hSw); go_simp; try with_reducible rfl) ?_
      go_frame
      refine tk 10 rfl (fun w hSw => by (try dsimp only at hSw); go_simp; try with_reducible rfl) ?_
      go_frame
      refine wpAnyH_done (by kernel_rfl) ?_ _
      have HBD := Lib.hid (show Below w.heap.size w wd from HB.out.trans (HX.out.mono HB.out.size))
      have HBQ := HBD
      replace KEEP := Lib.hid (fun (W : World) (kb : Below wd.heap.size wd W) => KEEP.out W (HX.out.trans (kb.mono HX.out.size)))
      replace HRU := Lib.hid (HRU.out.below HX.out)
      replace HRV := Lib.hid (HRV.out.below HX.out)
      clear hHeld hmm ck dk HX HB
      go_wp2
      go_loopg [6] m (fun gl vj wi => ∃ (j : Nat), vj = .int .i64 j ∧ j ≤ m ∧ m - j ≤ gl ∧ Hid (Below wd.heap.size wd wi))
      case atStart => exact ⟨0, rfl, Nat.zero_le _, Nat.sub_le _ _, Lib.hid (Below.refl _ _)⟩
      case round =>
        obtain ⟨j, rfl, hjm, hgj, HBJ⟩ := hrel
        obtain ⟨ck, dk⟩ := KEEP.out wr HBJ.out
        by_cases hjl : j < m
        · have HJL := Lib.hid hjl
          obtain ⟨gx, ox, cx, e, hgx, hCx⟩ := (HRU.out.below HBJ.out).at (j := j) (by rw [HRL.out.1]; exact hjl)
          rw [HRL.out.1] at e
          injection e with e1 e2 e3
          subst e1 e3
          clear e2
          obtain ⟨gy, oy, cy, e, hgy, hCy⟩ := (HRV.out.below HBJ.out).at (j := j) (by rw [HRL.out.2.1]; exact hjl)
          rw [HRL.out.2.1] at e
          injection e with e1 e2 e3
          subst e1 e3
          clear e2
          obtain ⟨hl1, hl2⟩ := HLR.out.2 j (by rw [HRL.out.1]; exact hjl)
          have hl01 := HRL.out.2.2 j (by rw [HRL.out.1]; exact hjl)
          obtain ⟨c, hc⟩ : ∃ c, c = gc R j := ⟨_, rfl⟩
          obtain ⟨d, hd⟩ : ∃ d, d = gc S j := ⟨_, rfl⟩
          rw [← hc] at hCx hl1 hl2 hl01
          rw [← hd] at hCy hl1 hl2
          clear hc hd
          have hCx' := Lib.hid hCx
          have hCy' := Lib.hid hCy
          clear hCx hCy
          rcases hl01 with h0 | h1
          · have hcd := hl2 h0
            subst hcd
            clear hl1 hl2
            have KEEP2 := Lib.hid (show ∀ W, Below wr.heap.size wr W → (fun wx => (wx.cell? ⟨gu, ou + k, none⟩ = some (.slice (some ⟨gx, ox, none⟩) m xc) ∧ wx.cell? ⟨gv, ov + k, none⟩ = some (.slice (some ⟨gy, oy, none⟩) m yc)) ∧ (wx.cell? ⟨gx, ox + j * 14, none⟩ = some (.int .i32 c.ru) ∧ wx.cell? ⟨gx, ox + j * 14 + 1, none⟩ = some (.int .i32 c.m0) ∧ wx.cell? ⟨gx, ox + j * 14 + 2, none⟩ = some (.int .i32 c.m1) ∧ wx.cell? ⟨gx, ox + j * 14 + 3, none⟩ = some (.int .u8 c.k) ∧ wx.cell? ⟨gx, ox + j * 14 + 4, none⟩ = some (.int .u8 c.a.fg.k) ∧ wx.cell? ⟨gx, ox + j * 14 + 5, none⟩ = some (.int .u8 c.a.fg.r) ∧ wx.cell? ⟨gx, ox + j * 14 + 6, none⟩ = some (.int .u8 c.a.fg.g) ∧ wx.cell? ⟨gx, ox + j * 14 + 7, none⟩ = some (.int .u8 c.a.fg.b) ∧ wx.cell? ⟨gx, ox + j * 14 + 8, none⟩ = some (.int .u8 c.a.bg.k) ∧ wx.cell? ⟨gx, ox + j * 14 + 9, none⟩ = some (.int .u8 c.a.bg.r) ∧ wx.cell? ⟨gx, ox + j * 14 + 10, none⟩ = some (.int .u8 c.a.bg.g) ∧ wx.cell? ⟨gx, ox + j * 14 + 11, none⟩ = some (.int .u8 c.a.bg.b) ∧ wx.cell? ⟨gx, ox + j * 14 + 12, none⟩ = some (.int .u16 (c.a.fl : Nat)) ∧ wx.cell? ⟨gx, ox + j * 14 + 13, none⟩ = some (.int .u8 0)) ∧ wx.cell? ⟨gy, oy + j * 14, none⟩ = some (.int .i32 c.ru) ∧ wx.cell? ⟨gy, oy + j * 14 + 1, none⟩ = some (.int .i32 c.m0) ∧ wx.cell? ⟨gy, oy + j * 14 + 2, none⟩ = some (.int .i32 c.m1) ∧ wx.cell? ⟨gy, oy + j * 14 + 3, none⟩ = some (.int .u8 c.k) ∧ wx.cell? ⟨gy, oy + j * 14 + 4, none⟩ = some (.int .u8 c.a.fg.k) ∧ wx.cell? ⟨gy, oy + j * 14 + 5, none⟩ = some (.int .u8 c.a.fg.r) ∧ wx.cell? ⟨gy, oy + j * 14 + 6, none⟩ = some (.int .u8 c.a.fg.g) ∧ wx.cell? ⟨gy, oy + j * 14 + 7, none⟩ = some (.int .u8 c.a.fg.b) ∧ wx.cell? ⟨gy, oy + j * 14 + 8, none⟩ = some (.int .u8 c.a.bg.k) ∧ wx.cell? ⟨gy, oy + j * 14 + 9, none⟩ = some (.int .u8 c.a.bg.r) ∧ wx.cell? ⟨gy, oy + j * 14 + 10, none⟩ = some (.int .u8 c.a.bg.g) ∧ wx.cell? ⟨gy, oy + j * 14 + 11, none⟩ = some (.int .u8 c.a.bg.b) ∧ wx.cell? ⟨gy, oy + j * 14 + 12, none⟩ = some (.int .u16 (c.a.fl : Nat)) ∧ wx.cell? ⟨gy, oy + j * 14 + 13, none⟩ = some (.int .u8 0)) W from fun W kb => by
              have hx := hCx'.out.same (kb.block gx hgx)
              have hy := hCy'.out.same (kb.block gy hgy)
              obtain ⟨y0, y1, y2, y3, y4, y5, y6, y7, y8, y9, y10, y11, y12, y13⟩ := hx
              obtain ⟨z0, z1, z2, z3, z4, z5, z6, z7, z8, z9, z10, z11, z12, z13⟩ := hy
              rw [h0] at y13 z13
              exact ⟨KEEP.out W (HBJ.out.trans (kb.mono HBJ.out.size)), ⟨y0, y1, y2, y3, y4, y5, y6, y7, y8, y9, y10, y11, y12, y13⟩, z0, z1, z2, z3, z4, z5, z6, z7, z8, z9, z10, z11, z12, z13⟩)
            have hq : ∀ w : World, (Op.equalIn 10000 62 (.agg #[.int .i32 c.ru, .int .i32 c.m0, .int .i32 c.m1, .int .u8 c.k, .int .u8 c.a.fg.k, .int .u8 c.a.fg.r, .int .u8 c.a.fg.g, .int .u8 c.a.fg.b, .int .u8 c.a.bg.k, .int .u8 c.a.bg.r, .int .u8 c.a.bg.g, .int .u8 c.a.bg.b, .int .u16 (c.a.fl : Nat), .int .u8 0]) (.agg #[.int .i32 c.ru, .int .i32 c.m0, .int .i32 c.m1, .int .u8 c.k, .int .u8 c.a.fg.k, .int .u8 c.a.fg.r, .int .u8 c.a.fg.g, .int .u8 c.a.fg.b, .int .u8 c.a.bg.k, .int .u8 c.a.bg.r, .int .u8 c.a.bg.g, .int .u8 c.a.bg.b, .int .u16 (c.a.fl : Nat), .int .u8 0])).run Tryd.prog w = .ok true w := fun w => by
              have := eqCel w c c
              rw [decide_eq_true rfl] at this
              unfold celV at this
              rw [h0] at this
              exact this
            go_wp2_with fail
            refine wp_region_held_drew (S := (fun wx => (wx.cell? ⟨gu, ou + k, none⟩ = some (.slice (some ⟨gx, ox, none⟩) m xc) ∧ wx.cell? ⟨gv, ov + k, none⟩ = some (.slice (some ⟨gy, oy, none⟩) m yc)) ∧ (wx.cell? ⟨gx, ox + j * 14, none⟩ = some (.int .i32 c.ru) ∧ wx.cell? ⟨gx, ox + j * 14 + 1, none⟩ = some (.int .i32 c.m0) ∧ wx.cell? ⟨gx, ox + j * 14 + 2, none⟩ = some (.int .i32 c.m1) ∧ wx.cell? ⟨gx, ox + j * 14 + 3, none⟩ = some (.int .u8 c.k) ∧ wx.cell? ⟨gx, ox + j * 14 + 4, none⟩ = some (.int .u8 c.a.fg.k) ∧ wx.cell? ⟨gx, ox + j * 14 + 5, none⟩ = some (.int .u8 c.a.fg.r) ∧ wx.cell? ⟨gx, ox + j * 14 + 6, none⟩ = some (.int .u8 c.a.fg.g) ∧ wx.cell? ⟨gx, ox + j * 14 + 7, none⟩ = some (.int .u8 c.a.fg.b) ∧ wx.cell? ⟨gx, ox + j * 14 + 8, none⟩ = some (.int .u8 c.a.bg.k) ∧ wx.cell? ⟨gx, ox + j * 14 + 9, none⟩ = some (.int .u8 c.a.bg.r) ∧ wx.cell? ⟨gx, ox + j * 14 + 10, none⟩ = some (.int .u8 c.a.bg.g) ∧ wx.cell? ⟨gx, ox + j * 14 + 11, none⟩ = some (.int .u8 c.a.bg.b) ∧ wx.cell? ⟨gx, ox + j * 14 + 12, none⟩ = some (.int .u16 (c.a.fl : Nat)) ∧ wx.cell? ⟨gx, ox + j * 14 + 13, none⟩ = some (.int .u8 0)) ∧ wx.cell? ⟨gy, oy + j * 14, none⟩ = some (.int .i32 c.ru) ∧ wx.cell? ⟨gy, oy + j * 14 + 1, none⟩ = some (.int .i32 c.m0) ∧ wx.cell? ⟨gy, oy + j * 14 + 2, none⟩ = some (.int .i32 c.m1) ∧ wx.cell? ⟨gy, oy + j * 14 + 3, none⟩ = some (.int .u8 c.k) ∧ wx.cell? ⟨gy, oy + j * 14 + 4, none⟩ = some (.int .u8 c.a.fg.k) ∧ wx.cell? ⟨gy, oy + j * 14 + 5, none⟩ = some (.int .u8 c.a.fg.r) ∧ wx.cell? ⟨gy, oy + j * 14 + 6, none⟩ = some (.int .u8 c.a.fg.g) ∧ wx.cell? ⟨gy, oy + j * 14 + 7, none⟩ = some (.int .u8 c.a.fg.b) ∧ wx.cell? ⟨gy, oy + j * 14 + 8, none⟩ = some (.int .u8 c.a.bg.k) ∧ wx.cell? ⟨gy, oy + j * 14 + 9, none⟩ = some (.int .u8 c.a.bg.r) ∧ wx.cell? ⟨gy, oy + j * 14 + 10, none⟩ = some (.int .u8 c.a.bg.g) ∧ wx.cell? ⟨gy, oy + j * 14 + 11, none⟩ = some (.int .u8 c.a.bg.b) ∧ wx.cell? ⟨gy, oy + j * 14 + 12, none⟩ = some (.int .u16 (c.a.fl : Nat)) ∧ wx.cell? ⟨gy, oy + j * 14 + 13, none⟩ = some (.int .u8 0))) (by kernel_rfl) ?_ (fun hHeld => ?_)
            · exact KEEP2.out _ ((Below.refl _ _).drew)
            obtain ⟨we, hwd⟩ : ∃ X, X = wr.drew := ⟨_, rfl⟩
            have HY := Lib.hid (show Below wr.heap.size wr we by rw [hwd]; exact (Below.refl _ _).drew)
            replace hHeld := KEEP2.out _ HY.out
            rw [← hwd]
            clear hwd
            refine tk 0 rfl (fun w hSw => by (try dsimp only at hSw); go_simp; try with_reducible rfl) ?_
            go_frame
            refine tk 1 rfl (fun w hSw => by (try dsimp only at hSw); go_simp; try with_reducible rfl) ?_
            go_frame
            refine tk 2 rfl (fun w hSw => by (try dsimp only at hSw); go_simp; try with_reducible rfl) ?_
            go_frame
            refine tk 3 rfl (fun w hSw => by (try dsimp only at hSw); go_simp; try with_reducible rfl) ?_
            go_frame
            refine tk 4 rfl (fun w hSw => by (try dsimp only at hSw); go_simp; try with_reducible rfl) ?_
            go_frame
            refine tk 5 rfl (fun w hSw => by (try dsimp only at hSw); go_simp; try with_reducible rfl) ?_
            go_frame
            refine tk 6 rfl (fun w hSw => by (try dsimp only at hSw); go_simp; try with_reducible rfl) ?_
            go_frame
            refine tk 7 rfl (fun w hSw => by (try dsimp only at hSw); go_simp; try with_reducible rfl) ?_
            go_frame
            refine tk 8 rfl (fun w hSw => by (try dsimp only at hSw); go_simp; try with_reducible rfl) ?_
            go_frame
            refine tk 9 rfl (fun w hSw => by (try dsimp only at hSw); go_simp; try with_reducible rfl) ?_
            go_frame
            refine tk 10 rfl (fun w hSw => by (try dsimp only at hSw); go_simp; try with_reducible rfl) ?_
            go_frame
            refine tk 11 rfl (fun w hSw => by (try dsimp only at hSw); go_simp; try with_reducible rfl) ?_
            go_frame
            refine tk 12 rfl (fun w hSw => by (try dsimp only at hSw); go_simp; try with_reducible rfl) ?_
            go_frame
            refine tk 13 rfl (fun w hSw => by (try dsimp only at hSw); go_simp; try with_reducible rfl) ?_
            go_frame
            refine tk 14 rfl (fun w hSw => by (try dsimp only at hSw); go_simp; try with_reducible rfl) ?_
            go_frame
            refine tk 15 rfl (fun w hSw => by (try dsimp only at hSw); go_simp; try with_reducible rfl) ?_
            go_frame
            refine tk 16 rfl (fun w hSw => by (try dsimp only at hSw); go_simp; try with_reducible rfl) ?_
            go_frame
            refine tk 17 rfl (fun w hSw => by (try dsimp only at hSw); go_simp; try with_reducible rfl) ?_
            go_frame
            refine tk 18 rfl (fun w hSw => by (try dsimp only at hSw); go_simp; try with_reducible rfl) ?_
            go_frame
            refine tk 19 rfl (fun w hSw => by (try dsimp only at hSw); go_simp; try with_reducible rfl) ?_
            go_frame
            refine tk 20 rfl (fun w hSw => by (try dsimp only at hSw); go_simp; try with_reducible rfl) ?_
            go_frame
            refine tk 21 rfl (fun w hSw => by (try dsimp only at hSw); go_simp; try with_reducible rfl) ?_
            go_frame
            refine tk 22 rfl (fun w hSw => by (try dsimp only at hSw); go_simp; try with_reducible rfl) ?_
            go_frame
            refine tk 23 rfl (fun w hSw => by (try dsimp only at hSw); go_simp; try with_reducible rfl) ?_
            go_frame
            refine tk 24 rfl (fun w hSw => by (try dsimp only at hSw); go_simp; try with_reducible rfl) ?_
            go_frame
            refine tk 25 rfl (fun w hSw => by (try dsimp only at hSw); go_simp; try with_reducible rfl) ?_
            go_frame
            refine tk 26 rfl (fun w hSw => by (try dsimp only at hSw); go_simp; try with_reducible rfl) ?_
            go_frame
            refine tk 27 rfl (fun w hSw => by (try dsimp only at hSw); go_simp; try with_reducible rfl) ?_
            go_frame
            refine tk 28 rfl (fun w hSw => by (try dsimp only at hSw); go_simp; try with_reducible rfl) ?_
            go_frame
            refine tk 29 rfl (fun w hSw => by (try dsimp only at hSw); go_simp; try with_reducible rfl) ?_
            go_frame
            refine tk 30 rfl (fun w hSw => by (try dsimp only at hSw); go_simp; try with_reducible rfl) ?_
            go_frame
            refine tk 31 rfl (fun w hSw => by (try dsimp only at hSw); go_simp; try with_reducible rfl) ?_
            go_frame
            refine tk 32 rfl (fun w hSw => by (try dsimp only at hSw); go_simp; try with_reducible rfl) ?_
            go_frame
            refine tk 33 rfl (fun w hSw => by (try dsimp only at hSw); go_simp; try with_reducible rfl) ?_
            go_frame
            refine tk 34 rfl (fun w hSw => by (try dsimp only at hSw); go_simp; try with_reducible rfl) ?_
            go_frame
            refine tk 35 rfl (fun w hSw => by (try dsimp only at hSw); go_simp; try with_reducible rfl) ?_
            go_frame
            refine tk 36 rfl (fun w hSw => by (try dsimp only at hSw); go_simp; try with_reducible rfl) ?_
            go_frame
            refine tk 37 rfl (fun w hSw => by (try dsimp only at hSw); go_simp; try with_reducible rfl) ?_
            go_frame
            refine tk 38 rfl (fun w hSw => by (try dsimp only at hSw); go_simp; try with_reducible rfl) ?_
            go_frame
            refine tk 39 rfl (fun w hSw => by (try dsimp only at hSw); go_simp; try with_reducible rfl) ?_
            go_frame
            refine tk 40 rfl (fun w hSw => by (try dsimp only at hSw); go_simp; try with_reducible rfl) ?_
            go_frame
            refine tk 41 rfl (fun w hSw => by (try dsimp only at hSw); go_simp; try with_reducible rfl) ?_
            go_frame
            refine tk 42 rfl (fun w hSw => by (try dsimp only at hSw); go_simp; try with_reducible rfl) ?_
            go_frame
            refine tk 43 rfl (fun w hSw => by (try dsimp only at hSw); go_simp; try with_reducible rfl) ?_
            go_frame
            refine tk 44 rfl (fun w hSw => by (try dsimp only at hSw); go_simp; try with_reducible rfl) ?_
            go_frame
            refine wpAnyH_done (by kernel_rfl) ?_ _
            have HBF := Lib.hid (HBJ.out.trans (HY.out.mono HBJ.out.size))
            clear hHeld KEEP2 hq ck dk hgx hgy
            go_wp2
            go_roundg (m - (j + 1))
            case rel =>
              have hj6 : j ≤ 600 := by have := HN6.out; have := HJL.out; omega
              exact ⟨j + 1, by first | go_num | (refine congrArg _ ?_; unfold wrap64; omega), HJL.out, Nat.le_refl _, HBF⟩
            case measure => have := HJL.out; omega
          · have hd1 : d.l = 1 := by rw [← hl1]; exact h1
            clear hl1 hl2
            have KEEP2 := Lib.hid (show ∀ W, Below wr.heap.size wr W → (fun wx => (wx.cell? ⟨gu, ou + k, none⟩ = some (.slice (some ⟨gx, ox, none⟩) m xc) ∧ wx.cell? ⟨gv, ov + k, none⟩ = some (.slice (some ⟨gy, oy, none⟩) m yc)) ∧ wx.cell? ⟨gx, ox + j * 14 + 13, none⟩ = some (.int .u8 1) ∧ wx.cell? ⟨gy, oy + j * 14 + 13, none⟩ = some (.int .u8 1)) W from fun W kb => by
              have hx := hCx'.out.same (kb.block gx hgx)
              have hy := hCy'.out.same (kb.block gy hgy)
              obtain ⟨y0, y1, y2, y3, y4, y5, y6, y7, y8, y9, y10, y11, y12, y13⟩ := hx
              obtain ⟨z0, z1, z2, z3, z4, z5, z6, z7, z8, z9, z10, z11, z12, z13⟩ := hy
              rw [h1] at y13
              rw [hd1] at z13
              exact ⟨KEEP.out W (HBJ.out.trans (kb.mono HBJ.out.size)), y13, z13⟩)
            go_wp2_with fail
            refine wp_region_held_drew (S := (fun wx => (wx.cell? ⟨gu, ou + k, none⟩ = some (.slice (some ⟨gx, ox, none⟩) m xc) ∧ wx.cell? ⟨gv, ov + k, none⟩ = some (.slice (some ⟨gy, oy, none⟩) m yc)) ∧ wx.cell? ⟨gx, ox + j * 14 + 13, none⟩ = some (.int .u8 1) ∧ wx.cell? ⟨gy, oy + j * 14 + 13, none⟩ = some (.int .u8 1))) (by kernel_rfl) ?_ (fun hHeld => ?_)
            · exact KEEP2.out _ ((Below.refl _ _).drew)
            obtain ⟨we, hwd⟩ : ∃ X, X = wr.drew := ⟨_, rfl⟩
            have HY := Lib.hid (show Below wr.heap.size wr we by rw [hwd]; exact (Below.refl _ _).drew)
            replace hHeld := KEEP2.out _ HY.out
            rw [← hwd]
            clear hwd
            refine tk 0 rfl (fun w hSw => by (try dsimp only at hSw); go_simp; try with_reducible rfl) ?_
            go_frame
            refine tk 1 rfl (fun w hSw => by (try dsimp only at hSw); go_simp; try with_reducible rfl) ?_
            go_frame
            refine tk 2 rfl (fun w hSw => by (try dsimp only at hSw); go_simp; try with_reducible rfl) ?_
            go_frame
            refine tk 3 rfl (fun w hSw => by (try dsimp only at hSw); go_simp; try with_reducible rfl) ?_
            go_frame
            refine tk 4 rfl (fun w hSw => by (try dsimp only at hSw); go_simp; try with_reducible rfl) ?_
            go_frame
            refine tk 5 rfl (fun w hSw => by (try dsimp only at hSw); go_simp; try with_reducible rfl) ?_
            go_frame
            refine tk 6 rfl (fun w hSw => by (try dsimp only at hSw); go_simp; try with_reducible rfl) ?_
            go_frame
            refine tk 7 rfl (fun w hSw => by (try dsimp only at hSw); go_simp; try with_reducible rfl) ?_
            go_frame
            refine tk 8 rfl (fun w hSw => by (try dsimp only at hSw); go_simp; try with_reducible rfl) ?_
            go_frame
            refine tk 9 rfl (fun w hSw => by (try dsimp only at hSw); go_simp; try with_reducible rfl) ?_
            go_frame
            refine tk 10 rfl (fun w hSw => by (try dsimp only at hSw); go_simp; try with_reducible rfl) ?_
            go_frame
            refine tk 11 rfl (fun w hSw => by (try dsimp only at hSw); go_simp; try with_reducible rfl) ?_
            go_frame
            refine tk 12 rfl (fun w hSw => by (try dsimp only at hSw); go_simp; try with_reducible rfl) ?_
            go_frame
            refine tk 13 rfl (fun w hSw => by (try dsimp only at hSw); go_simp; try with_reducible rfl) ?_
            go_frame
            refine tk 14 rfl (fun w hSw => by (try dsimp only at hSw); go_simp; try with_reducible rfl) ?_
            go_frame
            refine tk 15 rfl (fun w hSw => by (try dsimp only at hSw); go_simp; try with_reducible rfl) ?_
            go_frame
            refine tk 16 rfl (fun w hSw => by (try dsimp only at hSw); go_simp; try with_reducible rfl) ?_
            go_frame
            refine tk 17 rfl (fun w hSw => by (try dsimp only at hSw); go_simp; try with_reducible rfl) ?_
            go_frame
            refine tk 18 rfl (fun w hSw => by (try dsimp only at hSw); go_simp; try with_reducible rfl) ?_
            go_frame
            refine tk 19 rfl (fun w hSw => by (try dsimp only at hSw); go_simp; try with_reducible rfl) ?_
            go_frame
            refine tk 20 rfl (fun w hSw => by (try dsimp only at hSw); go_simp; try with_reducible rfl) ?_
            go_frame
            refine tk 21 rfl (fun w hSw => by (try dsimp only at hSw); go_simp; try with_reducible rfl) ?_
            go_frame
            refine tk 22 rfl (fun w hSw => by (try dsimp only at hSw); go_simp; try with_reducible rfl) ?_
            go_frame
            refine tk 23 rfl (fun w hSw => by (try dsimp only at hSw); go_simp; try with_reducible rfl) ?_
            go_frame
            refine tk 24 rfl (fun w hSw => by (try dsimp only at hSw); go_simp; try with_reducible rfl) ?_
            go_frame
            refine tk 25 rfl (fun w hSw => by (try dsimp only at hSw); go_simp; try with_reducible rfl) ?_
            go_frame
            refine tk 26 rfl (fun w hSw => by (try dsimp only at hSw); go_simp; try with_reducible rfl) ?_
            go_frame
            refine tk 27 rfl (fun w hSw => by (try dsimp only at hSw); go_simp; try with_reducible rfl) ?_
            go_frame
            refine sk 28 rfl ?_
            go_frame
            refine sk 29 rfl ?_
            go_frame
            refine sk 30 rfl ?_
            go_frame
            refine sk 31 rfl ?_
            go_frame
            refine sk 32 rfl ?_
            go_frame
            refine sk 33 rfl ?_
            go_frame
            refine sk 34 rfl ?_
            go_frame
            refine sk 35 rfl ?_
            go_frame
            refine sk 36 rfl ?_
            go_frame
            refine sk 37 rfl ?_
            go_frame
            refine sk 38 rfl ?_
            go_frame
            refine sk 39 rfl ?_
            go_frame
            refine sk 40 rfl ?_
            go_frame
            refine sk 41 rfl ?_
            go_frame
            refine sk 42 rfl ?_
            go_frame
            refine tk 43 rfl (fun w hSw => by (try dsimp only at hSw); go_simp; try with_reducible rfl) ?_
            go_frame
            refine tk 44 rfl (fun w hSw => by (try dsimp only at hSw); go_simp; try with_reducible rfl) ?_
            go_frame
            refine wpAnyH_done (by kernel_rfl) ?_ _
            have HBF := Lib.hid (HBJ.out.trans (HY.out.mono HBJ.out.size))
            clear hHeld KEEP2 ck dk hgx hgy
            go_wp2
            go_roundg (m - (j + 1))
            case rel =>
              have hj6 : j ≤ 600 := by have := HN6.out; have := HJL.out; omega
              exact ⟨j + 1, by first | go_num | (refine congrArg _ ?_; unfold wrap64; omega), HJL.out, Nat.le_refl _, HBF⟩
            case measure => have := HJL.out; omega
        · obtain rfl : j = m := by omega
          clear hjl
          have HBE := Lib.hid (show Below w.heap.size w wr from HBQ.out.trans (HBJ.out.mono HBQ.out.size))
          go_wp2
          go_roundg (n - (k + 1))
          case rel =>
            have hj6 : k ≤ 600 := by have := HN6.out; have := HLT.out; omega
            exact ⟨k + 1, by first | go_num | (refine congrArg _ ?_; unfold wrap64; omega), HLT.out, Nat.le_refl _, HBE⟩
          case measure => have := HLT.out; omega
    · obtain rfl : k = n := by omega
      clear hlt
      go_wp2
      go_ret
      exact ⟨rfl, HB.out⟩
end Go.Proofs.YtlaafmjiiiaceaaDoor.Lab
