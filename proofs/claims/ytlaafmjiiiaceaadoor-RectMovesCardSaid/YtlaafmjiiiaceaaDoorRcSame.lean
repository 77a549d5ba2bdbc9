/- The reference's Same of grids: of the same rows. -/
import Derived.Test.YtlaafmjiiiaceaaDoorRcClip
import Derived.Test.YtlaafmjiiiaceaaDoorRoSame
set_option linter.unusedVariables false
namespace Go.Proofs.YtlaafmjiiiaceaaDoor.Lab
open Go Go.RowKit

set_option maxHeartbeats 8000000 in
set_option maxRecDepth 100000 in
theorem rsame12_yes (w : World) (u v : Value) (G : List Cls) (m : Nat) (U V : Nat → Value) (hu : GSee w u G U) (hv : GSee w v G V) (hg : GG G m) :
    Calls Tryd.prog 21 #[u, v] w fun e w' => e = .returned (.bool true) ∧ Below w.heap.size w w' := by
  obtain ⟨ua, uc, e⟩ := hu.shape
  subst e
  obtain ⟨va, vc, e⟩ := hv.shape
  subst e
  obtain ⟨n, hn⟩ : ∃ n, n = G.length := ⟨_, rfl⟩
  have HN := Lib.hid hn
  have HU := Lib.hid hu
  have HV := Lib.hid hv
  have HG := Lib.hid hg
  rw [← hn] at HU HV ⊢
  have HN6 := Lib.hid (show n ≤ 600 by rw [hn]; exact hg.n1)
  clear hn hu hv hg
  go_enter Tryd.func21, Tryd.ntmps21
  go_wp2
  go_loopg [5] n (fun gl vi wr => ∃ (k : Nat), vi = .int .i64 k ∧ k ≤ n ∧ n - k ≤ gl ∧ Hid (Below w.heap.size w wr))
  case atStart => exact ⟨0, rfl, Nat.zero_le _, Nat.sub_le _ _, Lib.hid (Below.refl _ _)⟩
  case round =>
    obtain ⟨k, rfl, hkn, hgk, HB⟩ := hrel
    by_cases hlt : k < n
    · have HLT := Lib.hid hlt
      have hkG : k < G.length := by rw [← HN.out]; exact hlt
      obtain ⟨gu, ou, cu, e, _, hgu, hcu⟩ := (HU.out.below HB.out).open (by omega)
      injection e with e1 e2 e3
      subst e1 e3
      clear e2
      obtain ⟨gv, ov, cv, e, _, hgv, hcv⟩ := (HV.out.below HB.out).open (by omega)
      injection e with e1 e2 e3
      subst e1 e3
      clear e2
      have ck := hcu k hkG
      have dk := hcv k hkG
      have HRU := Lib.hid ((HU.out.below HB.out).row hkG)
      have HRV := Lib.hid ((HV.out.below HB.out).row hkG)
      obtain ⟨xa, xc, ex⟩ := HRU.out.shape
      obtain ⟨ya, yc, ey⟩ := HRV.out.shape
      have hl6 : (rowG G k).length ≤ 10000 := by rw [(HG.out.at hkG).2.1]; have := HG.out.m1; omega
      obtain ⟨R, hR⟩ : ∃ R, R = rowG G k := ⟨_, rfl⟩
      rw [← hR] at HRU HRV ex ey hl6
      obtain ⟨xn, hxn⟩ : ∃ n, n = R.length := ⟨_, rfl⟩
      rw [← hxn] at ex ey
      rw [ex] at HRU ck
      rw [ey] at HRV dk
      have KEEP := Lib.hid (show ∀ W, Below wr.heap.size wr W → (fun wx => wx.cell? ⟨gu, ou + k, none⟩ = some (.slice xa xn xc) ∧ wx.cell? ⟨gv, ov + k, none⟩ = some (.slice ya xn yc)) W from fun W kb => ⟨(kb.cell (p := ⟨gu, ou + k, none⟩) hgu).trans ck, (kb.cell (p := ⟨gv, ov + k, none⟩) hgv).trans dk⟩)
      have HCL := Lib.hid (fun (W : World) (kb : Below wr.heap.size wr W) => (show Calls Tryd.prog 44 #[.slice xa xn xc, .slice ya xn yc] W fun e w' => e = .returned (.bool true) ∧ Below W.heap.size W w' by
        have := rsame_any W _ _ R R (HRU.out.below kb) (HRV.out.below kb) hl6
        rwa [decide_eq_true rfl] at this))
      clear hcu hcv hgu hgv hkG ex ey hxn hR HRU HRV hl6
      go_wp2_with fail
      refine wp_region_held_drew (S := (fun wx => wx.cell? ⟨gu, ou + k, none⟩ = some (.slice xa xn xc) ∧ wx.cell? ⟨gv, ov + k, none⟩ = some (.slice ya xn yc))) (by kernel_rfl) ?_ (fun hHeld => ?_)
      · exact KEEP.out _ ((Below.refl _ _).drew)
      obtain ⟨wd, hwd⟩ : ∃ X, X = wr.drew := ⟨_, rfl⟩
      have HX := Lib.hid (show Below wr.heap.size wr wd by rw [hwd]; exact (Below.refl _ _).drew)
      replace hHeld := KEEP.out _ HX.out
      rw [← hwd]
      clear hwd
      refine tk 0 rfl (fun w hSw => by (try dsimp only at hSw); go_simp; try with_reducible rfl) ?_
      go_frame
      refine tk 1 rfl (fun w hSw => by (try dsimp only at hSw); go_simp; try with_reducible rfl) ?_
      go_frame
      refine tk 2 rfl (fun w hSw => by (try dsimp only at hSw); go_simp; try with_reducible rfl) ?_
      go_frame
      refine tk 3 rfl (fun w hSw => by (try dsimp only at hSw); go_simp; try with_reducible rfl) ?_
      go_frame
      refine tk 4 rfl (fun w hSw => by (try dsimp only at hSw); go_simp; try with_reducible rfl) ?_
      go_frame
      refine tk 5 rfl (fun w hSw => by (try dsimp only at hSw); go_simp; try with_reducible rfl) ?_
      go_frame
      refine tk 6 rfl (fun w hSw => by (try dsimp only at hSw); go_simp; try with_reducible rfl) ?_
      go_frame
      refine tk 7 rfl (fun w hSw => by (try dsimp only at hSw); go_simp; try with_reducible rfl) ?_
      go_frame
      refine do_at (i := 8) rfl (by kernel_rfl) (by kernel_rfl) (fun K hK => ?_)
      go_simp
      refine (HCL.out _ HX.out).mono ?_
      rintro e w2 ⟨rfl, b2⟩
      replace HX := Lib.hid (HX.out.trans (b2.mono HX.out.size))
      clear b2
      go_wp2_with fail
      refine hK.out _ _ ?_ (fun hHeld => ?_)
      · exact KEEP.out _ HX.out
      clear hK K
      try go_frame
      refine tk 9 rfl (fun w hSw => by (try dsimp only at hSw); go_simp; try with_reducible rfl) ?_
      go_frame
      refine wpAnyH_done (by kernel_rfl) ?_ _
      have HB2 := Lib.hid (show Below w.heap.size w w2 from HB.out.trans (HX.out.mono HB.out.size))
      clear hHeld KEEP HCL ck dk HX HB
      go_wp2
      go_roundg (n - (k + 1))
      case rel =>
        have hk8 : k ≤ 600 := by have := HN6.out; have := HLT.out; omega
        exact ⟨k + 1, by first | go_num | (refine congrArg _ ?_; unfold wrap64; omega), HLT.out, Nat.le_refl _, HB2⟩
      case measure => have := HLT.out; omega
    · obtain rfl : k = n := by omega
      clear hlt
      go_wp2
      go_ret
      exact ⟨rfl, HB.out⟩
end Go.Proofs.YtlaafmjiiiaceaaDoor.Lab
