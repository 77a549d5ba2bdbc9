/- Sgr: what parameters make of an attribute. -/
import Derived.Test.YtlmhnebgkginkaaDoorAtTake
import Derived.Deep.CutBlock
import Derived.Deep.DeepCutAuto
namespace Go.Proofs.YtlmhnebgkginkaaDoor.Lab
open Go Go.RowKit

theorem lit_mat (w : World) (w' : World) (hw : w' = (w.alloc (.cells #[.int .i64 (-1)] 3)).alloc (.cells #[.slice (some ⟨w.heap.size, 0, none⟩) 1 1] 50)) (X : Nat → Prop) (h1 : X w.heap.size) (h2 : X (w.heap.size + 1)) : MatAt w' X (.slice (some ⟨w.heap.size + 1, 0, none⟩) 1 1) [[-1]] := by
  subst hw
  refine ⟨_, 1, rfl, by simp, by simp [maxLen], fun _ => ⟨w.heap.size + 1, 0, rfl, h2, by simp, fun j hj => ?_⟩⟩
  obtain rfl : j = 0 := by simpa using hj
  refine ⟨.slice (some ⟨w.heap.size, 0, none⟩) 1 1, by simp, _, 1, rfl, by simp, by simp [maxLen], fun _ => ⟨w.heap.size, 0, rfl, h1, by simp; omega, fun j hj => ?_⟩⟩
  obtain rfl : j = 0 := by simpa using hj
  simp
theorem loop_lit (a : At) : loopM a [[-1]] = At.zero := by
  rw [loopM_cons]
  rfl
set_option maxHeartbeats 2000000 in
set_option maxRecDepth 100000 in
theorem sgr_any (w : World) (X : Nat → Prop) (v : Value) (P : Rws) (a : At) (ha : a.ok) (hi : RowsI P) (h : MatAt w X v P) :
    Calls Tryd.prog 12 #[attV a, v] w fun e w' => e = .returned (attV (sgrM a P)) ∧ Below w.heap.size w w' := by
  obtain ⟨P', hP', hl', hi'⟩ : ∃ P', (P' = if P = [] then [[-1]] else P) ∧ loopM a P' = sgrM a P ∧ RowsI P' := by
    by_cases hP : P = []
    · refine ⟨[[-1]], by rw [if_pos hP], by rw [loop_lit, sgrM, if_pos hP], ?_⟩
      intro r hr x hx
      simp at hr
      subst hr
      simp at hx
      subst hx
      decide
    · exact ⟨P, by rw [if_neg hP], by rw [sgrM, if_neg hP], hi⟩
  obtain ⟨ad, c, rfl⟩ := h.shape
  obtain ⟨n, hn⟩ : ∃ n, n = P.length := ⟨_, rfl⟩
  have HN := Lib.hid hn
  rw [← hn] at h ⊢
  obtain ⟨w0, hw0⟩ : ∃ w0, w0 = (w.alloc (.cells #[.int .u8 a.fg.k, .int .u8 a.fg.r, .int .u8 a.fg.g, .int .u8 a.fg.b, .int .u8 a.bg.k, .int .u8 a.bg.r, .int .u8 a.bg.g, .int .u8 a.bg.b, .int .u16 (a.fl : Nat)] 26)).alloc (.cells #[.int .u8 0, .int .u8 0, .int .u8 0, .int .u8 0, .int .u8 0, .int .u8 0, .int .u8 0, .int .u8 0, .int .u16 0] 26) := ⟨_, rfl⟩
  have b0 : Below w.heap.size w w0 := by rw [hw0]; exact ((Below.refl _ _).alloc (Nat.le_refl _) _).alloc (by simp) _
  have HA := Lib.hid (show AtAt w0 w.heap.size a by rw [hw0]; exact (AtAt.newAt w _ rfl a _).past _)
  have HZ := Lib.hid (show AtAt w0 (w.heap.size + 1) At.zero by rw [hw0]; exact AtAt.newAt _ _ (by simp) At.zero _)
  have HM := Lib.hid (h.below b0).bound
  have HB := Lib.hid b0
  have HL := Lib.hid hl'
  have HI := Lib.hid hi'
  have HP := Lib.hid hP'
  have HOK := Lib.hid ha
  clear hn h b0 hl' hi' hP' hi ha
  go_enter Tryd.func12, Tryd.ntmps12
  go_upto_if 9 with (fail)
  rw [← hw0]
  clear hw0
  go_cut [1] (fun p wc => ∃ (ad : Option Addr) (c n : Nat), p = .slice ad n c ∧ n = P'.length ∧ Hid (MatAt wc (fun g => g < wc.heap.size) (.slice ad n c) P') ∧ Hid (AtAt wc w.heap.size a) ∧ Hid (AtAt wc (w.heap.size + 1) At.zero) ∧ Hid (Below w.heap.size w wc))
  case first =>
    by_cases h0 : n = 0
    · subst h0
      have hPe : P = [] := List.length_eq_zero_iff.1 HN.out.symm
      have HPE := Lib.hid (show P' = [[-1]] by rw [HP.out, if_pos hPe])
      obtain ⟨wz, hwz⟩ : ∃ wz, wz = (w0.alloc (.cells #[.int .i64 (-1)] 3)).alloc (.cells #[.slice (some ⟨w0.heap.size, 0, none⟩) 1 1] 50) := ⟨_, rfl⟩
      have bz : Below w0.heap.size w0 wz := by rw [hwz]; exact ((Below.refl _ _).alloc (Nat.le_refl _) _).alloc (by simp) _
      have hsz : wz.heap.size = w0.heap.size + 2 := by rw [hwz]; simp
      have HMZ := Lib.hid (show MatAt wz (fun g => g < wz.heap.size) (.slice (some ⟨w0.heap.size + 1, 0, none⟩) 1 1) P' by
        rw [HPE.out]
        exact lit_mat w0 wz hwz _ (by rw [hsz]; omega) (by rw [hsz]; omega))
      have HAZ := Lib.hid (HA.out.below bz)
      have HZZ := Lib.hid (HZ.out.below bz)
      have HBZ := Lib.hid (HB.out.trans (bz.mono HB.out.size))
      clear hPe HM HP bz hsz
      go_wp2
      rw [← hwz]
      go_meet
      case rel => exact ⟨_, 1, 1, rfl, by rw [HPE.out]; rfl, HMZ, HAZ, HZZ, HBZ⟩
    · have h0' : ((n : Int) == 0) = false := by simp; omega
      have HPE := Lib.hid (show P' = P by rw [HP.out, if_neg (fun e => h0 (by rw [HN.out, e]; rfl))])
      clear h0
      go_wp2
      go_meet
      case rel => exact ⟨ad, c, n, rfl, by rw [HPE.out, ← HN.out], by rw [HPE.out]; exact HM, HA, HZ, HB⟩
  case rest =>
    obtain ⟨ad1, c1, n1, rfl, hn1, HM1, HA1, HZ1, HB1⟩ := hcut
    obtain ⟨w1, rfl⟩ : ∃ w1 : World, w1 = wc := ⟨_, rfl⟩
    have HN1 := Lib.hid hn1
    clear hn1 HM HA HZ HB HN HP
    go_wp2_with fail
    refine (numbers_any w1).mono ?_
    rintro e w2 ⟨rfl, m2, b2⟩
    obtain ⟨M, hM⟩ : ∃ M, M = w1.heap.size := ⟨_, rfl⟩
    rw [← hM] at m2 ⊢
    have HMp := Lib.hid m2
    have HM2 := Lib.hid ((HM1.out.below b2).bound)
    have HA2 := Lib.hid (HA1.out.below b2)
    have HZ2 := Lib.hid (HZ1.out.below b2)
    have HB2 := Lib.hid (HB1.out.trans (b2.mono HB1.out.size))
    clear hM m2 b2 HM1 HA1 HZ1 HB1
    obtain ⟨w3, hw3⟩ : ∃ w3, w3 = w2.alloc (.cells #[.int .u8 a.fg.k, .int .u8 a.fg.r, .int .u8 a.fg.g, .int .u8 a.fg.b, .int .u8 a.bg.k, .int .u8 a.bg.r, .int .u8 a.bg.g, .int .u8 a.bg.b, .int .u16 (a.fl : Nat), .slice ad1 n1 c1] 65) := ⟨_, rfl⟩
    have b3 : Below w2.heap.size w2 w3 := by rw [hw3]; exact (Below.refl _ _).alloc (Nat.le_refl _) _
    have HR3 := Lib.hid (show RdAt w3 w2.heap.size a (.slice ad1 n1 c1) by rw [hw3]; exact RdAt.newAt w2 _ rfl a _ _)
    have HM3 := Lib.hid (HM2.out.below b3)
    have HMp3 := Lib.hid (HMp.out.below b3)
    have HZ3 := Lib.hid (HZ2.out.below b3)
    have HB3 := Lib.hid (HB2.out.trans (b3.mono HB2.out.size))
    have hz2 : w.heap.size + 1 < w2.heap.size := HZ2.out.1
    obtain ⟨z, hz⟩ : ∃ z, z = w2.heap.size := ⟨_, rfl⟩
    have HZE := Lib.hid (show z ≤ w3.heap.size by rw [hz]; exact b3.size)
    have HWZ := Lib.hid (show w.heap.size + 1 < z by rw [hz]; exact hz2)
    obtain ⟨y0, ⟨y1, y2, y3, y4, y5, y6, y7, y8, y9⟩, yf⟩ := HA2.out
    rw [← hz] at HR3 HM3
    clear b3 HM2 HMp HZ2 HB2 hz2
    go_wp2
    rw [← hw3, ← hz]
    clear hw3 hz y0 y1 y2 y3 y4 y5 y6 y7 y8 y9 yf HA2
    go_loopg [] n1 (fun g wr => ∃ (L : Rws) (a' : At) (v' : Value), L.length ≤ g ∧ Hid (loopM a' L = loopM a P') ∧ Hid (RowsI L) ∧ Hid a'.ok ∧ Hid (RdAt wr z a' v') ∧ Hid (MatAt wr (fun g => g < z) v' L) ∧ Hid (MapL wr M NL) ∧ Hid (AtAt wr (w.heap.size + 1) At.zero) ∧ Hid (Below w.heap.size w wr) ∧ Hid (z ≤ wr.heap.size))
    case atStart => exact ⟨P', a, _, by rw [HN1.out]; exact Nat.le_refl _, Lib.hid rfl, HI, HOK, HR3, HM3, HMp3, HZ3, HB3, HZE⟩
    case round =>
      obtain ⟨L, a', v', hlen, HLp, HIL, HO, HR, HM, HMp, HZ, HB, HZZ⟩ := hrel
      clear HR3 HM3 HMp3 HZ3 HB3 HZE
      obtain ⟨la, lc, rfl⟩ := HM.out.shape
      cases L with
      | nil =>
        have HE := Lib.hid (show sgrM a P = a' by rw [← HL.out, ← HLp.out]; rfl)
        have hne : w.heap.size + 1 ≠ z := by have := HWZ.out; omega
        obtain ⟨⟨y0, ⟨y1, y2, y3, y4, y5, y6, y7, y8, y9⟩, yf⟩, y10⟩ := HR.out
        have y10' : wr.cell? ⟨z, 9, none⟩ = some (.slice la 0 lc) := y10
        obtain ⟨x0, ⟨x1, x2, x3, x4, x5, x6, x7, x8, x9⟩, xf⟩ := HZ.out
        dsimp only at x1 x2 x3 x4 x5 x6 x7 x8 x9
        have ZE := Lib.hid (HZ.out.putA a')
        have BE := Lib.hid (HB.out.trans ((putA_but wr (w.heap.size + 1) a').below (C := w.heap.size) (Nat.le_succ _) HB.out.size))
        clear y10 HM
        go_wp2
        have Z := ZE.out
        have HB4 := BE.out
        simp only [putA, putC, Nat.zero_add, Nat.reduceAdd] at Z HB4
        obtain ⟨c0, ⟨k1, k2, k3, k4, k5, k6, k7, k8, k9⟩, kf⟩ := Z
        exact bodyPost_ret (v := attV a') (by simp [results, Tryd.results12, go_sem, k1, k2, k3, k4, k5, k6, k7, k8, k9]) rfl ⟨by rw [HE.out], HB4⟩
      | cons row t =>
        have HR10 := HR.out.2
        obtain ⟨ln, hln⟩ : ∃ ln, ln = (row :: t).length := ⟨_, rfl⟩
        have hln0 : 0 < ln := by rw [hln]; simp
        have hgk : t.length + 1 ≤ gk := by simpa using hlen
        have CN := Lib.hid (next_any wr (fun g => g < z) z a' la _ lc 1 (row :: t) HR.out HM.out (Nat.lt_irrefl z))
        rw [← hln] at HR10
        have HRo := Lib.hid HR.out
        clear hln HM HR hlen
        go_wp2_with fail
        refine CN.out.mono ?_
        rintro e w4 ⟨a1, a2, rfl, M1, R1, M2, b4⟩
        have HR := Lib.hid (show RdAt w4 z a' (.slice a2 t.length t.length) from R1)
        have HM := Lib.hid (show MatAt w4 (fun g => g < z) (.slice a2 t.length t.length) t from M2)
        have M1' : MatAt w4 (fun g => g < z) (.slice a1 1 1) [row] := M1
        obtain ⟨g1, o1, c2, e2, _, _, hg1, _, hcell⟩ := M1'.open (by simp)
        obtain ⟨x, hx, hrow⟩ := hcell 0 (by simp)
        have hrow' : NumsAt w4 (fun g => g < z) x row := hrow
        have a0 : w4.cell? ⟨g1, o1, none⟩ = some x := hx
        injection e2 with e2 e3 e4
        subst e2
        have hone : ((row :: t).take 1).length = 1 := rfl
        rw [hone]
        have hzb : z ≠ w.heap.size + 1 := by have := HWZ.out; omega
        have HMp4 := Lib.hid (HMp.out.but HRo.out b4)
        have HZ4 := Lib.hid (HZ.out.same b4.size (b4.block _ HZ.out.1 (by simp; omega)))
        have HB4 := Lib.hid (HB.out.trans (b4.below (C := w.heap.size) (by have := HWZ.out; omega) HB.out.size))
        have HZZ4 := Lib.hid (Nat.le_trans HZZ.out b4.size)
        have CT := Lib.hid (take_any w4 (fun g => g < z) z M a' _ x row t (fun g hg => Nat.lt_of_lt_of_le hg HZZ4.out) (Nat.lt_irrefl z) HO.out.2.2 HMp4.out HR.out HM.out hrow' (HIL.out row (by simp)))
        obtain ⟨xa, xc, rfl⟩ := hrow'.shape
        obtain ⟨xn, hxn⟩ : ∃ xn, xn = row.length := ⟨_, rfl⟩
        rw [← hxn] at a0 CT
        clear hxn M1 M1' R1 M2 hrow hrow' hcell hx e3 e4 hone HMp HZ HB HRo CN HR10
        go_wp2_with fail
        refine CT.out.mono ?_
        rintro e w5 ⟨rfl, v5, R5, M5, b5⟩
        have HR5 := Lib.hid R5
        have HM5 := Lib.hid M5
        have HMp5 := Lib.hid (HMp4.out.but HR.out b5)
        have HZ5 := Lib.hid (HZ4.out.same b5.size (b5.block _ HZ4.out.1 (by simp; omega)))
        have HB5 := Lib.hid (HB4.out.trans (b5.below (C := w.heap.size) (by have := HWZ.out; omega) HB4.out.size))
        have HZZ5 := Lib.hid (Nat.le_trans HZZ4.out b5.size)
        have HLp5 := Lib.hid (show loopM (stepM a' row t).1 (stepM a' row t).2 = loopM a P' by rw [← HLp.out, loopM_cons])
        have HIL5 := Lib.hid (HIL.out.sub (Q := (stepM a' row t).2) fun r hr => List.mem_cons_of_mem _ (stepM_sub a' row t r hr))
        have HO5 := Lib.hid (stepM_ok HO.out row t)
        have hl5 : (stepM a' row t).2.length ≤ gk - 1 := by have := stepM_len a' row t; omega
        have hg5 : gk - 1 < gk := by omega
        clear R5 M5 b5 CT HR HM HMp4 HZ4 HB4
        generalize (stepM a' row t).2 = L5 at *
        generalize (stepM a' row t).1 = a5 at *
        go_wp2
        go_roundg (gk - 1)
        case rel => exact ⟨L5, a5, v5, hl5, HLp5, HIL5, HO5, HR5, HM5, HMp5, HZ5, HB5, HZZ5⟩
        case measure => exact hg5
end Go.Proofs.YtlmhnebgkginkaaDoor.Lab
