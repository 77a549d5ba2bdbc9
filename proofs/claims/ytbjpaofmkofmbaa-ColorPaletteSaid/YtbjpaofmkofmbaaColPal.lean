/- The Go law ColorPalette: its walk. -/
import Derived.Test.YtbjpaofmkofmbaaPalMath
import Derived.Test.YtbjpaofmkofmbaaResolve
import Derived.Deep.RegionHeld3
import Derived.Deep.DeepCutAuto
import Derived.Deep.CutBlock
import Derived.Deep.LoopGhost
import Derived.RegionTactic
import Derived.ChangeAlike
namespace Go.Proofs.Ytbjpaofmkofmbaa.Lab
open Go.RowKit

/-- The three bytes, boxed, as they lie while the statement runs. -/
def CB (w0 w : World) (c : V) : Prop := Below w0.heap.size w0 w ∧ w0.heap.size < w.heap.size ∧ w.cell? ⟨w0.heap.size, 0, none⟩ = some (.int .u8 c.1) ∧ w.cell? ⟨w0.heap.size, 1, none⟩ = some (.int .u8 c.2.1) ∧ w.cell? ⟨w0.heap.size, 2, none⟩ = some (.int .u8 c.2.2)
theorem CB.below {w0 w w' : World} {c : V} (h : CB w0 w c) (hb : Below w.heap.size w w') : CB w0 w' c := by
  obtain ⟨h1, h2, c0, c1, c2⟩ := h
  exact ⟨bstep h1 hb, Nat.lt_of_lt_of_le h2 hb.size, (hb.cell (p := ⟨w0.heap.size, 0, none⟩) h2).trans c0, (hb.cell (p := ⟨w0.heap.size, 1, none⟩) h2).trans c1, (hb.cell (p := ⟨w0.heap.size, 2, none⟩) h2).trans c2⟩
theorem CB.past {w0 w : World} {c : V} (h : CB w0 w c) (o : Obj) : CB w0 (w.alloc o) c := h.below ((Below.refl _ _).alloc (Nat.le_refl _) o)
theorem CB.grown {w0 w w' : World} {c : V} {row : Option Nat} (h : CB w0 w c) (hg : w.grownBy w' row) (hB : w0.heap.size + 1 ≤ w.heap.size) (hr : ∀ k, row = some k → w0.heap.size + 1 ≤ k) : CB w0 w' c := by
  have hb : Below (w0.heap.size + 1) w w' := Below.grown (Below.refl _ _) hg hB hr
  obtain ⟨h1, h2, c0, c1, c2⟩ := h
  exact ⟨h1.trans (hb.mono (by omega)), Nat.lt_of_lt_of_le h2 hb.size, (hb.cell (p := ⟨w0.heap.size, 0, none⟩) (by simp)).trans c0, (hb.cell (p := ⟨w0.heap.size, 1, none⟩) (by simp)).trans c1, (hb.cell (p := ⟨w0.heap.size, 2, none⟩) (by simp)).trans c2⟩
theorem CB.start (w : World) (c : V) (T : TypeId) : CB w (w.alloc (.cells #[.int .u8 c.1, .int .u8 c.2.1, .int .u8 c.2.2] T)) c := by
  refine ⟨(Below.refl _ _).alloc (Nat.le_refl _) _, by simp, ?_, ?_, ?_⟩ <;> (rw [World.cell?_alloc_at _ _ _ _ rfl]; rfl)

theorem palPast {w : World} {b off n : Nat} {ps : List V} (h : PalAt w b off n ps) (o : Obj) : PalAt (w.alloc o) b off n ps := h.below ((Below.refl _ _).alloc (Nat.le_refl _) o)

theorem near_pal {v : V} {ps : List V} {g n c : Nat} {w : World} (hv : U16 v) {j : Nat} (hj : Hid ((near v ps n).1 = j)) (h : PalAt w g 0 n ps) :
    Calls Try.prog 17 #[valT v, .slice (some ⟨g, 0, none⟩) n c] w fun e w' => e = .returned (.int .i64 j) ∧ Below w.heap.size w w' :=
  (nearest_any v hv ps g 0 n c w h).mono fun e w' ⟨he, hw⟩ => ⟨by rw [he, hj.out], hw⟩

theorem res_rgb {g cap : Nat} {w : World} (c : V) (hc0 : c.1 < 256) (hc1 : c.2.1 < 256) (hc2 : c.2.2 < 256) (o : V) (h : PalAt w g 0 256 palL) :
    Calls Try.prog 12 #[colA 2 c.1 c.2.1 c.2.2, .slice (some ⟨g, 0, none⟩) 256 cap, valT o] w fun e w' => e = .returned (valT (c.1 * 257, c.2.1 * 257, c.2.2 * 257)) ∧ Below w.heap.size w w' :=
  (resolve_any 2 c.1 c.2.1 c.2.2 hc0 hc1 hc2 (some ⟨g, 0, none⟩) 256 cap palL o w (.inr ⟨g, 0, rfl, h⟩)).mono fun e w' ⟨he, hw⟩ => ⟨by
    rw [he]
    unfold resV
    rw [if_pos rfl, Nat.mul_comm 257, Nat.mul_comm 257, Nat.mul_comm 257], hw⟩

theorem res_index {g cap : Nat} {w : World} (n : Nat) (hn : n < 256) (o v : V) (hv : Hid (defV (n : Int) = v)) (h : PalAt w g 0 256 palL) :
    Calls Try.prog 12 #[colA 1 n 0 0, .slice (some ⟨g, 0, none⟩) 256 cap, valT o] w fun e w' => e = .returned (valT v) ∧ Below w.heap.size w w' :=
  (resolve_any 1 n 0 0 hn (by decide) (by decide) (some ⟨g, 0, none⟩) 256 cap palL o w (.inr ⟨g, 0, rfl, h⟩)).mono fun e w' ⟨he, hw⟩ => ⟨by
    rw [he]
    unfold resV
    rw [if_neg (by decide), if_pos ⟨rfl, by rw [palL_len]; exact hn⟩, show palL[n]?.getD (0, 0, 0) = v from (palL_at n hn).trans hv.out], hw⟩

theorem res_none {g cap : Nat} {w : World} (o : V) (h : PalAt w g 0 256 palL) :
    Calls Try.prog 12 #[colA 0 0 0 0, .slice (some ⟨g, 0, none⟩) 256 cap, valT o] w fun e w' => e = .returned (valT o) ∧ Below w.heap.size w w' :=
  (resolve_any 0 0 0 0 (by decide) (by decide) (by decide) (some ⟨g, 0, none⟩) 256 cap palL o w (.inr ⟨g, 0, rfl, h⟩)).mono fun e w' ⟨he, hw⟩ => ⟨by
    rw [he]
    rfl, hw⟩

/-- What lies while the rest of the statement runs: the bytes, the palette, the two values. -/
def PB (w0 w : World) (c : V) (g b1 b2 : Nat) (v u : V) : Prop := CB w0 w c ∧ PalAt w g 0 256 palL ∧ V3 w b1 v.1 v.2.1 v.2.2 ∧ V3 w b2 u.1 u.2.1 u.2.2
theorem PB.below {w0 w w' : World} {c : V} {g b1 b2 : Nat} {v u : V} (h : PB w0 w c g b1 b2 v u) (hb : Below w.heap.size w w') : PB w0 w' c g b1 b2 v u := ⟨h.1.below hb, h.2.1.below hb, h.2.2.1.below hb, h.2.2.2.below hb⟩
theorem PB.past {w0 w : World} {c : V} {g b1 b2 : Nat} {v u : V} (h : PB w0 w c g b1 b2 v u) (o : Obj) : PB w0 (w.alloc o) c g b1 b2 v u := h.below ((Below.refl _ _).alloc (Nat.le_refl _) o)
theorem PB.drew {w0 w : World} {c : V} {g b1 b2 : Nat} {v u : V} (h : PB w0 w c g b1 b2 v u) : PB w0 w.drew c g b1 b2 v u := h.below (Below.refl _ _).drew

theorem grey_flat (n : Nat) (h1 : 232 ≤ n) (h2 : n < 256) : (defV (n : Int)).1 = (defV (n : Int)).2.1 ∧ (defV (n : Int)).2.1 = (defV (n : Int)).2.2 := by
  rw [grey_of_def n h1 h2]
  exact ⟨rfl, rfl⟩

theorem PB.drewN {w0 w : World} {c : V} {g b1 b2 : Nat} {v u : V} (h : PB w0 w c g b1 b2 v u) (n : Nat) : PB w0 (w.drewN n) c g b1 b2 v u := h.below (belowN (Below.refl _ _) n)
theorem PB.s {w0 w : World} {c : V} {g b1 b2 : Nat} {v u : V} (h : PB w0 w c g b1 b2 v u) {j : Nat} (hj : j < 256) (e : at3 palL j = v) : (w.cell? ⟨b1, 0, none⟩ = some (.int .u16 v.1) ∧ w.cell? ⟨b1, 1, none⟩ = some (.int .u16 v.2.1) ∧ w.cell? ⟨b1, 2, none⟩ = some (.int .u16 v.2.2)) ∧ (w.cell? ⟨b2, 0, none⟩ = some (.int .u16 u.1) ∧ w.cell? ⟨b2, 1, none⟩ = some (.int .u16 u.2.1) ∧ w.cell? ⟨b2, 2, none⟩ = some (.int .u16 u.2.2)) ∧ (w.cell? ⟨g, j * 3, none⟩ = some (.int .u16 v.1) ∧ w.cell? ⟨g, j * 3 + 1, none⟩ = some (.int .u16 v.2.1) ∧ w.cell? ⟨g, j * 3 + 2, none⟩ = some (.int .u16 v.2.2)) := by
  have hp := (h.2.1.2.2.2 j hj).2
  simp only [Nat.zero_add] at hp
  unfold at3 at e
  rw [e] at hp
  exact ⟨h.2.2.1.2.1, h.2.2.2.2.1, hp⟩

theorem own_below {w w' : World} {base : Nat} {e : TypeId} {size : Nat} {v : Value} {n : Nat} {xs : List Value} (h : w.ownsRow base e size v n xs) (hb : Below w.heap.size w w') : w'.ownsRow base e size v n xs :=
  h.kept (row := none) ⟨hb.os, hb.tape, hb.output, hb.size, fun k hk _ => hb.block k hk⟩ (by cases hv : v.ownBlock <;> simp)

set_option maxRecDepth 100000 in
set_option maxHeartbeats 8000000 in
theorem colorPalette_any (n m : Nat) (hn : n < 256) (hm : m < 256) (c : V) (hc0 : c.1 < 256) (hc1 : c.2.1 < 256) (hc2 : c.2.2 < 256) (w : World) :
    Calls Try.prog 5 #[.int .u8 n, .int .u8 m, .agg #[.int .u8 c.1, .int .u8 c.2.1, .int .u8 c.2.2]] w fun e w' => e = .returned (.bool true) ∧ Below w.heap.size w w' := by
  obtain ⟨ib, hi, hz0, hz1, hz2⟩ := info_parts infoV
  go_enter Try.func5, Try.ntmps5
  go_wp2_with fail
  refine (works_any _).mono ?_
  rintro e w1 ⟨rfl, hb1⟩
  have N1 := Lib.hid ((CB.start w c 52).below hb1)
  clear hb1
  go_upto_block 0 with (fail)
  go_cut [7] (fun p wc => ∃ (g cap : Nat), p = .slice (some ⟨g, 0, none⟩) 256 cap ∧ w.heap.size + 1 ≤ g ∧ Hid (CB w wc c) ∧ Hid (PalAt wc g 0 256 palL))
  case first =>
    go_wp2_with fail
    go_loopw [7, 8] (fun p i wr => ∃ (k : Nat) (p0 : Value), p0 = p ∧ k ≤ 256 ∧ i = .int .i64 k ∧ Hid (CB w wr c) ∧ Hid (wr.ownsRow (w.heap.size + 1) 35 3 p0 k (flat (palL.take k)))) (fun _ i _ => 256 - (intOf i).toNat)
    case atStart => exact ⟨0, _, rfl, Nat.zero_le _, rfl, N1, Lib.hid (World.ownsRow_nil _ _ _ _)⟩
    case round =>
      obtain ⟨k, p0, rfl, hk, rfl, hN, hO⟩ := hrel
      clear N1
      by_cases hlt : k < 256
      · have HS := Lib.hid (flat_snoc palL k (by rw [palL_len]; exact hlt))
        rw [palL_at k hlt] at HS
        have DT := Lib.hid (def_true k hlt)
        obtain ⟨m0, m1, m2, -⟩ := def_ok k hlt
        have HV := Lib.hid (default_any (k : Int))
        generalize defV (k : Int) = u at *
        have y0 : (u.1 : Int) % 257 = 0 := by omega
        have y1 : (u.2.1 : Int) % 257 = 0 := by omega
        have y2 : (u.2.2 : Int) % 257 = 0 := by omega
        clear m0 m1 m2
        go_wp2_with fail
        refine (form_of rfl DT.out (HV.out _)).mono ?_
        rintro e w5 ⟨rfl, hb5⟩
        have hN2 := Lib.hid (hN.out.below hb5)
        have hO2 := Lib.hid (own_below hO.out hb5)
        go_wp2
        refine wp_loop_rounds 4 ?_
        rw [rounds_succ]
        go_wp2
        rw [rounds_succ]
        go_wp2
        rw [rounds_succ]
        go_wp2
        rw [rounds_succ]
        have hx := hN2.out.2.1
        go_wp2_with (at_builtin; refine wpList_append_own _ rfl (.tmp 40) (.tmp 42) 42 rfl (w.heap.size + 1) 35 ib (.agg #[.int .u16 0, .int .u16 0, .int .u16 0]) 3 6 Try.underlying42 hi hz0 hz1 hz2 rfl (by decide) _ _ _ rfl ((hO2.out.alloc _).alloc _) ⟨w5.heap.size + 1, 0, none⟩ 1 1 (cells3 u) rfl rfl ?c1 ?c2 ?c3 ?c4 ?c5 ?_)
        case c1 => exact new3 _ _ _ _ (by simp)
        case c2 => exact flat_one u
        case c3 => unfold maxLen; omega
        case c4 => omega
        case c5 => simp; omega
        intro p' w' own' grow' _
        go_wp2
        go_roundw
        case rel => exact ⟨k + 1, _, rfl, by omega, by go_num, Lib.hid (((hN2.out.past _).past _).grown grow' (by simp; omega) (fun j hj => (hO.out.lt j hj).1)), Lib.hid (by rw [HS.out]; exact own')⟩
        case measure => simp [intOf]; omega
      · have hk2 : k = 256 := by omega
        subst hk2
        rw [List.take_of_length_le (by rw [palL_len]; omega)] at hO
        have hfin : ∃ g cap, p0 = .slice (some ⟨g, 0, none⟩) 256 cap ∧ w.heap.size + 1 ≤ g ∧ PalAt wr g 0 256 palL := by
          rcases pal_of_own palL_len (by unfold maxLen; omega) (fun i hi => by rw [palL_at i hi]; exact (def_ok i hi).2.2.2) hO.out with ⟨h0, _⟩ | ⟨g, cap, h1, h2, h3⟩
          · omega
          · exact ⟨g, cap, h1, h2, h3⟩
        obtain ⟨g, cap, rfl, hg, hP⟩ := hfin
        have HG := Lib.hid hg
        have HP := Lib.hid hP
        clear hg hP hO
        go_wp2
        go_meet
        case rel => exact ⟨g, cap, rfl, HG.out, hN, HP⟩
  case rest =>
    obtain ⟨g, cap, rfl, hg, hN, hP⟩ := hcut
    obtain ⟨wx, rfl⟩ : ∃ wx : World, wx = wc := ⟨_, rfl⟩
    clear N1
    have h0 := (hP.out.2.2.2 n hn).2
    have h1 := (hP.out.2.2.2 m hm).2
    simp only [Nat.zero_add] at h0 h1
    have e0 : palL[n]?.getD (0, 0, 0) = defV (n : Int) := palL_at n hn
    have e1 : palL[m]?.getD (0, 0, 0) = defV (m : Int) := palL_at m hm
    rw [e0] at h0
    rw [e1] at h1
    clear e0 e1
    obtain ⟨p0, p1, p2⟩ := h0
    obtain ⟨r0, r1, r2⟩ := h1
    obtain ⟨v, hv⟩ : ∃ v, defV (n : Int) = v := ⟨_, rfl⟩
    obtain ⟨u, hu⟩ : ∃ u, defV (m : Int) = u := ⟨_, rfl⟩
    rw [hv] at p0 p1 p2
    rw [hu] at r0 r1 r2
    have HV := Lib.hid hv
    have HU := Lib.hid hu
    clear hv hu
    have lg : g < wx.heap.size := hP.out.1
    have lg1 : g < wx.heap.size + 1 := by omega
    have ng1 : ¬ g = wx.heap.size := by omega
    have ng2 : ¬ g = wx.heap.size + 1 := by omega
    have nb : (n : Int) < 256 := by omega
    have mb : (m : Int) < 256 := by omega
    go_upto_region 16 with (fail)
    go_cut [12, 13] (fun x y wc => ∃ b1 b2 : Nat, x = .pointer (some ⟨b1, 0, none⟩) ∧ y = .pointer (some ⟨b2, 0, none⟩) ∧ Hid (PB w wc c g b1 b2 v u))
    case first =>
      go_region
      all_goals
        go_wp2_with fail
        go_meet
        case rel => first
          | exact ⟨_, _, rfl, rfl, Lib.hid (PB.drew ⟨(hN.out.past _).past _, palPast (palPast hP.out _) _, (V3.newAt wx _ rfl _ _ _ _).past _, V3.newAt (wx.alloc _) (wx.heap.size + 1) (by simp) _ _ _ _⟩)⟩
          | exact ⟨_, _, rfl, rfl, Lib.hid (PB.drew ⟨(hN.out.past _).past _, palPast (palPast hP.out _) _, V3.newAt (wx.alloc _) (wx.heap.size + 1) (by simp) _ _ _ _, (V3.newAt wx _ rfl _ _ _ _).past _⟩)⟩
    case rest =>
      obtain ⟨b1, b2, rfl, rfl, hQ⟩ := hcut
      obtain ⟨wy, rfl⟩ : ∃ wy : World, wy = wc := ⟨_, rfl⟩
      clear p0 p1 p2 r0 r1 r2 lg lg1 ng1 ng2 hN hP
      obtain ⟨z1, ⟨x0, x1, x2⟩, -⟩ := hQ.out.2.2.1
      obtain ⟨z2, ⟨w0, w1', w2⟩, -⟩ := hQ.out.2.2.2
      have hcases : (16 ≤ n ∧ n < 232 ∧ 16 ≤ m ∧ m < 232) ∨ (232 ≤ n ∧ 232 ≤ m) ∨ (232 ≤ n ∧ m < 232) ∨ (n < 16) ∨ (16 ≤ n ∧ n < 232 ∧ m < 16) ∨ (16 ≤ n ∧ n < 232 ∧ 232 ≤ m) := by omega
      rcases hcases with ⟨a1, a2, a3, a4⟩ | ⟨a1, a2⟩ | ⟨a1, a2⟩ | a1 | ⟨a1, a2, a3⟩ | ⟨a1, a2, a3⟩
      · obtain ⟨k0, k1, k2⟩ := cube_rise n m a1 a2 a3 a4
        rw [HV.out, HU.out] at k0 k1 k2
        have E0 : decide (v.1 < u.1) = decide (((n : Int) - 16) / 36 < ((m : Int) - 16) / 36) := by rw [decide_eq_decide, k0]; omega
        have E1 : decide (v.2.1 < u.2.1) = decide (((n : Int) - 16) / 6 % 6 < ((m : Int) - 16) / 6 % 6) := by rw [decide_eq_decide, k1]; omega
        have E2 : decide (v.2.2 < u.2.2) = decide (((n : Int) - 16) % 6 < ((m : Int) - 16) % 6) := by rw [decide_eq_decide, k2]; omega
        clear k0 k1 k2
        go_upto_region 23 with (fail)
        obtain ⟨y0, y1, y2⟩ := hQ.out.1.2.2
        have hq := eqVal
        have Q1 : eq3 v.1 v.2.1 v.2.2 v.1 v.2.1 v.2.2 = true := by simp [eq3]
        have Q2 : eq3 u.1 u.2.1 u.2.2 u.1 u.2.1 u.2.2 = true := by simp [eq3]
        obtain ⟨j, j1, j2, j3⟩ := near_same n hn
        rw [HV.out] at j2 j3
        have JN := Lib.hid j2
        have JE := Lib.hid j3
        have J1 := Lib.hid j1
        have UV := Lib.hid (show U16 v from by rw [← HV.out]; exact (def_ok n hn).2.2.2)
        clear j1 j2 j3
        go_wp2_with fail
        refine (res_rgb c hc0 hc1 hc2 v hQ.out.2.1).mono ?_
        rintro e w5 ⟨rfl, hb5⟩
        have hQ2 := Lib.hid (hQ.out.below hb5)
        clear hb5 hQ z1 x0 x1 x2 z2 w0 w1' w2 y0 y1 y2
        obtain ⟨y3, y0, y1, y2⟩ := hQ2.out.1.2
        go_wp2
        refine wp_loop_rounds 4 ?_
        rw [rounds_succ]
        go_wp2
        go_quiet (fail)
        go_wp2
        rw [rounds_succ]
        go_wp2
        go_quiet (fail)
        go_wp2
        rw [rounds_succ]
        go_wp2
        go_quiet (fail)
        go_wp2
        rw [rounds_succ]
        go_wp2
        have key := fun nq => PB.drewN (hQ2.out.past (.cells #[.int .u16 ((c.1 : Int) * 257), .int .u16 ((c.2.1 : Int) * 257), .int .u16 ((c.2.2 : Int) * 257)] 35)) nq
        have jb : (j : Int) < 256 := by have := J1.out; omega
        clear hQ2 y0 y1 y2 y3
        go_region_held3 (fun w' => (w'.cell? ⟨b1, 0, none⟩ = some (.int .u16 v.1) ∧ w'.cell? ⟨b1, 1, none⟩ = some (.int .u16 v.2.1) ∧ w'.cell? ⟨b1, 2, none⟩ = some (.int .u16 v.2.2)) ∧ (w'.cell? ⟨b2, 0, none⟩ = some (.int .u16 u.1) ∧ w'.cell? ⟨b2, 1, none⟩ = some (.int .u16 u.2.1) ∧ w'.cell? ⟨b2, 2, none⟩ = some (.int .u16 u.2.2)) ∧ (w'.cell? ⟨g, j * 3, none⟩ = some (.int .u16 v.1) ∧ w'.cell? ⟨g, j * 3 + 1, none⟩ = some (.int .u16 v.2.1) ∧ w'.cell? ⟨g, j * 3 + 2, none⟩ = some (.int .u16 v.2.2)))
          (first | exact PB.s (key 0) J1.out JE.out)
          (first
          | (go_at_call 17; refine Calls.mono (near_pal UV.out JN ?hp) ?_; (case hp => first | exact (key 0).2.1 | exact (key _).2.1); rintro e w6 ⟨rfl, hb6⟩; have hk6 : PB w w6 c g b1 b2 v u := (by first | exact PB.below (key _) hb6 | exact PB.below (key 0) hb6); have key' := fun nq => PB.drewN hk6 nq; clear key hb6 hk6; have key := key'; clear key')
          | (go_at_call 12; ((with_reducible refine Calls.mono (res_index n hn u v HV ?hp) ?_)); (case hp => first | exact (key 0).2.1 | exact (key _).2.1); rintro e w6 ⟨rfl, hb6⟩; have hk6 : PB w w6 c g b1 b2 v u := (by first | exact PB.below (key _) hb6 | exact PB.below (key 0) hb6); have key' := fun nq => PB.drewN hk6 nq; clear key hb6 hk6; have key := key'; clear key')
          | (go_at_call 12; ((with_reducible refine Calls.mono (res_none u ?hp) ?_)); (case hp => first | exact (key 0).2.1 | exact (key _).2.1); rintro e w6 ⟨rfl, hb6⟩; have hk6 : PB w w6 c g b1 b2 v u := (by first | exact PB.below (key _) hb6 | exact PB.below (key 0) hb6); have key' := fun nq => PB.drewN hk6 nq; clear key hb6 hk6; have key := key'; clear key'))
        go_wp2
        go_ret
        exact ⟨rfl, (key 0).1.1⟩
      · have E0 : decide (v.1 < u.1) = decide (n < m) := by
          have := grey_rise n m a1 hn a2 hm
          rw [HV.out, HU.out] at this
          rw [decide_eq_decide, this]
        obtain ⟨G1, G2⟩ := grey_flat n a1 hn
        rw [HV.out] at G1 G2
        have G3 : ((v.1 : Int) != (v.2.1 : Int)) = false := by rw [G1]; simp
        have G4 : ((v.2.1 : Int) != (v.2.2 : Int)) = false := by rw [G2]; simp
        clear G1 G2
        go_upto_region 23 with (fail)
        obtain ⟨y0, y1, y2⟩ := hQ.out.1.2.2
        have hq := eqVal
        have Q1 : eq3 v.1 v.2.1 v.2.2 v.1 v.2.1 v.2.2 = true := by simp [eq3]
        have Q2 : eq3 u.1 u.2.1 u.2.2 u.1 u.2.1 u.2.2 = true := by simp [eq3]
        obtain ⟨j, j1, j2, j3⟩ := near_same n hn
        rw [HV.out] at j2 j3
        have JN := Lib.hid j2
        have JE := Lib.hid j3
        have J1 := Lib.hid j1
        have UV := Lib.hid (show U16 v from by rw [← HV.out]; exact (def_ok n hn).2.2.2)
        clear j1 j2 j3
        go_wp2_with fail
        refine (res_rgb c hc0 hc1 hc2 v hQ.out.2.1).mono ?_
        rintro e w5 ⟨rfl, hb5⟩
        have hQ2 := Lib.hid (hQ.out.below hb5)
        clear hb5 hQ z1 x0 x1 x2 z2 w0 w1' w2 y0 y1 y2
        obtain ⟨y3, y0, y1, y2⟩ := hQ2.out.1.2
        go_wp2
        refine wp_loop_rounds 4 ?_
        rw [rounds_succ]
        go_wp2
        go_quiet (fail)
        go_wp2
        rw [rounds_succ]
        go_wp2
        go_quiet (fail)
        go_wp2
        rw [rounds_succ]
        go_wp2
        go_quiet (fail)
        go_wp2
        rw [rounds_succ]
        go_wp2
        have key := fun nq => PB.drewN (hQ2.out.past (.cells #[.int .u16 ((c.1 : Int) * 257), .int .u16 ((c.2.1 : Int) * 257), .int .u16 ((c.2.2 : Int) * 257)] 35)) nq
        have jb : (j : Int) < 256 := by have := J1.out; omega
        clear hQ2 y0 y1 y2 y3
        go_region_held3 (fun w' => (w'.cell? ⟨b1, 0, none⟩ = some (.int .u16 v.1) ∧ w'.cell? ⟨b1, 1, none⟩ = some (.int .u16 v.2.1) ∧ w'.cell? ⟨b1, 2, none⟩ = some (.int .u16 v.2.2)) ∧ (w'.cell? ⟨b2, 0, none⟩ = some (.int .u16 u.1) ∧ w'.cell? ⟨b2, 1, none⟩ = some (.int .u16 u.2.1) ∧ w'.cell? ⟨b2, 2, none⟩ = some (.int .u16 u.2.2)) ∧ (w'.cell? ⟨g, j * 3, none⟩ = some (.int .u16 v.1) ∧ w'.cell? ⟨g, j * 3 + 1, none⟩ = some (.int .u16 v.2.1) ∧ w'.cell? ⟨g, j * 3 + 2, none⟩ = some (.int .u16 v.2.2)))
          (first | exact PB.s (key 0) J1.out JE.out)
          (first
          | (go_at_call 17; refine Calls.mono (near_pal UV.out JN ?hp) ?_; (case hp => first | exact (key 0).2.1 | exact (key _).2.1); rintro e w6 ⟨rfl, hb6⟩; have hk6 : PB w w6 c g b1 b2 v u := (by first | exact PB.below (key _) hb6 | exact PB.below (key 0) hb6); have key' := fun nq => PB.drewN hk6 nq; clear key hb6 hk6; have key := key'; clear key')
          | (go_at_call 12; ((with_reducible refine Calls.mono (res_index n hn u v HV ?hp) ?_)); (case hp => first | exact (key 0).2.1 | exact (key _).2.1); rintro e w6 ⟨rfl, hb6⟩; have hk6 : PB w w6 c g b1 b2 v u := (by first | exact PB.below (key _) hb6 | exact PB.below (key 0) hb6); have key' := fun nq => PB.drewN hk6 nq; clear key hb6 hk6; have key := key'; clear key')
          | (go_at_call 12; ((with_reducible refine Calls.mono (res_none u ?hp) ?_)); (case hp => first | exact (key 0).2.1 | exact (key _).2.1); rintro e w6 ⟨rfl, hb6⟩; have hk6 : PB w w6 c g b1 b2 v u := (by first | exact PB.below (key _) hb6 | exact PB.below (key 0) hb6); have key' := fun nq => PB.drewN hk6 nq; clear key hb6 hk6; have key := key'; clear key'))
        go_wp2
        go_ret
        exact ⟨rfl, (key 0).1.1⟩
      · obtain ⟨G1, G2⟩ := grey_flat n a1 hn
        rw [HV.out] at G1 G2
        have G3 : ((v.1 : Int) != (v.2.1 : Int)) = false := by rw [G1]; simp
        have G4 : ((v.2.1 : Int) != (v.2.2 : Int)) = false := by rw [G2]; simp
        clear G1 G2
        go_upto_region 23 with (fail)
        obtain ⟨y0, y1, y2⟩ := hQ.out.1.2.2
        have hq := eqVal
        have Q1 : eq3 v.1 v.2.1 v.2.2 v.1 v.2.1 v.2.2 = true := by simp [eq3]
        have Q2 : eq3 u.1 u.2.1 u.2.2 u.1 u.2.1 u.2.2 = true := by simp [eq3]
        obtain ⟨j, j1, j2, j3⟩ := near_same n hn
        rw [HV.out] at j2 j3
        have JN := Lib.hid j2
        have JE := Lib.hid j3
        have J1 := Lib.hid j1
        have UV := Lib.hid (show U16 v from by rw [← HV.out]; exact (def_ok n hn).2.2.2)
        clear j1 j2 j3
        go_wp2_with fail
        refine (res_rgb c hc0 hc1 hc2 v hQ.out.2.1).mono ?_
        rintro e w5 ⟨rfl, hb5⟩
        have hQ2 := Lib.hid (hQ.out.below hb5)
        clear hb5 hQ z1 x0 x1 x2 z2 w0 w1' w2 y0 y1 y2
        obtain ⟨y3, y0, y1, y2⟩ := hQ2.out.1.2
        go_wp2
        refine wp_loop_rounds 4 ?_
        rw [rounds_succ]
        go_wp2
        go_quiet (fail)
        go_wp2
        rw [rounds_succ]
        go_wp2
        go_quiet (fail)
        go_wp2
        rw [rounds_succ]
        go_wp2
        go_quiet (fail)
        go_wp2
        rw [rounds_succ]
        go_wp2
        have key := fun nq => PB.drewN (hQ2.out.past (.cells #[.int .u16 ((c.1 : Int) * 257), .int .u16 ((c.2.1 : Int) * 257), .int .u16 ((c.2.2 : Int) * 257)] 35)) nq
        have jb : (j : Int) < 256 := by have := J1.out; omega
        clear hQ2 y0 y1 y2 y3
        go_region_held3 (fun w' => (w'.cell? ⟨b1, 0, none⟩ = some (.int .u16 v.1) ∧ w'.cell? ⟨b1, 1, none⟩ = some (.int .u16 v.2.1) ∧ w'.cell? ⟨b1, 2, none⟩ = some (.int .u16 v.2.2)) ∧ (w'.cell? ⟨b2, 0, none⟩ = some (.int .u16 u.1) ∧ w'.cell? ⟨b2, 1, none⟩ = some (.int .u16 u.2.1) ∧ w'.cell? ⟨b2, 2, none⟩ = some (.int .u16 u.2.2)) ∧ (w'.cell? ⟨g, j * 3, none⟩ = some (.int .u16 v.1) ∧ w'.cell? ⟨g, j * 3 + 1, none⟩ = some (.int .u16 v.2.1) ∧ w'.cell? ⟨g, j * 3 + 2, none⟩ = some (.int .u16 v.2.2)))
          (first | exact PB.s (key 0) J1.out JE.out)
          (first
          | (go_at_call 17; refine Calls.mono (near_pal UV.out JN ?hp) ?_; (case hp => first | exact (key 0).2.1 | exact (key _).2.1); rintro e w6 ⟨rfl, hb6⟩; have hk6 : PB w w6 c g b1 b2 v u := (by first | exact PB.below (key _) hb6 | exact PB.below (key 0) hb6); have key' := fun nq => PB.drewN hk6 nq; clear key hb6 hk6; have key := key'; clear key')
          | (go_at_call 12; ((with_reducible refine Calls.mono (res_index n hn u v HV ?hp) ?_)); (case hp => first | exact (key 0).2.1 | exact (key _).2.1); rintro e w6 ⟨rfl, hb6⟩; have hk6 : PB w w6 c g b1 b2 v u := (by first | exact PB.below (key _) hb6 | exact PB.below (key 0) hb6); have key' := fun nq => PB.drewN hk6 nq; clear key hb6 hk6; have key := key'; clear key')
          | (go_at_call 12; ((with_reducible refine Calls.mono (res_none u ?hp) ?_)); (case hp => first | exact (key 0).2.1 | exact (key _).2.1); rintro e w6 ⟨rfl, hb6⟩; have hk6 : PB w w6 c g b1 b2 v u := (by first | exact PB.below (key _) hb6 | exact PB.below (key 0) hb6); have key' := fun nq => PB.drewN hk6 nq; clear key hb6 hk6; have key := key'; clear key'))
        go_wp2
        go_ret
        exact ⟨rfl, (key 0).1.1⟩
      · go_upto_region 23 with (fail)
        obtain ⟨y0, y1, y2⟩ := hQ.out.1.2.2
        have hq := eqVal
        have Q1 : eq3 v.1 v.2.1 v.2.2 v.1 v.2.1 v.2.2 = true := by simp [eq3]
        have Q2 : eq3 u.1 u.2.1 u.2.2 u.1 u.2.1 u.2.2 = true := by simp [eq3]
        obtain ⟨j, j1, j2, j3⟩ := near_same n hn
        rw [HV.out] at j2 j3
        have JN := Lib.hid j2
        have JE := Lib.hid j3
        have J1 := Lib.hid j1
        have UV := Lib.hid (show U16 v from by rw [← HV.out]; exact (def_ok n hn).2.2.2)
        clear j1 j2 j3
        go_wp2_with fail
        refine (res_rgb c hc0 hc1 hc2 v hQ.out.2.1).mono ?_
        rintro e w5 ⟨rfl, hb5⟩
        have hQ2 := Lib.hid (hQ.out.below hb5)
        clear hb5 hQ z1 x0 x1 x2 z2 w0 w1' w2 y0 y1 y2
        obtain ⟨y3, y0, y1, y2⟩ := hQ2.out.1.2
        go_wp2
        refine wp_loop_rounds 4 ?_
        rw [rounds_succ]
        go_wp2
        go_quiet (fail)
        go_wp2
        rw [rounds_succ]
        go_wp2
        go_quiet (fail)
        go_wp2
        rw [rounds_succ]
        go_wp2
        go_quiet (fail)
        go_wp2
        rw [rounds_succ]
        go_wp2
        have key := fun nq => PB.drewN (hQ2.out.past (.cells #[.int .u16 ((c.1 : Int) * 257), .int .u16 ((c.2.1 : Int) * 257), .int .u16 ((c.2.2 : Int) * 257)] 35)) nq
        have jb : (j : Int) < 256 := by have := J1.out; omega
        clear hQ2 y0 y1 y2 y3
        go_region_held3 (fun w' => (w'.cell? ⟨b1, 0, none⟩ = some (.int .u16 v.1) ∧ w'.cell? ⟨b1, 1, none⟩ = some (.int .u16 v.2.1) ∧ w'.cell? ⟨b1, 2, none⟩ = some (.int .u16 v.2.2)) ∧ (w'.cell? ⟨b2, 0, none⟩ = some (.int .u16 u.1) ∧ w'.cell? ⟨b2, 1, none⟩ = some (.int .u16 u.2.1) ∧ w'.cell? ⟨b2, 2, none⟩ = some (.int .u16 u.2.2)) ∧ (w'.cell? ⟨g, j * 3, none⟩ = some (.int .u16 v.1) ∧ w'.cell? ⟨g, j * 3 + 1, none⟩ = some (.int .u16 v.2.1) ∧ w'.cell? ⟨g, j * 3 + 2, none⟩ = some (.int .u16 v.2.2)))
          (first | exact PB.s (key 0) J1.out JE.out)
          (first
          | (go_at_call 17; refine Calls.mono (near_pal UV.out JN ?hp) ?_; (case hp => first | exact (key 0).2.1 | exact (key _).2.1); rintro e w6 ⟨rfl, hb6⟩; have hk6 : PB w w6 c g b1 b2 v u := (by first | exact PB.below (key _) hb6 | exact PB.below (key 0) hb6); have key' := fun nq => PB.drewN hk6 nq; clear key hb6 hk6; have key := key'; clear key')
          | (go_at_call 12; ((with_reducible refine Calls.mono (res_index n hn u v HV ?hp) ?_)); (case hp => first | exact (key 0).2.1 | exact (key _).2.1); rintro e w6 ⟨rfl, hb6⟩; have hk6 : PB w w6 c g b1 b2 v u := (by first | exact PB.below (key _) hb6 | exact PB.below (key 0) hb6); have key' := fun nq => PB.drewN hk6 nq; clear key hb6 hk6; have key := key'; clear key')
          | (go_at_call 12; ((with_reducible refine Calls.mono (res_none u ?hp) ?_)); (case hp => first | exact (key 0).2.1 | exact (key _).2.1); rintro e w6 ⟨rfl, hb6⟩; have hk6 : PB w w6 c g b1 b2 v u := (by first | exact PB.below (key _) hb6 | exact PB.below (key 0) hb6); have key' := fun nq => PB.drewN hk6 nq; clear key hb6 hk6; have key := key'; clear key'))
        go_wp2
        go_ret
        exact ⟨rfl, (key 0).1.1⟩
      · go_upto_region 23 with (fail)
        obtain ⟨y0, y1, y2⟩ := hQ.out.1.2.2
        have hq := eqVal
        have Q1 : eq3 v.1 v.2.1 v.2.2 v.1 v.2.1 v.2.2 = true := by simp [eq3]
        have Q2 : eq3 u.1 u.2.1 u.2.2 u.1 u.2.1 u.2.2 = true := by simp [eq3]
        obtain ⟨j, j1, j2, j3⟩ := near_same n hn
        rw [HV.out] at j2 j3
        have JN := Lib.hid j2
        have JE := Lib.hid j3
        have J1 := Lib.hid j1
        have UV := Lib.hid (show U16 v from by rw [← HV.out]; exact (def_ok n hn).2.2.2)
        clear j1 j2 j3
        go_wp2_with fail
        refine (res_rgb c hc0 hc1 hc2 v hQ.out.2.1).mono ?_
        rintro e w5 ⟨rfl, hb5⟩
        have hQ2 := Lib.hid (hQ.out.below hb5)
        clear hb5 hQ z1 x0 x1 x2 z2 w0 w1' w2 y0 y1 y2
        obtain ⟨y3, y0, y1, y2⟩ := hQ2.out.1.2
        go_wp2
        refine wp_loop_rounds 4 ?_
        rw [rounds_succ]
        go_wp2
        go_quiet (fail)
        go_wp2
        rw [rounds_succ]
        go_wp2
        go_quiet (fail)
        go_wp2
        rw [rounds_succ]
        go_wp2
        go_quiet (fail)
        go_wp2
        rw [rounds_succ]
        go_wp2
        have key := fun nq => PB.drewN (hQ2.out.past (.cells #[.int .u16 ((c.1 : Int) * 257), .int .u16 ((c.2.1 : Int) * 257), .int .u16 ((c.2.2 : Int) * 257)] 35)) nq
        have jb : (j : Int) < 256 := by have := J1.out; omega
        clear hQ2 y0 y1 y2 y3
        go_region_held3 (fun w' => (w'.cell? ⟨b1, 0, none⟩ = some (.int .u16 v.1) ∧ w'.cell? ⟨b1, 1, none⟩ = some (.int .u16 v.2.1) ∧ w'.cell? ⟨b1, 2, none⟩ = some (.int .u16 v.2.2)) ∧ (w'.cell? ⟨b2, 0, none⟩ = some (.int .u16 u.1) ∧ w'.cell? ⟨b2, 1, none⟩ = some (.int .u16 u.2.1) ∧ w'.cell? ⟨b2, 2, none⟩ = some (.int .u16 u.2.2)) ∧ (w'.cell? ⟨g, j * 3, none⟩ = some (.int .u16 v.1) ∧ w'.cell? ⟨g, j * 3 + 1, none⟩ = some (.int .u16 v.2.1) ∧ w'.cell? ⟨g, j * 3 + 2, none⟩ = some (.int .u16 v.2.2)))
          (first | exact PB.s (key 0) J1.out JE.out)
          (first
          | (go_at_call 17; refine Calls.mono (near_pal UV.out JN ?hp) ?_; (case hp => first | exact (key 0).2.1 | exact (key _).2.1); rintro e w6 ⟨rfl, hb6⟩; have hk6 : PB w w6 c g b1 b2 v u := (by first | exact PB.below (key _) hb6 | exact PB.below (key 0) hb6); have key' := fun nq => PB.drewN hk6 nq; clear key hb6 hk6; have key := key'; clear key')
          | (go_at_call 12; ((with_reducible refine Calls.mono (res_index n hn u v HV ?hp) ?_)); (case hp => first | exact (key 0).2.1 | exact (key _).2.1); rintro e w6 ⟨rfl, hb6⟩; have hk6 : PB w w6 c g b1 b2 v u := (by first | exact PB.below (key _) hb6 | exact PB.below (key 0) hb6); have key' := fun nq => PB.drewN hk6 nq; clear key hb6 hk6; have key := key'; clear key')
          | (go_at_call 12; ((with_reducible refine Calls.mono (res_none u ?hp) ?_)); (case hp => first | exact (key 0).2.1 | exact (key _).2.1); rintro e w6 ⟨rfl, hb6⟩; have hk6 : PB w w6 c g b1 b2 v u := (by first | exact PB.below (key _) hb6 | exact PB.below (key 0) hb6); have key' := fun nq => PB.drewN hk6 nq; clear key hb6 hk6; have key := key'; clear key'))
        go_wp2
        go_ret
        exact ⟨rfl, (key 0).1.1⟩
      · go_upto_region 23 with (fail)
        obtain ⟨y0, y1, y2⟩ := hQ.out.1.2.2
        have hq := eqVal
        have Q1 : eq3 v.1 v.2.1 v.2.2 v.1 v.2.1 v.2.2 = true := by simp [eq3]
        have Q2 : eq3 u.1 u.2.1 u.2.2 u.1 u.2.1 u.2.2 = true := by simp [eq3]
        obtain ⟨j, j1, j2, j3⟩ := near_same n hn
        rw [HV.out] at j2 j3
        have JN := Lib.hid j2
        have JE := Lib.hid j3
        have J1 := Lib.hid j1
        have UV := Lib.hid (show U16 v from by rw [← HV.out]; exact (def_ok n hn).2.2.2)
        clear j1 j2 j3
        go_wp2_with fail
        refine (res_rgb c hc0 hc1 hc2 v hQ.out.2.1).mono ?_
        rintro e w5 ⟨rfl, hb5⟩
        have hQ2 := Lib.hid (hQ.out.below hb5)
        clear hb5 hQ z1 x0 x1 x2 z2 w0 w1' w2 y0 y1 y2
        obtain ⟨y3, y0, y1, y2⟩ := hQ2.out.1.2
        go_wp2
        refine wp_loop_rounds 4 ?_
        rw [rounds_succ]
        go_wp2
        go_quiet (fail)
        go_wp2
        rw [rounds_succ]
        go_wp2
        go_quiet (fail)
        go_wp2
        rw [rounds_succ]
        go_wp2
        go_quiet (fail)
        go_wp2
        rw [rounds_succ]
        go_wp2
        have key := fun nq => PB.drewN (hQ2.out.past (.cells #[.int .u16 ((c.1 : Int) * 257), .int .u16 ((c.2.1 : Int) * 257), .int .u16 ((c.2.2 : Int) * 257)] 35)) nq
        have jb : (j : Int) < 256 := by have := J1.out; omega
        clear hQ2 y0 y1 y2 y3
        go_region_held3 (fun w' => (w'.cell? ⟨b1, 0, none⟩ = some (.int .u16 v.1) ∧ w'.cell? ⟨b1, 1, none⟩ = some (.int .u16 v.2.1) ∧ w'.cell? ⟨b1, 2, none⟩ = some (.int .u16 v.2.2)) ∧ (w'.cell? ⟨b2, 0, none⟩ = some (.int .u16 u.1) ∧ w'.cell? ⟨b2, 1, none⟩ = some (.int .u16 u.2.1) ∧ w'.cell? ⟨b2, 2, none⟩ = some (.int .u16 u.2.2)) ∧ (w'.cell? ⟨g, j * 3, none⟩ = some (.int .u16 v.1) ∧ w'.cell? ⟨g, j * 3 + 1, none⟩ = some (.int .u16 v.2.1) ∧ w'.cell? ⟨g, j * 3 + 2, none⟩ = some (.int .u16 v.2.2)))
          (first | exact PB.s (key 0) J1.out JE.out)
          (first
          | (go_at_call 17; refine Calls.mono (near_pal UV.out JN ?hp) ?_; (case hp => first | exact (key 0).2.1 | exact (key _).2.1); rintro e w6 ⟨rfl, hb6⟩; have hk6 : PB w w6 c g b1 b2 v u := (by first | exact PB.below (key _) hb6 | exact PB.below (key 0) hb6); have key' := fun nq => PB.drewN hk6 nq; clear key hb6 hk6; have key := key'; clear key')
          | (go_at_call 12; ((with_reducible refine Calls.mono (res_index n hn u v HV ?hp) ?_)); (case hp => first | exact (key 0).2.1 | exact (key _).2.1); rintro e w6 ⟨rfl, hb6⟩; have hk6 : PB w w6 c g b1 b2 v u := (by first | exact PB.below (key _) hb6 | exact PB.below (key 0) hb6); have key' := fun nq => PB.drewN hk6 nq; clear key hb6 hk6; have key := key'; clear key')
          | (go_at_call 12; ((with_reducible refine Calls.mono (res_none u ?hp) ?_)); (case hp => first | exact (key 0).2.1 | exact (key _).2.1); rintro e w6 ⟨rfl, hb6⟩; have hk6 : PB w w6 c g b1 b2 v u := (by first | exact PB.below (key _) hb6 | exact PB.below (key 0) hb6); have key' := fun nq => PB.drewN hk6 nq; clear key hb6 hk6; have key := key'; clear key'))
        go_wp2
        go_ret
        exact ⟨rfl, (key 0).1.1⟩
end Go.Proofs.Ytbjpaofmkofmbaa.Lab
