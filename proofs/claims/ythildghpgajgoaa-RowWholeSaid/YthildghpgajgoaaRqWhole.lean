/- RowWhole: what is done to a whole row leaves it whole; a cell that is put is there; no other cell changes, but for halves of pairs that are broken. -/
import Derived.Test.YthildghpgajgoaaRqRaise
import Derived.Test.YthildghpgajgoaaRpWhole
namespace Go.Proofs.Ythildghpgajgoaa.Lab
open Go Go.RowKit Go.ChangeShapes Go.WideShapes Go.ChangeAt

theorem does_put (a : Ac) (R : Cls) (h1 : 1 ≤ a.what % 15) (h4 : a.what % 15 ≤ 4) (hp : 0 ≤ atA a R.length) : doesM a R = putM R (atA a R.length) (celD a.cell) a.wide := by
  rw [← putP_in hp]
  unfold doesM
  dsimp only
  rw [if_neg (by omega), if_neg (by omega), if_neg (by omega), if_neg (by omega), if_neg (by omega), if_neg (by omega), if_neg (by omega)]
theorem put_facts {R : Cls} {P w : Nat} (c : Cel) (wide : Bool) (hw : w = if wide then 2 else 1) (hp : P + w ≤ R.length) :
    gc (putM R (P : Int) c wide) P = { c with k := if wide then 1 else 0 } ∧ (wide = true → (gc (putM R (P : Int) c wide) (P + 1)).k = 2) ∧ ∀ i, i < R.length → (i < P ∨ P + w ≤ i) → (¬ Half R P w i → gc (putM R (P : Int) c wide) i = gc R i) ∧ (Half R P w i → gc (putM R (P : Int) c wide) i = (gc R i).bare) := by
  have hw1 : 1 ≤ w := by rw [hw]; split <;> decide
  refine ⟨?_, fun h2 => ?_, fun i hi ho => put_off wide hw c hp hi ho⟩
  · rw [gc_put wide hw c hp (by omega), if_pos rfl]
  · subst h2
    have hw2 : w = 2 := hw
    rw [gc_put true hw c hp (by omega), if_neg (by omega), if_pos ⟨rfl, rfl⟩]
    rfl
theorem half_out {R : Cls} {P w i : Nat} (h : Half R P w i) : i < P ∨ P + w ≤ i := by
  rcases h with ⟨h, _⟩ | ⟨h, _⟩ <;> omega
theorem half_k {R : Cls} {P w i : Nat} (h : Half R P w i) : (gc R i).k ≠ 0 := by
  rcases h with ⟨_, h⟩ | ⟨_, h⟩ <;> rw [h] <;> decide
theorem AcAt.but {w w' : World} {b B : Nat} {a : Ac} (h : AcAt w b a) (k : But B w w') (hb : b ≠ B) : AcAt w' b a := h.same k.size (k.block b h.1 (by simp; omega))
set_option maxHeartbeats 16000000 in
set_option maxRecDepth 100000 in
theorem whole_core (W : World) (cols : Nat) (u : Value) (L : List Dc) (aa : Option Addr) (len cap : Nat) (A : Nat → Ac) (hc : cols < 256) (hL : DsIn W u L) (hA : AcsIn W aa len A) :
    Calls Try.prog 3 #[.agg #[.int .u8 (cols : Nat), u], .slice aa len cap] W fun e w' => e = .returned (.bool true) ∧ Below W.heap.size W w' := by
  have HLD := Lib.hid hL
  have HAC := Lib.hid hA
  obtain ⟨la, lc, rfl⟩ := hL.shape
  obtain ⟨ln, hln⟩ : ∃ n, n = L.length := ⟨_, rfl⟩
  rw [← hln] at HLD ⊢
  obtain ⟨w0, hw0⟩ : ∃ y, y = W.alloc (.cells #[.int .u8 (cols : Nat), .slice la ln lc] 24) := ⟨_, rfl⟩
  obtain ⟨z, hz⟩ : ∃ y, y = W.heap.size := ⟨_, rfl⟩
  have b0 : Below W.heap.size W w0 := by rw [hw0]; exact (Below.refl _ _).alloc (Nat.le_refl _) _
  have HZ0 := Lib.hid (show LnAt w0 z cols (.slice la ln lc) by rw [hw0]; exact LnAt.newAt W z hz cols _ _)
  have HB0 := Lib.hid b0
  have HCO := Lib.hid hc
  clear hL hA b0 hln hc
  go_enter Try.func3, Try.ntmps3
  go_upto_region 1 with (fail)
  rw [← hw0, ← hz]
  clear hw0 hz
  go_wp2_with fail
  refine (works_any w0).mono ?_
  rintro e w1 ⟨rfl, b1⟩
  have HZ1 := Lib.hid (HZ0.out.below b1)
  have HB1 := Lib.hid (HB0.out.trans (b1.mono HB0.out.size))
  clear b1 HZ0 HB0
  obtain ⟨_, z0, z1⟩ := HZ1.out
  go_wp2_with fail
  refine (rrow_any _ cols _ L HCO.out (HLD.out.below HB1.out)).mono ?_
  rintro e w2 ⟨r, rfl, r2, b2⟩
  have HX2 := Lib.hid (show ∃ R, RowOk w2 r R from ⟨rowM cols L, r2.row, (rowM_whole cols L).1, (rowM_whole cols L).2.1, by rw [(rowM_whole cols L).2.2]; omega⟩)
  have HB2 := Lib.hid (HB1.out.trans (b2.mono HB1.out.size))
  clear r2 b2 HZ1 HB1 z0 z1 HLD
  obtain ⟨m, hm⟩ : ∃ m, m = min len 40 := ⟨_, rfl⟩
  have HMM := Lib.hid hm
  clear hm
  go_wp2
  go_loopg [5, 6] m (fun G r i wr => ∃ k : Nat, i = .int .i64 k ∧ k ≤ m ∧ m - k ≤ G ∧ Hid (∃ R, RowOk wr r R) ∧ Hid (Below W.heap.size W wr))
  case atStart => exact ⟨0, rfl, Nat.zero_le _, Nat.sub_le _ _, HX2, HB2⟩
  case round => as_aux_lemma =>
    obtain ⟨i, rfl, him, hgk, HX, HB⟩ := hrel
    obtain ⟨R, hR⟩ := HX.out
    have HR := Lib.hid hR
    clear HX hR HB2 HX2
    by_cases hlt : i < m
    · have hil : i < len := by have := HMM.out; omega
      have hi4 : (i : Int) < 40 := by have := HMM.out; omega
      obtain ⟨b, off, rfl, hac, hok⟩ := (HAC.out.below HB.out).at hil
      obtain ⟨a, ha⟩ : ∃ a, a = A i := ⟨_, rfl⟩
      rw [← ha] at hac hok
      have HOK := Lib.hid hok
      obtain ⟨a0, a1, a2, a3, a4, a5, a6, a7, a8⟩ := hac
      obtain ⟨ra, rc, rfl⟩ := HR.out.1.shape
      obtain ⟨n, hn⟩ : ∃ n, n = R.length := ⟨_, rfl⟩
      have HN := Lib.hid hn
      rw [← hn] at HR
      have hn40 : n ≤ 40 := by rw [hn]; exact HR.out.2.2.2
      obtain ⟨w3, hw3⟩ : ∃ x, x = wr.alloc (.cells #[.int .u8 (a.what : Nat), .int .u8 (a.at1 : Nat), .int .u8 (a.n : Nat), .bool a.wide, .int .u8 (a.cell.ru : Nat), .int .u8 (a.cell.ms : Nat), .int .u8 (a.cell.at1 : Nat), .bool a.cell.wide, .bool a.cell.high] 32) := ⟨_, rfl⟩
      obtain ⟨y, hy⟩ : ∃ x, x = wr.heap.size := ⟨_, rfl⟩
      have b3 : Below wr.heap.size wr w3 := by rw [hw3]; exact (Below.refl _ _).alloc (Nat.le_refl _) _
      have HY3 := Lib.hid (show AcAt w3 y a by rw [hw3]; exact AcAt.newAt wr y hy a _)
      have HR3 := Lib.hid (HR.out.below b3)
      have HB3 := Lib.hid (HB.out.trans (b3.mono HB.out.size))
      rw [← hn]
      clear hok ha hn b3
      go_upto_region 8 with (fail)
      rw [← hw3, ← hy]
      clear hw3 hy HR HB a0 a1 a2 a3 a4 a5 a6 a7 a8
      obtain ⟨_, y0, y1, y2, y3, y4, y5, y6, y7, y8⟩ := HY3.out
      go_wp2_with fail
      refine (HR3.out.act a HOK.out).mono ?_
      rintro e w4 ⟨nx, rfl, r4, b4⟩
      obtain ⟨Q, hQ⟩ : ∃ Q, Q = doesM a R := ⟨_, rfl⟩
      have HQ := Lib.hid hQ
      rw [← hQ] at r4
      have HNX4 := Lib.hid r4
      have HR4 := Lib.hid (HR3.out.below b4)
      have HY4 := Lib.hid (HY3.out.below b4)
      have HB4 := Lib.hid (HB3.out.trans (b4.mono HB3.out.size))
      clear r4 b4 HR3 HY3 HB3 hQ y0 y1 y2 y3 y4 y5 y6 y7 y8
      go_wp2_with fail
      refine (whole_any w4 _ Q HNX4.out.1 HNX4.out.2.1 (by have := HNX4.out.2.2.2; omega)).mono ?_
      rintro e w5 ⟨rfl, b5⟩
      have HNX5 := Lib.hid (HNX4.out.below b5)
      have HR5 := Lib.hid (HR4.out.below b5)
      have HY5 := Lib.hid (HY4.out.below b5)
      have HB5 := Lib.hid (HB4.out.trans (b5.mono HB4.out.size))
      clear b5 HR4 HY4 HB4 HNX4
      obtain ⟨_, y0, y1, y2, y3, y4, y5, y6, y7, y8⟩ := HY5.out
      obtain ⟨p, hp⟩ : ∃ p, p = atA a n := ⟨_, rfl⟩
      have HP := Lib.hid hp
      have hpb : -3 ≤ p ∧ p ≤ 42 := by
        obtain ⟨_, h1, _, _⟩ := HOK.out
        have hm := Nat.mod_lt a.at1 (show 0 < n + 3 by omega)
        rw [hp]
        unfold atA
        split <;> omega
      have CA := Lib.hid (at_any w5 a _ R HOK.out HR5.out.1 (by have := HR5.out.2.2.2; omega))
      rw [← HN.out, ← hp] at CA
      clear hp
      go_upto_region 11 with (fail)
      go_cut [9, 10] (fun v u wc => v = .int .i64 p ∧ u = .int .i64 1 ∧ Hid (Below w5.heap.size w5 wc))
      case first => as_aux_lemma =>
        go_wp2_with fail
        refine CA.out.mono ?_
        rintro e w6 ⟨rfl, b6⟩
        go_wp2
        go_meet
        case rel => exact ⟨rfl, rfl, Lib.hid b6⟩
      case rest => as_aux_lemma =>
      obtain ⟨rfl, rfl, HB56⟩ := hcut
      obtain ⟨w6, rfl⟩ : ∃ v : World, v = wc := ⟨_, rfl⟩
      have HNX6 := Lib.hid (HNX5.out.below HB56.out)
      have HR6 := Lib.hid (HR5.out.below HB56.out)
      have HY6 := Lib.hid (HY5.out.below HB56.out)
      have HB6 := Lib.hid (HB5.out.trans (HB56.out.mono HB5.out.size))
      clear HB56 HR5 HY5 HB5 HNX5 CA y0 y1 y2 y3 y4 y5 y6 y7 y8
      obtain ⟨wd, hwd⟩ : ∃ x : Nat, x = if a.wide then 2 else 1 := ⟨_, rfl⟩
      have HWD := Lib.hid hwd
      have hwd2 : 1 ≤ wd ∧ wd ≤ 2 := by rw [hwd]; split <;> decide
      clear hwd
      have y3 := HY6.out.2.2.2.2.1
      go_upto_if 43 with (fail)
      clear y3
      go_cut [10] (fun v wc => v = .int .i64 (wd : Nat) ∧ Hid (wc = w6))
      case first => as_aux_lemma =>
        cases hb : a.wide with
        | true =>
          have hw : wd = 2 := by rw [HWD.out, hb]; rfl
          clear hb
          go_wp2
          go_meet
          case rel => exact ⟨by rw [hw]; rfl, Lib.hid rfl⟩
        | false =>
          have hw : wd = 1 := by rw [HWD.out, hb]; rfl
          clear hb
          go_wp2
          go_meet
          case rel => exact ⟨by rw [hw]; rfl, Lib.hid rfl⟩
      case rest => as_aux_lemma =>
      obtain ⟨rfl, hwc⟩ := hcut
      have hwc' := hwc.out.symm
      subst hwc'
      obtain ⟨kk, hkk⟩ : ∃ k, k = a.what % 15 := ⟨_, rfl⟩
      have HKK := Lib.hid hkk
      have hk15 : kk < 15 := by rw [hkk]; exact Nat.mod_lt _ (by decide)
      have k1 : (a.what : Int).tmod 15 = (kk : Int) := by rw [Int.tmod_eq_emod_of_nonneg (by omega), hkk]; rfl
      have k2 : (a.what : Int) % 15 = (kk : Int) := by rw [hkk]; rfl
      have k3 : IntKind.u8.wrap (kk : Int) = (kk : Int) := by rw [IntKind.wrap_u8]; omega
      have y0 := HY6.out.2.1
      clear hkk hwc
      have s5 : IntKind.i64.wrap (p + (wd : Int)) = p + (wd : Int) := by rw [IntKind.wrap_i64]; omega
      by_cases f1 : (1 : Int) ≤ (kk : Int)
      rotate_left
      · have f1' : decide ((1 : Int) ≤ (kk : Int)) = false := decide_eq_false f1
        have f1n : ¬ 1 ≤ kk := by omega
        go_wp2
        go_roundg (m - (i + 1))
        case rel => exact ⟨i + 1, by go_num, by omega, Nat.le_refl _, Lib.hid ⟨Q, HNX6.out⟩, HB6⟩
        case measure => omega
      have f1' : decide ((1 : Int) ≤ (kk : Int)) = true := decide_eq_true f1
      have f1n : 1 ≤ kk := by omega
      by_cases f2 : (kk : Int) ≤ 4
      rotate_left
      · have f2' : decide ((kk : Int) ≤ 4) = false := decide_eq_false f2
        have f2n : ¬ kk ≤ 4 := by omega
        go_wp2
        go_roundg (m - (i + 1))
        case rel => exact ⟨i + 1, by go_num, by omega, Nat.le_refl _, Lib.hid ⟨Q, HNX6.out⟩, HB6⟩
        case measure => omega
      have f2' : decide ((kk : Int) ≤ 4) = true := decide_eq_true f2
      have f2n : kk ≤ 4 := by omega
      by_cases f3 : 0 ≤ p
      rotate_left
      · have f3' : decide (0 ≤ p) = false := decide_eq_false f3
        go_wp2
        go_roundg (m - (i + 1))
        case rel => exact ⟨i + 1, by go_num, by omega, Nat.le_refl _, Lib.hid ⟨Q, HNX6.out⟩, HB6⟩
        case measure => omega
      have f3' : decide (0 ≤ p) = true := decide_eq_true f3
      by_cases f4 : p + (wd : Int) ≤ (n : Int)
      rotate_left
      · have f4' : decide (p + (wd : Int) ≤ (n : Int)) = false := decide_eq_false f4
        go_wp2
        go_roundg (m - (i + 1))
        case rel => exact ⟨i + 1, by go_num, by omega, Nat.le_refl _, Lib.hid ⟨Q, HNX6.out⟩, HB6⟩
        case measure => omega
      have f4' : decide (p + (wd : Int) ≤ (n : Int)) = true := decide_eq_true f4
      obtain ⟨P, hP⟩ : ∃ P : Nat, p = (P : Int) := ⟨p.toNat, by omega⟩
      subst hP
      obtain ⟨e9, he9⟩ : ∃ e : Nat, e = P + wd := ⟨_, rfl⟩
      have HE9 := Lib.hid he9
      have hen : e9 ≤ n := by omega
      have s6 : IntKind.i64.wrap ((P : Int) + (wd : Int)) = (e9 : Int) := by rw [IntKind.wrap_i64]; omega
      have f5 : (e9 : Int) ≤ (n : Int) := by omega
      obtain ⟨c, hc⟩ : ∃ c, c = celD a.cell := ⟨_, rfl⟩
      have HC := Lib.hid hc
      have HQP := Lib.hid (show Q = putM R (P : Int) c a.wide by
        rw [HQ.out, does_put a R (by rw [← HKK.out]; exact f1n) (by rw [← HKK.out]; exact f2n) (by rw [← HN.out, ← HP.out]; omega), ← HN.out, ← HP.out, ← hc])
      have HPF := Lib.hid (put_facts (R := R) (P := P) (w := wd) c a.wide HWD.out (by rw [← HN.out, ← he9]; exact hen))
      rw [← HQP.out] at HPF
      have HQL := Lib.hid (show n = Q.length by rw [HQP.out, len_put]; exact HN.out)
      have CC := Lib.hid (show ∀ W, Calls Try.prog 12 #[dcV a.cell] W fun e w' => e = .returned (celV c) ∧ Below W.heap.size W w' from fun W => by rw [hc]; exact rcell_any W a.cell HOK.out.2.2.2)
      have hPn : P < n := by omega
      clear hc f4 f4' s5 hpb he9
      obtain ⟨_, _, _, _, _, y4, y5, y6, y7, y8⟩ := HY6.out
      go_wp2_with fail
      refine (CC.out _).mono ?_
      rintro e w7 ⟨rfl, b7⟩
      have HNX7 := Lib.hid (HNX6.out.below b7)
      have HR7 := Lib.hid (HR6.out.below b7)
      have HY7 := Lib.hid (HY6.out.below b7)
      have HB7 := Lib.hid (HB6.out.trans (b7.mono HB6.out.size))
      clear b7 HNX6 HR6 HY6 HB6 CC y0 y4 y5 y6 y7 y8 k1 k2 k3
      obtain ⟨w8, hw8⟩ : ∃ x, x = w7.alloc (.cells #[.int .i32 c.ru, .int .i32 c.m0, .int .i32 c.m1, .int .u8 c.k, .int .u8 c.a.fg.k, .int .u8 c.a.fg.r, .int .u8 c.a.fg.g, .int .u8 c.a.fg.b, .int .u8 c.a.bg.k, .int .u8 c.a.bg.r, .int .u8 c.a.bg.g, .int .u8 c.a.bg.b, .int .u16 (c.a.fl : Nat), .int .u8 c.l] 44) := ⟨_, rfl⟩
      obtain ⟨x, hx⟩ : ∃ x, x = w7.heap.size := ⟨_, rfl⟩
      have b8 : Below w7.heap.size w7 w8 := by rw [hw8]; exact (Below.refl _ _).alloc (Nat.le_refl _) _
      have HX8 := Lib.hid (show BAt w8 x c by rw [hw8]; exact BAt.newAt w7 x hx c _)
      have HXS := Lib.hid (show w7.heap.size ≤ x by omega)
      have HXY := Lib.hid (show y ≠ x by have := HY7.out.1; omega)
      have HB8 := Lib.hid b8
      go_upto_region 17 with (fail)
      rw [← hw8, ← hx]
      clear hw8 hx b8
      obtain ⟨w9, hw9⟩ : ∃ x9, x9 = w8.setCell ⟨x, 3, none⟩ (.int .u8 0) := ⟨_, rfl⟩
      have HX9 := Lib.hid (show BAt w9 x { c with k := 0 } by rw [hw9]; exact HX8.out.setK 0)
      have HB9 := Lib.hid (show Below w7.heap.size w7 w9 by rw [hw9]; exact HB8.out.trans ((But.set w8 x 3 _).below (C := w7.heap.size) HXS.out HB8.out.size))
      have x3 := HX8.out.2.1.2.2.2.1
      have xf := HX8.out.2.2
      go_upto_region 18 with (fail)
      rw [← hw9]
      clear hw9 x3 xf HX8 HB8
      have y3 := (HY7.out.below HB9.out).2.2.2.2.1
      go_upto_if 70 with (fail)
      clear y3
      obtain ⟨d, hd⟩ : ∃ d : Cel, d = { c with k := if a.wide then 1 else 0 } := ⟨_, rfl⟩
      have HD := Lib.hid hd
      clear hd
      go_cut [] (fun wc => Hid (BAt wc x d) ∧ Hid (Below w7.heap.size w7 wc))
      case first => as_aux_lemma =>
        cases hb : a.wide with
        | true =>
          have x3 := HX9.out.2.1.2.2.2.1
          dsimp only at x3
          have xf := HX9.out.2.2
          have HQ9 := Lib.hid (show BAt (w9.setCell ⟨x, 3, none⟩ (.int .u8 1)) x d by rw [HD.out, hb]; exact HX9.out.setK 1)
          have HB10 := Lib.hid (show Below w7.heap.size w7 (w9.setCell ⟨x, 3, none⟩ (.int .u8 1)) from HB9.out.trans ((But.set w9 x 3 _).below (C := w7.heap.size) HXS.out HB9.out.size))
          clear hb
          go_wp2
          go_meet
          case rel => exact ⟨HQ9, HB10⟩
        | false =>
          have HQ9 := Lib.hid (show BAt w9 x d by rw [HD.out, hb]; exact HX9.out)
          clear hb
          go_wp2
          go_meet
          case rel => exact ⟨HQ9, HB9⟩
      case rest => as_aux_lemma =>
      obtain ⟨HXc, HBc⟩ := hcut
      obtain ⟨wx, rfl⟩ : ∃ v : World, v = wc := ⟨_, rfl⟩
      have HNXc := Lib.hid (HNX7.out.below HBc.out)
      have HRc := Lib.hid (HR7.out.below HBc.out)
      have HYc := Lib.hid (HY7.out.below HBc.out)
      have HBB := Lib.hid (HB7.out.trans (HBc.out.mono HB7.out.size))
      clear HX9 HB9 HNX7 HR7 HY7 HB7 HBc
      obtain ⟨na, nc, rfl⟩ := HNXc.out.1.shape
      rw [← HQL.out] at HNXc ⊢
      go_upto_region 20 with (fail)
      go_cut [90] (fun v wd' => v = .bool false ∧ Hid (Below wx.heap.size wx wd'))
      case first => as_aux_lemma =>
        obtain ⟨h, q, cq, e, _, hh, hD⟩ := HNXc.out.1.open (by rw [← HQL.out]; omega)
        injection e with e1 e2 e3
        subst e1 e3
        clear e2
        have hat := hD P (by rw [← HQL.out]; exact hPn)
        rw [HPF.out.1, ← HD.out] at hat
        have HAT := Lib.hid hat
        have HH := Lib.hid hh
        have hq := fun w => eqCel w d d
        rw [show decide (d = d) = true from decide_eq_true rfl] at hq
        cases hb : a.wide with
        | true =>
          have hw : wd = 2 := by rw [HWD.out, hb]; rfl
          obtain ⟨p1, hp1⟩ : ∃ p, p = P + 1 := ⟨_, rfl⟩
          have hp1n : p1 < n := by have := HE9.out; omega
          have s7 : IntKind.i64.wrap ((P : Int) + 1) = (p1 : Int) := by rw [IntKind.wrap_i64]; omega
          have hbt := (hD p1 (by rw [← HQL.out]; exact hp1n)).2.2.2.1
          rw [hp1, HPF.out.2.1 hb, ← hp1] at hbt
          have HS := Lib.hid (show ∀ V, Below wx.heap.size wx V → (fun w' => w'.cell? ⟨h, q + P * 14, none⟩ = some (.int .i32 d.ru) ∧ w'.cell? ⟨h, q + P * 14 + 1, none⟩ = some (.int .i32 d.m0) ∧ w'.cell? ⟨h, q + P * 14 + 2, none⟩ = some (.int .i32 d.m1) ∧ w'.cell? ⟨h, q + P * 14 + 3, none⟩ = some (.int .u8 d.k) ∧ w'.cell? ⟨h, q + P * 14 + 4, none⟩ = some (.int .u8 d.a.fg.k) ∧ w'.cell? ⟨h, q + P * 14 + 5, none⟩ = some (.int .u8 d.a.fg.r) ∧ w'.cell? ⟨h, q + P * 14 + 6, none⟩ = some (.int .u8 d.a.fg.g) ∧ w'.cell? ⟨h, q + P * 14 + 7, none⟩ = some (.int .u8 d.a.fg.b) ∧ w'.cell? ⟨h, q + P * 14 + 8, none⟩ = some (.int .u8 d.a.bg.k) ∧ w'.cell? ⟨h, q + P * 14 + 9, none⟩ = some (.int .u8 d.a.bg.r) ∧ w'.cell? ⟨h, q + P * 14 + 10, none⟩ = some (.int .u8 d.a.bg.g) ∧ w'.cell? ⟨h, q + P * 14 + 11, none⟩ = some (.int .u8 d.a.bg.b) ∧ w'.cell? ⟨h, q + P * 14 + 12, none⟩ = some (.int .u16 (d.a.fl : Nat)) ∧ w'.cell? ⟨h, q + P * 14 + 13, none⟩ = some (.int .u8 d.l) ∧ w'.cell? ⟨x, 0, none⟩ = some (.int .i32 d.ru) ∧ w'.cell? ⟨x, 1, none⟩ = some (.int .i32 d.m0) ∧ w'.cell? ⟨x, 2, none⟩ = some (.int .i32 d.m1) ∧ w'.cell? ⟨x, 3, none⟩ = some (.int .u8 d.k) ∧ w'.cell? ⟨x, 4, none⟩ = some (.int .u8 d.a.fg.k) ∧ w'.cell? ⟨x, 5, none⟩ = some (.int .u8 d.a.fg.r) ∧ w'.cell? ⟨x, 6, none⟩ = some (.int .u8 d.a.fg.g) ∧ w'.cell? ⟨x, 7, none⟩ = some (.int .u8 d.a.fg.b) ∧ w'.cell? ⟨x, 8, none⟩ = some (.int .u8 d.a.bg.k) ∧ w'.cell? ⟨x, 9, none⟩ = some (.int .u8 d.a.bg.r) ∧ w'.cell? ⟨x, 10, none⟩ = some (.int .u8 d.a.bg.g) ∧ w'.cell? ⟨x, 11, none⟩ = some (.int .u8 d.a.bg.b) ∧ w'.cell? ⟨x, 12, none⟩ = some (.int .u16 (d.a.fl : Nat)) ∧ w'.cell? ⟨x, 13, none⟩ = some (.int .u8 d.l) ∧ w'.cell? ⟨y, 3, none⟩ = some (.bool true) ∧ w'.cell? ⟨h, q + p1 * 14 + 3, none⟩ = some (.int .u8 2)) V from fun V hv => by
            have h1 := HAT.out.same (hv.block h HH.out)
            obtain ⟨a0, a1, a2, a3, a4, a5, a6, a7, a8, a9, a10, a11, a12, a13⟩ := h1
            obtain ⟨_, ⟨b0, b1, b2, b3, b4, b5, b6, b7, b8, b9, b10, b11, b12, b13⟩, _⟩ := HXc.out.below hv
            have y3 := (HYc.out.below hv).2.2.2.2.1
            rw [hb] at y3
            exact ⟨a0, a1, a2, a3, a4, a5, a6, a7, a8, a9, a10, a11, a12, a13, b0, b1, b2, b3, b4, b5, b6, b7, b8, b9, b10, b11, b12, b13, y3, (World.cell?_of_block (a := ⟨h, q + p1 * 14 + 3, none⟩) (hv.block h HH.out)).trans hbt⟩)
          dsimp only at HS
          clear hb hw hp1 hbt hat hD hh
          refine wp_region_held_drew (S := fun w' => w'.cell? ⟨h, q + P * 14, none⟩ = some (.int .i32 d.ru) ∧ w'.cell? ⟨h, q + P * 14 + 1, none⟩ = some (.int .i32 d.m0) ∧ w'.cell? ⟨h, q + P * 14 + 2, none⟩ = some (.int .i32 d.m1) ∧ w'.cell? ⟨h, q + P * 14 + 3, none⟩ = some (.int .u8 d.k) ∧ w'.cell? ⟨h, q + P * 14 + 4, none⟩ = some (.int .u8 d.a.fg.k) ∧ w'.cell? ⟨h, q + P * 14 + 5, none⟩ = some (.int .u8 d.a.fg.r) ∧ w'.cell? ⟨h, q + P * 14 + 6, none⟩ = some (.int .u8 d.a.fg.g) ∧ w'.cell? ⟨h, q + P * 14 + 7, none⟩ = some (.int .u8 d.a.fg.b) ∧ w'.cell? ⟨h, q + P * 14 + 8, none⟩ = some (.int .u8 d.a.bg.k) ∧ w'.cell? ⟨h, q + P * 14 + 9, none⟩ = some (.int .u8 d.a.bg.r) ∧ w'.cell? ⟨h, q + P * 14 + 10, none⟩ = some (.int .u8 d.a.bg.g) ∧ w'.cell? ⟨h, q + P * 14 + 11, none⟩ = some (.int .u8 d.a.bg.b) ∧ w'.cell? ⟨h, q + P * 14 + 12, none⟩ = some (.int .u16 (d.a.fl : Nat)) ∧ w'.cell? ⟨h, q + P * 14 + 13, none⟩ = some (.int .u8 d.l) ∧ w'.cell? ⟨x, 0, none⟩ = some (.int .i32 d.ru) ∧ w'.cell? ⟨x, 1, none⟩ = some (.int .i32 d.m0) ∧ w'.cell? ⟨x, 2, none⟩ = some (.int .i32 d.m1) ∧ w'.cell? ⟨x, 3, none⟩ = some (.int .u8 d.k) ∧ w'.cell? ⟨x, 4, none⟩ = some (.int .u8 d.a.fg.k) ∧ w'.cell? ⟨x, 5, none⟩ = some (.int .u8 d.a.fg.r) ∧ w'.cell? ⟨x, 6, none⟩ = some (.int .u8 d.a.fg.g) ∧ w'.cell? ⟨x, 7, none⟩ = some (.int .u8 d.a.fg.b) ∧ w'.cell? ⟨x, 8, none⟩ = some (.int .u8 d.a.bg.k) ∧ w'.cell? ⟨x, 9, none⟩ = some (.int .u8 d.a.bg.r) ∧ w'.cell? ⟨x, 10, none⟩ = some (.int .u8 d.a.bg.g) ∧ w'.cell? ⟨x, 11, none⟩ = some (.int .u8 d.a.bg.b) ∧ w'.cell? ⟨x, 12, none⟩ = some (.int .u16 (d.a.fl : Nat)) ∧ w'.cell? ⟨x, 13, none⟩ = some (.int .u8 d.l) ∧ w'.cell? ⟨y, 3, none⟩ = some (.bool true) ∧ w'.cell? ⟨h, q + p1 * 14 + 3, none⟩ = some (.int .u8 2)) (by kernel_rfl) ?_ (fun hHeld => ?_)
          · exact HS.out _ ⟨rfl, rfl, rfl, Nat.le_refl _, fun _ _ => rfl⟩
          obtain ⟨u0, hu0⟩ : ∃ y, y = wx.drew := ⟨_, rfl⟩
          have bd : Below wx.heap.size wx u0 := by rw [hu0]; exact ⟨rfl, rfl, rfl, Nat.le_refl _, fun _ _ => rfl⟩
          have HU0 := Lib.hid bd
          replace hHeld := HS.out _ bd
          rw [← hu0]
          clear hu0 bd
          refine take_at (i := 0) (v := ?_) rfl (by kernel_rfl) (by kernel_rfl) (by kernel_rfl) (fun _ _ _ h => h) (by kernel_rfl) (by assumption) ?_ ?_
          rotate_left
          · (intro w hSw; (try dsimp only at hSw); go_simp; try with_reducible rfl)
          simp only [Act.put, List.setIfInBounds_toArray, List.set_cons_zero, List.set_cons_succ]
          refine take_at (i := 1) (v := ?_) rfl (by kernel_rfl) (by kernel_rfl) (by kernel_rfl) (fun _ _ _ h => h) (by kernel_rfl) (by assumption) ?_ ?_
          rotate_left
          · (intro w hSw; (try dsimp only at hSw); go_simp; try with_reducible rfl)
          simp only [Act.put, List.setIfInBounds_toArray, List.set_cons_zero, List.set_cons_succ]
          refine take_at (i := 2) (v := ?_) rfl (by kernel_rfl) (by kernel_rfl) (by kernel_rfl) (fun _ _ _ h => h) (by kernel_rfl) (by assumption) ?_ ?_
          rotate_left
          · (intro w hSw; (try dsimp only at hSw); go_simp; try with_reducible rfl)
          simp only [Act.put, List.setIfInBounds_toArray, List.set_cons_zero, List.set_cons_succ]
          refine take_at (i := 3) (v := ?_) rfl (by kernel_rfl) (by kernel_rfl) (by kernel_rfl) (fun _ _ _ h => h) (by kernel_rfl) (by assumption) ?_ ?_
          rotate_left
          · (intro w hSw; (try dsimp only at hSw); go_simp; try with_reducible rfl)
          simp only [Act.put, List.setIfInBounds_toArray, List.set_cons_zero, List.set_cons_succ]
          refine take_at (i := 4) (v := ?_) rfl (by kernel_rfl) (by kernel_rfl) (by kernel_rfl) (fun _ _ _ h => h) (by kernel_rfl) (by assumption) ?_ ?_
          rotate_left
          · (intro w hSw; (try dsimp only at hSw); go_simp; try with_reducible rfl)
          simp only [Act.put, List.setIfInBounds_toArray, List.set_cons_zero, List.set_cons_succ]
          refine take_at (i := 5) (v := ?_) rfl (by kernel_rfl) (by kernel_rfl) (by kernel_rfl) (fun _ _ _ h => h) (by kernel_rfl) (by assumption) ?_ ?_
          rotate_left
          · (intro w hSw; (try dsimp only at hSw); go_simp; try with_reducible rfl)
          simp only [Act.put, List.setIfInBounds_toArray, List.set_cons_zero, List.set_cons_succ]
          refine take_at (i := 6) (v := ?_) rfl (by kernel_rfl) (by kernel_rfl) (by kernel_rfl) (fun _ _ _ h => h) (by kernel_rfl) (by assumption) ?_ ?_
          rotate_left
          · (intro w hSw; (try dsimp only at hSw); go_simp; try with_reducible rfl)
          simp only [Act.put, List.setIfInBounds_toArray, List.set_cons_zero, List.set_cons_succ]
          refine take_at (i := 7) (v := ?_) rfl (by kernel_rfl) (by kernel_rfl) (by kernel_rfl) (fun _ _ _ h => h) (by kernel_rfl) (by assumption) ?_ ?_
          rotate_left
          · (intro w hSw; (try dsimp only at hSw); go_simp; try with_reducible rfl)
          simp only [Act.put, List.setIfInBounds_toArray, List.set_cons_zero, List.set_cons_succ]
          refine take_at (i := 8) (v := ?_) rfl (by kernel_rfl) (by kernel_rfl) (by kernel_rfl) (fun _ _ _ h => h) (by kernel_rfl) (by assumption) ?_ ?_
          rotate_left
          · (intro w hSw; (try dsimp only at hSw); go_simp; try with_reducible rfl)
          simp only [Act.put, List.setIfInBounds_toArray, List.set_cons_zero, List.set_cons_succ]
          refine take_at (i := 9) (v := ?_) rfl (by kernel_rfl) (by kernel_rfl) (by kernel_rfl) (fun _ _ _ h => h) (by kernel_rfl) (by assumption) ?_ ?_
          rotate_left
          · (intro w hSw; (try dsimp only at hSw); go_simp; try with_reducible rfl)
          simp only [Act.put, List.setIfInBounds_toArray, List.set_cons_zero, List.set_cons_succ]
          refine take_at (i := 10) (v := ?_) rfl (by kernel_rfl) (by kernel_rfl) (by kernel_rfl) (fun _ _ _ h => h) (by kernel_rfl) (by assumption) ?_ ?_
          rotate_left
          · (intro w hSw; (try dsimp only at hSw); go_simp; try with_reducible rfl)
          simp only [Act.put, List.setIfInBounds_toArray, List.set_cons_zero, List.set_cons_succ]
          refine take_at (i := 11) (v := ?_) rfl (by kernel_rfl) (by kernel_rfl) (by kernel_rfl) (fun _ _ _ h => h) (by kernel_rfl) (by assumption) ?_ ?_
          rotate_left
          · (intro w hSw; (try dsimp only at hSw); go_simp; try with_reducible rfl)
          simp only [Act.put, List.setIfInBounds_toArray, List.set_cons_zero, List.set_cons_succ]
          refine take_at (i := 12) (v := ?_) rfl (by kernel_rfl) (by kernel_rfl) (by kernel_rfl) (fun _ _ _ h => h) (by kernel_rfl) (by assumption) ?_ ?_
          rotate_left
          · (intro w hSw; (try dsimp only at hSw); go_simp; try with_reducible rfl)
          simp only [Act.put, List.setIfInBounds_toArray, List.set_cons_zero, List.set_cons_succ]
          refine take_at (i := 13) (v := ?_) rfl (by kernel_rfl) (by kernel_rfl) (by kernel_rfl) (fun _ _ _ h => h) (by kernel_rfl) (by assumption) ?_ ?_
          rotate_left
          · (intro w hSw; (try dsimp only at hSw); go_simp; try with_reducible rfl)
          simp only [Act.put, List.setIfInBounds_toArray, List.set_cons_zero, List.set_cons_succ]
          refine take_at (i := 14) (v := ?_) rfl (by kernel_rfl) (by kernel_rfl) (by kernel_rfl) (fun _ _ _ h => h) (by kernel_rfl) (by assumption) ?_ ?_
          rotate_left
          · (intro w hSw; (try dsimp only at hSw); go_simp; try with_reducible rfl)
          simp only [Act.put, List.setIfInBounds_toArray, List.set_cons_zero, List.set_cons_succ]
          refine take_at (i := 15) (v := ?_) rfl (by kernel_rfl) (by kernel_rfl) (by kernel_rfl) (fun _ _ _ h => h) (by kernel_rfl) (by assumption) ?_ ?_
          rotate_left
          · (intro w hSw; (try dsimp only at hSw); go_simp; try with_reducible rfl)
          simp only [Act.put, List.setIfInBounds_toArray, List.set_cons_zero, List.set_cons_succ]
          refine take_at (i := 16) (v := ?_) rfl (by kernel_rfl) (by kernel_rfl) (by kernel_rfl) (fun _ _ _ h => h) (by kernel_rfl) (by assumption) ?_ ?_
          rotate_left
          · (intro w hSw; (try dsimp only at hSw); go_simp; try with_reducible rfl)
          simp only [Act.put, List.setIfInBounds_toArray, List.set_cons_zero, List.set_cons_succ]
          refine take_at (i := 17) (v := ?_) rfl (by kernel_rfl) (by kernel_rfl) (by kernel_rfl) (fun _ _ _ h => h) (by kernel_rfl) (by assumption) ?_ ?_
          rotate_left
          · (intro w hSw; (try dsimp only at hSw); go_simp; try with_reducible rfl)
          simp only [Act.put, List.setIfInBounds_toArray, List.set_cons_zero, List.set_cons_succ]
          refine take_at (i := 18) (v := ?_) rfl (by kernel_rfl) (by kernel_rfl) (by kernel_rfl) (fun _ _ _ h => h) (by kernel_rfl) (by assumption) ?_ ?_
          rotate_left
          · (intro w hSw; (try dsimp only at hSw); go_simp; try with_reducible rfl)
          simp only [Act.put, List.setIfInBounds_toArray, List.set_cons_zero, List.set_cons_succ]
          refine wpAnyH_done (by kernel_rfl) ?_ _
          clear hHeld HS hq
          go_wp2
          go_meet
          case rel => exact ⟨rfl, HU0⟩
        | false =>
          have HS := Lib.hid (show ∀ V, Below wx.heap.size wx V → (fun w' => w'.cell? ⟨h, q + P * 14, none⟩ = some (.int .i32 d.ru) ∧ w'.cell? ⟨h, q + P * 14 + 1, none⟩ = some (.int .i32 d.m0) ∧ w'.cell? ⟨h, q + P * 14 + 2, none⟩ = some (.int .i32 d.m1) ∧ w'.cell? ⟨h, q + P * 14 + 3, none⟩ = some (.int .u8 d.k) ∧ w'.cell? ⟨h, q + P * 14 + 4, none⟩ = some (.int .u8 d.a.fg.k) ∧ w'.cell? ⟨h, q + P * 14 + 5, none⟩ = some (.int .u8 d.a.fg.r) ∧ w'.cell? ⟨h, q + P * 14 + 6, none⟩ = some (.int .u8 d.a.fg.g) ∧ w'.cell? ⟨h, q + P * 14 + 7, none⟩ = some (.int .u8 d.a.fg.b) ∧ w'.cell? ⟨h, q + P * 14 + 8, none⟩ = some (.int .u8 d.a.bg.k) ∧ w'.cell? ⟨h, q + P * 14 + 9, none⟩ = some (.int .u8 d.a.bg.r) ∧ w'.cell? ⟨h, q + P * 14 + 10, none⟩ = some (.int .u8 d.a.bg.g) ∧ w'.cell? ⟨h, q + P * 14 + 11, none⟩ = some (.int .u8 d.a.bg.b) ∧ w'.cell? ⟨h, q + P * 14 + 12, none⟩ = some (.int .u16 (d.a.fl : Nat)) ∧ w'.cell? ⟨h, q + P * 14 + 13, none⟩ = some (.int .u8 d.l) ∧ w'.cell? ⟨x, 0, none⟩ = some (.int .i32 d.ru) ∧ w'.cell? ⟨x, 1, none⟩ = some (.int .i32 d.m0) ∧ w'.cell? ⟨x, 2, none⟩ = some (.int .i32 d.m1) ∧ w'.cell? ⟨x, 3, none⟩ = some (.int .u8 d.k) ∧ w'.cell? ⟨x, 4, none⟩ = some (.int .u8 d.a.fg.k) ∧ w'.cell? ⟨x, 5, none⟩ = some (.int .u8 d.a.fg.r) ∧ w'.cell? ⟨x, 6, none⟩ = some (.int .u8 d.a.fg.g) ∧ w'.cell? ⟨x, 7, none⟩ = some (.int .u8 d.a.fg.b) ∧ w'.cell? ⟨x, 8, none⟩ = some (.int .u8 d.a.bg.k) ∧ w'.cell? ⟨x, 9, none⟩ = some (.int .u8 d.a.bg.r) ∧ w'.cell? ⟨x, 10, none⟩ = some (.int .u8 d.a.bg.g) ∧ w'.cell? ⟨x, 11, none⟩ = some (.int .u8 d.a.bg.b) ∧ w'.cell? ⟨x, 12, none⟩ = some (.int .u16 (d.a.fl : Nat)) ∧ w'.cell? ⟨x, 13, none⟩ = some (.int .u8 d.l) ∧ w'.cell? ⟨y, 3, none⟩ = some (.bool false)) V from fun V hv => by
            have h1 := HAT.out.same (hv.block h HH.out)
            obtain ⟨a0, a1, a2, a3, a4, a5, a6, a7, a8, a9, a10, a11, a12, a13⟩ := h1
            obtain ⟨_, ⟨b0, b1, b2, b3, b4, b5, b6, b7, b8, b9, b10, b11, b12, b13⟩, _⟩ := HXc.out.below hv
            have y3 := (HYc.out.below hv).2.2.2.2.1
            rw [hb] at y3
            exact ⟨a0, a1, a2, a3, a4, a5, a6, a7, a8, a9, a10, a11, a12, a13, b0, b1, b2, b3, b4, b5, b6, b7, b8, b9, b10, b11, b12, b13, y3⟩)
          dsimp only at HS
          clear hb hat hD hh
          refine wp_region_held_drew (S := fun w' => w'.cell? ⟨h, q + P * 14, none⟩ = some (.int .i32 d.ru) ∧ w'.cell? ⟨h, q + P * 14 + 1, none⟩ = some (.int .i32 d.m0) ∧ w'.cell? ⟨h, q + P * 14 + 2, none⟩ = some (.int .i32 d.m1) ∧ w'.cell? ⟨h, q + P * 14 + 3, none⟩ = some (.int .u8 d.k) ∧ w'.cell? ⟨h, q + P * 14 + 4, none⟩ = some (.int .u8 d.a.fg.k) ∧ w'.cell? ⟨h, q + P * 14 + 5, none⟩ = some (.int .u8 d.a.fg.r) ∧ w'.cell? ⟨h, q + P * 14 + 6, none⟩ = some (.int .u8 d.a.fg.g) ∧ w'.cell? ⟨h, q + P * 14 + 7, none⟩ = some (.int .u8 d.a.fg.b) ∧ w'.cell? ⟨h, q + P * 14 + 8, none⟩ = some (.int .u8 d.a.bg.k) ∧ w'.cell? ⟨h, q + P * 14 + 9, none⟩ = some (.int .u8 d.a.bg.r) ∧ w'.cell? ⟨h, q + P * 14 + 10, none⟩ = some (.int .u8 d.a.bg.g) ∧ w'.cell? ⟨h, q + P * 14 + 11, none⟩ = some (.int .u8 d.a.bg.b) ∧ w'.cell? ⟨h, q + P * 14 + 12, none⟩ = some (.int .u16 (d.a.fl : Nat)) ∧ w'.cell? ⟨h, q + P * 14 + 13, none⟩ = some (.int .u8 d.l) ∧ w'.cell? ⟨x, 0, none⟩ = some (.int .i32 d.ru) ∧ w'.cell? ⟨x, 1, none⟩ = some (.int .i32 d.m0) ∧ w'.cell? ⟨x, 2, none⟩ = some (.int .i32 d.m1) ∧ w'.cell? ⟨x, 3, none⟩ = some (.int .u8 d.k) ∧ w'.cell? ⟨x, 4, none⟩ = some (.int .u8 d.a.fg.k) ∧ w'.cell? ⟨x, 5, none⟩ = some (.int .u8 d.a.fg.r) ∧ w'.cell? ⟨x, 6, none⟩ = some (.int .u8 d.a.fg.g) ∧ w'.cell? ⟨x, 7, none⟩ = some (.int .u8 d.a.fg.b) ∧ w'.cell? ⟨x, 8, none⟩ = some (.int .u8 d.a.bg.k) ∧ w'.cell? ⟨x, 9, none⟩ = some (.int .u8 d.a.bg.r) ∧ w'.cell? ⟨x, 10, none⟩ = some (.int .u8 d.a.bg.g) ∧ w'.cell? ⟨x, 11, none⟩ = some (.int .u8 d.a.bg.b) ∧ w'.cell? ⟨x, 12, none⟩ = some (.int .u16 (d.a.fl : Nat)) ∧ w'.cell? ⟨x, 13, none⟩ = some (.int .u8 d.l) ∧ w'.cell? ⟨y, 3, none⟩ = some (.bool false)) (by kernel_rfl) ?_ (fun hHeld => ?_)
          · exact HS.out _ ⟨rfl, rfl, rfl, Nat.le_refl _, fun _ _ => rfl⟩
          obtain ⟨u0, hu0⟩ : ∃ y, y = wx.drew := ⟨_, rfl⟩
          have bd : Below wx.heap.size wx u0 := by rw [hu0]; exact ⟨rfl, rfl, rfl, Nat.le_refl _, fun _ _ => rfl⟩
          have HU0 := Lib.hid bd
          replace hHeld := HS.out _ bd
          rw [← hu0]
          clear hu0 bd
          refine take_at (i := 0) (v := ?_) rfl (by kernel_rfl) (by kernel_rfl) (by kernel_rfl) (fun _ _ _ h => h) (by kernel_rfl) (by assumption) ?_ ?_
          rotate_left
          · (intro w hSw; (try dsimp only at hSw); go_simp; try with_reducible rfl)
          simp only [Act.put, List.setIfInBounds_toArray, List.set_cons_zero, List.set_cons_succ]
          refine take_at (i := 1) (v := ?_) rfl (by kernel_rfl) (by kernel_rfl) (by kernel_rfl) (fun _ _ _ h => h) (by kernel_rfl) (by assumption) ?_ ?_
          rotate_left
          · (intro w hSw; (try dsimp only at hSw); go_simp; try with_reducible rfl)
          simp only [Act.put, List.setIfInBounds_toArray, List.set_cons_zero, List.set_cons_succ]
          refine take_at (i := 2) (v := ?_) rfl (by kernel_rfl) (by kernel_rfl) (by kernel_rfl) (fun _ _ _ h => h) (by kernel_rfl) (by assumption) ?_ ?_
          rotate_left
          · (intro w hSw; (try dsimp only at hSw); go_simp; try with_reducible rfl)
          simp only [Act.put, List.setIfInBounds_toArray, List.set_cons_zero, List.set_cons_succ]
          refine take_at (i := 3) (v := ?_) rfl (by kernel_rfl) (by kernel_rfl) (by kernel_rfl) (fun _ _ _ h => h) (by kernel_rfl) (by assumption) ?_ ?_
          rotate_left
          · (intro w hSw; (try dsimp only at hSw); go_simp; try with_reducible rfl)
          simp only [Act.put, List.setIfInBounds_toArray, List.set_cons_zero, List.set_cons_succ]
          refine take_at (i := 4) (v := ?_) rfl (by kernel_rfl) (by kernel_rfl) (by kernel_rfl) (fun _ _ _ h => h) (by kernel_rfl) (by assumption) ?_ ?_
          rotate_left
          · (intro w hSw; (try dsimp only at hSw); go_simp; try with_reducible rfl)
          simp only [Act.put, List.setIfInBounds_toArray, List.set_cons_zero, List.set_cons_succ]
          refine take_at (i := 5) (v := ?_) rfl (by kernel_rfl) (by kernel_rfl) (by kernel_rfl) (fun _ _ _ h => h) (by kernel_rfl) (by assumption) ?_ ?_
          rotate_left
          · (intro w hSw; (try dsimp only at hSw); go_simp; try with_reducible rfl)
          simp only [Act.put, List.setIfInBounds_toArray, List.set_cons_zero, List.set_cons_succ]
          refine take_at (i := 6) (v := ?_) rfl (by kernel_rfl) (by kernel_rfl) (by kernel_rfl) (fun _ _ _ h => h) (by kernel_rfl) (by assumption) ?_ ?_
          rotate_left
          · (intro w hSw; (try dsimp only at hSw); go_simp; try with_reducible rfl)
          simp only [Act.put, List.setIfInBounds_toArray, List.set_cons_zero, List.set_cons_succ]
          refine take_at (i := 7) (v := ?_) rfl (by kernel_rfl) (by kernel_rfl) (by kernel_rfl) (fun _ _ _ h => h) (by kernel_rfl) (by assumption) ?_ ?_
          rotate_left
          · (intro w hSw; (try dsimp only at hSw); go_simp; try with_reducible rfl)
          simp only [Act.put, List.setIfInBounds_toArray, List.set_cons_zero, List.set_cons_succ]
          refine take_at (i := 8) (v := ?_) rfl (by kernel_rfl) (by kernel_rfl) (by kernel_rfl) (fun _ _ _ h => h) (by kernel_rfl) (by assumption) ?_ ?_
          rotate_left
          · (intro w hSw; (try dsimp only at hSw); go_simp; try with_reducible rfl)
          simp only [Act.put, List.setIfInBounds_toArray, List.set_cons_zero, List.set_cons_succ]
          refine take_at (i := 9) (v := ?_) rfl (by kernel_rfl) (by kernel_rfl) (by kernel_rfl) (fun _ _ _ h => h) (by kernel_rfl) (by assumption) ?_ ?_
          rotate_left
          · (intro w hSw; (try dsimp only at hSw); go_simp; try with_reducible rfl)
          simp only [Act.put, List.setIfInBounds_toArray, List.set_cons_zero, List.set_cons_succ]
          refine skip_at (i := 10) rfl (by kernel_rfl) (by kernel_rfl) (by kernel_rfl) (fun _ _ _ h => h) (by kernel_rfl) (by assumption) ?_
          simp only [Act.put, List.setIfInBounds_toArray, List.set_cons_zero, List.set_cons_succ]
          refine skip_at (i := 11) rfl (by kernel_rfl) (by kernel_rfl) (by kernel_rfl) (fun _ _ _ h => h) (by kernel_rfl) (by assumption) ?_
          simp only [Act.put, List.setIfInBounds_toArray, List.set_cons_zero, List.set_cons_succ]
          refine skip_at (i := 12) rfl (by kernel_rfl) (by kernel_rfl) (by kernel_rfl) (fun _ _ _ h => h) (by kernel_rfl) (by assumption) ?_
          simp only [Act.put, List.setIfInBounds_toArray, List.set_cons_zero, List.set_cons_succ]
          refine skip_at (i := 13) rfl (by kernel_rfl) (by kernel_rfl) (by kernel_rfl) (fun _ _ _ h => h) (by kernel_rfl) (by assumption) ?_
          simp only [Act.put, List.setIfInBounds_toArray, List.set_cons_zero, List.set_cons_succ]
          refine skip_at (i := 14) rfl (by kernel_rfl) (by kernel_rfl) (by kernel_rfl) (fun _ _ _ h => h) (by kernel_rfl) (by assumption) ?_
          simp only [Act.put, List.setIfInBounds_toArray, List.set_cons_zero, List.set_cons_succ]
          refine skip_at (i := 15) rfl (by kernel_rfl) (by kernel_rfl) (by kernel_rfl) (fun _ _ _ h => h) (by kernel_rfl) (by assumption) ?_
          simp only [Act.put, List.setIfInBounds_toArray, List.set_cons_zero, List.set_cons_succ]
          refine skip_at (i := 16) rfl (by kernel_rfl) (by kernel_rfl) (by kernel_rfl) (fun _ _ _ h => h) (by kernel_rfl) (by assumption) ?_
          simp only [Act.put, List.setIfInBounds_toArray, List.set_cons_zero, List.set_cons_succ]
          refine take_at (i := 17) (v := ?_) rfl (by kernel_rfl) (by kernel_rfl) (by kernel_rfl) (fun _ _ _ h => h) (by kernel_rfl) (by assumption) ?_ ?_
          rotate_left
          · (intro w hSw; (try dsimp only at hSw); go_simp; try with_reducible rfl)
          simp only [Act.put, List.setIfInBounds_toArray, List.set_cons_zero, List.set_cons_succ]
          refine take_at (i := 18) (v := ?_) rfl (by kernel_rfl) (by kernel_rfl) (by kernel_rfl) (fun _ _ _ h => h) (by kernel_rfl) (by assumption) ?_ ?_
          rotate_left
          · (intro w hSw; (try dsimp only at hSw); go_simp; try with_reducible rfl)
          simp only [Act.put, List.setIfInBounds_toArray, List.set_cons_zero, List.set_cons_succ]
          refine wpAnyH_done (by kernel_rfl) ?_ _
          clear hHeld HS hq
          go_wp2
          go_meet
          case rel => exact ⟨rfl, HU0⟩
      case rest => as_aux_lemma =>
      obtain ⟨rfl, HUc⟩ := hcut
      obtain ⟨wu, rfl⟩ : ∃ v : World, v = wc := ⟨_, rfl⟩
      have HNXu := Lib.hid (HNXc.out.below HUc.out)
      have HRu := Lib.hid (HRc.out.below HUc.out)
      have HBu := Lib.hid (HBB.out.trans (HUc.out.mono HBB.out.size))
      clear HXc HUc HNXc HRc HYc HBB HXS HXY HD
      go_wp2
      go_loopg [13] n (fun G kv wr => ∃ k : Nat, kv = .int .i64 k ∧ k ≤ n ∧ n - k ≤ G ∧ Hid (Below wu.heap.size wu wr))
      case atStart => exact ⟨0, rfl, Nat.zero_le _, Nat.sub_le _ _, Lib.hid (Below.refl _ _)⟩
      case round => as_aux_lemma =>
        obtain ⟨k, rfl, hkn, hgj, HV⟩ := hrel
        by_cases hltk : k < n
        rotate_left
        · have HNF := Lib.hid (HNXu.out.below HV.out)
          have HBF := Lib.hid (HBu.out.trans (HV.out.mono HBu.out.size))
          have hkk2 : ¬ (k : Int) < (n : Int) := by omega
          clear HV HNXu HRu HBu
          go_wp2
          go_roundg (m - (i + 1))
          case rel => exact ⟨i + 1, by go_num, by omega, Nat.le_refl _, Lib.hid ⟨Q, HNF.out⟩, HBF⟩
          case measure => omega
        obtain ⟨g, o, cp, e, _, hg, hC⟩ := (HRu.out.1.below HV.out).open (by rw [← HN.out]; omega)
        injection e with e1 e2 e3
        subst e1 e3
        clear e2
        obtain ⟨h, q, cq, e, _, hh, hD⟩ := (HNXu.out.1.below HV.out).open (by rw [← HQL.out]; omega)
        injection e with e1 e2 e3
        subst e1 e3
        clear e2
        have hkR : k < R.length := by rw [← HN.out]; exact hltk
        have hat := hC k hkR
        have hbt := hD k (by rw [← HQL.out]; exact hltk)
        obtain ⟨cc, hcc⟩ : ∃ c, c = gc R k := ⟨_, rfl⟩
        rw [← hcc] at hat
        have HAT := Lib.hid hat
        have HBT := Lib.hid hbt
        have HG := Lib.hid hg
        have HH := Lib.hid hh
        have HCC := Lib.hid hcc
        have HPK := Lib.hid (HPF.out.2.2 k hkR)
        obtain ⟨hf, hhf⟩ : ∃ b : Bool, b = decide (Half R P wd k) := ⟨_, rfl⟩
        have HHF := Lib.hid hhf
        have g3 := hat.2.2.2.1
        clear hC hD hat hbt hg hh hcc hkR hhf
        go_upto_region 25 with (fail)
        go_cut [14] (fun v wd' => v = .bool hf ∧ Hid (wd' = wr))
        case first => as_aux_lemma =>
          have s8 : IntKind.i64.wrap ((P : Int) - 1) = (P : Int) - 1 := by rw [IntKind.wrap_i64]; omega
          by_cases hA : k + 1 = P
          · have q1 : ((k : Int) == (P : Int) - 1) = true := by simp; omega
            have q2 : ((k : Int) == (e9 : Int)) = false := by have := HE9.out; simp; omega
            have q2n : (k == e9) = false := by have := HE9.out; simp; omega
            by_cases hk1 : cc.k = 1
            · have q3 : (cc.k == 1) = true := by simp [hk1]
              have hv : hf = true := by rw [HHF.out]; exact decide_eq_true (.inl ⟨hA, by rw [← HCC.out]; exact hk1⟩)
              clear hA hk1
              go_wp2
              go_meet
              case rel => exact ⟨by rw [hv], Lib.hid rfl⟩
            · have q3 : (cc.k == 1) = false := by simp [hk1]
              have hv : hf = false := by
                rw [HHF.out]
                refine decide_eq_false ?_
                rintro (⟨_, h⟩ | ⟨h, _⟩)
                · exact hk1 (by rw [HCC.out]; exact h)
                · omega
              clear hA hk1
              go_wp2
              go_meet
              case rel => exact ⟨by rw [hv], Lib.hid rfl⟩
          · have q1 : ((k : Int) == (P : Int) - 1) = false := by simp; omega
            by_cases hE : k = e9
            · have q2 : ((k : Int) == (e9 : Int)) = true := by simp; omega
              have q2n : (k == e9) = true := by simp; omega
              by_cases hk2 : cc.k = 2
              · have q3 : (cc.k == 2) = true := by simp [hk2]
                have hv : hf = true := by rw [HHF.out]; exact decide_eq_true (.inr ⟨by rw [← HE9.out]; exact hE, by rw [← HCC.out]; exact hk2⟩)
                clear hA hE hk2
                go_wp2
                go_meet
                case rel => exact ⟨by rw [hv], Lib.hid rfl⟩
              · have q3 : (cc.k == 2) = false := by simp [hk2]
                have hv : hf = false := by
                  rw [HHF.out]
                  refine decide_eq_false ?_
                  rintro (⟨h, _⟩ | ⟨_, h⟩)
                  · exact hA h
                  · exact hk2 (by rw [HCC.out]; exact h)
                clear hA hE hk2
                go_wp2
                go_meet
                case rel => exact ⟨by rw [hv], Lib.hid rfl⟩
            · have q2 : ((k : Int) == (e9 : Int)) = false := by simp; omega
              have q2n : (k == e9) = false := by simp; omega
              have hv : hf = false := by
                rw [HHF.out]
                refine decide_eq_false ?_
                rintro (⟨h, _⟩ | ⟨h, _⟩)
                · exact hA h
                · exact hE (by rw [HE9.out]; exact h)
              clear hA hE
              go_wp2
              go_meet
              case rel => exact ⟨by rw [hv], Lib.hid rfl⟩
        case rest => as_aux_lemma =>
        obtain ⟨rfl, hwc⟩ := hcut
        have hwc' := hwc.out.symm
        subst hwc'
        clear hwc g3
        go_upto_region 26 with (fail)
        go_cut [14, 185] (fun _ v wd' => v = .bool false ∧ Hid (Below wr.heap.size wr wd'))
        case first => as_aux_lemma =>
          cases hv : hf with
          | true =>
            have hHa : Half R P wd k := of_decide_eq_true (HHF.out.symm.trans hv)
            have hbare := (HPK.out (half_out hHa)).2 hHa
            rw [← HCC.out] at hbare
            by_cases hlo : k < P
            · have HS := Lib.hid (show ∀ V, Below wr.heap.size wr V → (fun w' => w'.cell? ⟨h, q + k * 14, none⟩ = some (.int .i32 0) ∧ w'.cell? ⟨h, q + k * 14 + 1, none⟩ = some (.int .i32 0) ∧ w'.cell? ⟨h, q + k * 14 + 2, none⟩ = some (.int .i32 0) ∧ w'.cell? ⟨h, q + k * 14 + 3, none⟩ = some (.int .u8 0) ∧ w'.cell? ⟨h, q + k * 14 + 4, none⟩ = some (.int .u8 cc.a.fg.k) ∧ w'.cell? ⟨h, q + k * 14 + 5, none⟩ = some (.int .u8 cc.a.fg.r) ∧ w'.cell? ⟨h, q + k * 14 + 6, none⟩ = some (.int .u8 cc.a.fg.g) ∧ w'.cell? ⟨h, q + k * 14 + 7, none⟩ = some (.int .u8 cc.a.fg.b) ∧ w'.cell? ⟨h, q + k * 14 + 8, none⟩ = some (.int .u8 cc.a.bg.k) ∧ w'.cell? ⟨h, q + k * 14 + 9, none⟩ = some (.int .u8 cc.a.bg.r) ∧ w'.cell? ⟨h, q + k * 14 + 10, none⟩ = some (.int .u8 cc.a.bg.g) ∧ w'.cell? ⟨h, q + k * 14 + 11, none⟩ = some (.int .u8 cc.a.bg.b) ∧ w'.cell? ⟨h, q + k * 14 + 12, none⟩ = some (.int .u16 (cc.a.fl : Nat)) ∧ w'.cell? ⟨h, q + k * 14 + 13, none⟩ = some (.int .u8 cc.l) ∧ w'.cell? ⟨g, o + k * 14, none⟩ = some (.int .i32 cc.ru) ∧ w'.cell? ⟨g, o + k * 14 + 1, none⟩ = some (.int .i32 cc.m0) ∧ w'.cell? ⟨g, o + k * 14 + 2, none⟩ = some (.int .i32 cc.m1) ∧ w'.cell? ⟨g, o + k * 14 + 3, none⟩ = some (.int .u8 cc.k) ∧ w'.cell? ⟨g, o + k * 14 + 4, none⟩ = some (.int .u8 cc.a.fg.k) ∧ w'.cell? ⟨g, o + k * 14 + 5, none⟩ = some (.int .u8 cc.a.fg.r) ∧ w'.cell? ⟨g, o + k * 14 + 6, none⟩ = some (.int .u8 cc.a.fg.g) ∧ w'.cell? ⟨g, o + k * 14 + 7, none⟩ = some (.int .u8 cc.a.fg.b) ∧ w'.cell? ⟨g, o + k * 14 + 8, none⟩ = some (.int .u8 cc.a.bg.k) ∧ w'.cell? ⟨g, o + k * 14 + 9, none⟩ = some (.int .u8 cc.a.bg.r) ∧ w'.cell? ⟨g, o + k * 14 + 10, none⟩ = some (.int .u8 cc.a.bg.g) ∧ w'.cell? ⟨g, o + k * 14 + 11, none⟩ = some (.int .u8 cc.a.bg.b) ∧ w'.cell? ⟨g, o + k * 14 + 12, none⟩ = some (.int .u16 (cc.a.fl : Nat)) ∧ w'.cell? ⟨g, o + k * 14 + 13, none⟩ = some (.int .u8 cc.l)) V from fun V hv => by
                have h1 := HBT.out.same (hv.block h HH.out)
                have h2 := HAT.out.same (hv.block g HG.out)
                rw [hbare] at h1
                obtain ⟨a0, a1, a2, a3, a4, a5, a6, a7, a8, a9, a10, a11, a12, a13⟩ := h1
                exact ⟨a0, a1, a2, a3, a4, a5, a6, a7, a8, a9, a10, a11, a12, a13, h2⟩)
              dsimp only at HS
              have hq : ∀ w, (Op.equalIn 10000 44 (.agg #[.int .i32 0, .int .i32 0, .int .i32 0, .int .u8 0, .int .u8 cc.a.fg.k, .int .u8 cc.a.fg.r, .int .u8 cc.a.fg.g, .int .u8 cc.a.fg.b, .int .u8 cc.a.bg.k, .int .u8 cc.a.bg.r, .int .u8 cc.a.bg.g, .int .u8 cc.a.bg.b, .int .u16 (cc.a.fl : Nat), .int .u8 cc.l]) (celV cc)).run Try.prog w = .ok false w := fun w => by
                have hne : cc.bare ≠ cc := fun e => half_k hHa (by rw [← HCC.out, ← e]; rfl)
                have := eqCel w cc.bare cc
                rw [decide_eq_false hne] at this
                exact this
              have hqa := fun w => eqAttN 9997 w cc.a cc.a
              simp only [eqA_self] at hqa
              have k1 : (k : Int) < (P : Int) := by omega
              have k1d : decide ((k : Int) < (P : Int)) = true := decide_eq_true k1
              have k1n : decide (k < P) = true := decide_eq_true (by omega)
              clear hHa hbare hlo hv
              as_aux_lemma =>
              refine wp_region_held_drew (S := fun w' => w'.cell? ⟨h, q + k * 14, none⟩ = some (.int .i32 0) ∧ w'.cell? ⟨h, q + k * 14 + 1, none⟩ = some (.int .i32 0) ∧ w'.cell? ⟨h, q + k * 14 + 2, none⟩ = some (.int .i32 0) ∧ w'.cell? ⟨h, q + k * 14 + 3, none⟩ = some (.int .u8 0) ∧ w'.cell? ⟨h, q + k * 14 + 4, none⟩ = some (.int .u8 cc.a.fg.k) ∧ w'.cell? ⟨h, q + k * 14 + 5, none⟩ = some (.int .u8 cc.a.fg.r) ∧ w'.cell? ⟨h, q + k * 14 + 6, none⟩ = some (.int .u8 cc.a.fg.g) ∧ w'.cell? ⟨h, q + k * 14 + 7, none⟩ = some (.int .u8 cc.a.fg.b) ∧ w'.cell? ⟨h, q + k * 14 + 8, none⟩ = some (.int .u8 cc.a.bg.k) ∧ w'.cell? ⟨h, q + k * 14 + 9, none⟩ = some (.int .u8 cc.a.bg.r) ∧ w'.cell? ⟨h, q + k * 14 + 10, none⟩ = some (.int .u8 cc.a.bg.g) ∧ w'.cell? ⟨h, q + k * 14 + 11, none⟩ = some (.int .u8 cc.a.bg.b) ∧ w'.cell? ⟨h, q + k * 14 + 12, none⟩ = some (.int .u16 (cc.a.fl : Nat)) ∧ w'.cell? ⟨h, q + k * 14 + 13, none⟩ = some (.int .u8 cc.l) ∧ w'.cell? ⟨g, o + k * 14, none⟩ = some (.int .i32 cc.ru) ∧ w'.cell? ⟨g, o + k * 14 + 1, none⟩ = some (.int .i32 cc.m0) ∧ w'.cell? ⟨g, o + k * 14 + 2, none⟩ = some (.int .i32 cc.m1) ∧ w'.cell? ⟨g, o + k * 14 + 3, none⟩ = some (.int .u8 cc.k) ∧ w'.cell? ⟨g, o + k * 14 + 4, none⟩ = some (.int .u8 cc.a.fg.k) ∧ w'.cell? ⟨g, o + k * 14 + 5, none⟩ = some (.int .u8 cc.a.fg.r) ∧ w'.cell? ⟨g, o + k * 14 + 6, none⟩ = some (.int .u8 cc.a.fg.g) ∧ w'.cell? ⟨g, o + k * 14 + 7, none⟩ = some (.int .u8 cc.a.fg.b) ∧ w'.cell? ⟨g, o + k * 14 + 8, none⟩ = some (.int .u8 cc.a.bg.k) ∧ w'.cell? ⟨g, o + k * 14 + 9, none⟩ = some (.int .u8 cc.a.bg.r) ∧ w'.cell? ⟨g, o + k * 14 + 10, none⟩ = some (.int .u8 cc.a.bg.g) ∧ w'.cell? ⟨g, o + k * 14 + 11, none⟩ = some (.int .u8 cc.a.bg.b) ∧ w'.cell? ⟨g, o + k * 14 + 12, none⟩ = some (.int .u16 (cc.a.fl : Nat)) ∧ w'.cell? ⟨g, o + k * 14 + 13, none⟩ = some (.int .u8 cc.l)) (by kernel_rfl) ?_ (fun hHeld => ?_)
              · exact HS.out _ ⟨rfl, rfl, rfl, Nat.le_refl _, fun _ _ => rfl⟩
              obtain ⟨u0, hu0⟩ : ∃ y, y = wr.drew := ⟨_, rfl⟩
              have bd : Below wr.heap.size wr u0 := by rw [hu0]; exact ⟨rfl, rfl, rfl, Nat.le_refl _, fun _ _ => rfl⟩
              have HU0 := Lib.hid bd
              replace hHeld := HS.out _ bd
              rw [← hu0]
              clear hu0 bd
              refine take_at (i := 0) (v := ?_) rfl (by kernel_rfl) (by kernel_rfl) (by kernel_rfl) (fun _ _ _ h => h) (by kernel_rfl) (by assumption) ?_ ?_
              rotate_left
              · (intro w hSw; (try dsimp only at hSw); go_simp; try with_reducible rfl)
              simp only [Act.put, List.setIfInBounds_toArray, List.set_cons_zero, List.set_cons_succ]
              refine take_at (i := 1) (v := ?_) rfl (by kernel_rfl) (by kernel_rfl) (by kernel_rfl) (fun _ _ _ h => h) (by kernel_rfl) (by assumption) ?_ ?_
              rotate_left
              · (intro w hSw; (try dsimp only at hSw); go_simp; try with_reducible rfl)
              simp only [Act.put, List.setIfInBounds_toArray, List.set_cons_zero, List.set_cons_succ]
              refine take_at (i := 2) (v := ?_) rfl (by kernel_rfl) (by kernel_rfl) (by kernel_rfl) (fun _ _ _ h => h) (by kernel_rfl) (by assumption) ?_ ?_
              rotate_left
              · (intro w hSw; (try dsimp only at hSw); go_simp; try with_reducible rfl)
              simp only [Act.put, List.setIfInBounds_toArray, List.set_cons_zero, List.set_cons_succ]
              refine take_at (i := 3) (v := ?_) rfl (by kernel_rfl) (by kernel_rfl) (by kernel_rfl) (fun _ _ _ h => h) (by kernel_rfl) (by assumption) ?_ ?_
              rotate_left
              · (intro w hSw; (try dsimp only at hSw); go_simp; try with_reducible rfl)
              simp only [Act.put, List.setIfInBounds_toArray, List.set_cons_zero, List.set_cons_succ]
              refine skip_at (i := 4) rfl (by kernel_rfl) (by kernel_rfl) (by kernel_rfl) (fun _ _ _ h => h) (by kernel_rfl) (by assumption) ?_
              simp only [Act.put, List.setIfInBounds_toArray, List.set_cons_zero, List.set_cons_succ]
              refine skip_at (i := 5) rfl (by kernel_rfl) (by kernel_rfl) (by kernel_rfl) (fun _ _ _ h => h) (by kernel_rfl) (by assumption) ?_
              simp only [Act.put, List.setIfInBounds_toArray, List.set_cons_zero, List.set_cons_succ]
              refine skip_at (i := 6) rfl (by kernel_rfl) (by kernel_rfl) (by kernel_rfl) (fun _ _ _ h => h) (by kernel_rfl) (by assumption) ?_
              simp only [Act.put, List.setIfInBounds_toArray, List.set_cons_zero, List.set_cons_succ]
              refine skip_at (i := 7) rfl (by kernel_rfl) (by kernel_rfl) (by kernel_rfl) (fun _ _ _ h => h) (by kernel_rfl) (by assumption) ?_
              simp only [Act.put, List.setIfInBounds_toArray, List.set_cons_zero, List.set_cons_succ]
              refine skip_at (i := 8) rfl (by kernel_rfl) (by kernel_rfl) (by kernel_rfl) (fun _ _ _ h => h) (by kernel_rfl) (by assumption) ?_
              simp only [Act.put, List.setIfInBounds_toArray, List.set_cons_zero, List.set_cons_succ]
              refine take_at (i := 9) (v := ?_) rfl (by kernel_rfl) (by kernel_rfl) (by kernel_rfl) (fun _ _ _ h => h) (by kernel_rfl) (by assumption) ?_ ?_
              rotate_left
              · (intro w hSw; (try dsimp only at hSw); go_simp; try with_reducible rfl)
              simp only [Act.put, List.setIfInBounds_toArray, List.set_cons_zero, List.set_cons_succ]
              refine take_at (i := 10) (v := ?_) rfl (by kernel_rfl) (by kernel_rfl) (by kernel_rfl) (fun _ _ _ h => h) (by kernel_rfl) (by assumption) ?_ ?_
              rotate_left
              · (intro w hSw; (try dsimp only at hSw); go_simp; try with_reducible rfl)
              simp only [Act.put, List.setIfInBounds_toArray, List.set_cons_zero, List.set_cons_succ]
              refine take_at (i := 11) (v := ?_) rfl (by kernel_rfl) (by kernel_rfl) (by kernel_rfl) (fun _ _ _ h => h) (by kernel_rfl) (by assumption) ?_ ?_
              rotate_left
              · (intro w hSw; (try dsimp only at hSw); go_simp; try with_reducible rfl)
              simp only [Act.put, List.setIfInBounds_toArray, List.set_cons_zero, List.set_cons_succ]
              refine take_at (i := 12) (v := ?_) rfl (by kernel_rfl) (by kernel_rfl) (by kernel_rfl) (fun _ _ _ h => h) (by kernel_rfl) (by assumption) ?_ ?_
              rotate_left
              · (intro w hSw; (try dsimp only at hSw); go_simp; try with_reducible rfl)
              simp only [Act.put, List.setIfInBounds_toArray, List.set_cons_zero, List.set_cons_succ]
              refine take_at (i := 13) (v := ?_) rfl (by kernel_rfl) (by kernel_rfl) (by kernel_rfl) (fun _ _ _ h => h) (by kernel_rfl) (by assumption) ?_ ?_
              rotate_left
              · (intro w hSw; (try dsimp only at hSw); go_simp; try with_reducible rfl)
              simp only [Act.put, List.setIfInBounds_toArray, List.set_cons_zero, List.set_cons_succ]
              refine take_at (i := 14) (v := ?_) rfl (by kernel_rfl) (by kernel_rfl) (by kernel_rfl) (fun _ _ _ h => h) (by kernel_rfl) (by assumption) ?_ ?_
              rotate_left
              · (intro w hSw; (try dsimp only at hSw); go_simp; try with_reducible rfl)
              simp only [Act.put, List.setIfInBounds_toArray, List.set_cons_zero, List.set_cons_succ]
              refine take_at (i := 15) (v := ?_) rfl (by kernel_rfl) (by kernel_rfl) (by kernel_rfl) (fun _ _ _ h => h) (by kernel_rfl) (by assumption) ?_ ?_
              rotate_left
              · (intro w hSw; (try dsimp only at hSw); go_simp; try with_reducible rfl)
              simp only [Act.put, List.setIfInBounds_toArray, List.set_cons_zero, List.set_cons_succ]
              refine take_at (i := 16) (v := ?_) rfl (by kernel_rfl) (by kernel_rfl) (by kernel_rfl) (fun _ _ _ h => h) (by kernel_rfl) (by assumption) ?_ ?_
              rotate_left
              · (intro w hSw; (try dsimp only at hSw); go_simp; try with_reducible rfl)
              simp only [Act.put, List.setIfInBounds_toArray, List.set_cons_zero, List.set_cons_succ]
              refine take_at (i := 17) (v := ?_) rfl (by kernel_rfl) (by kernel_rfl) (by kernel_rfl) (fun _ _ _ h => h) (by kernel_rfl) (by assumption) ?_ ?_
              rotate_left
              · (intro w hSw; (try dsimp only at hSw); go_simp; try with_reducible rfl)
              simp only [Act.put, List.setIfInBounds_toArray, List.set_cons_zero, List.set_cons_succ]
              as_aux_lemma =>
              refine take_at (i := 18) (v := ?_) rfl (by kernel_rfl) (by kernel_rfl) (by kernel_rfl) (fun _ _ _ h => h) (by kernel_rfl) (by assumption) ?_ ?_
              rotate_left
              · (intro w hSw; (try dsimp only at hSw); go_simp; try with_reducible rfl)
              simp only [Act.put, List.setIfInBounds_toArray, List.set_cons_zero, List.set_cons_succ]
              refine take_at (i := 19) (v := ?_) rfl (by kernel_rfl) (by kernel_rfl) (by kernel_rfl) (fun _ _ _ h => h) (by kernel_rfl) (by assumption) ?_ ?_
              rotate_left
              · (intro w hSw; (try dsimp only at hSw); go_simp; try with_reducible rfl)
              simp only [Act.put, List.setIfInBounds_toArray, List.set_cons_zero, List.set_cons_succ]
              refine take_at (i := 20) (v := ?_) rfl (by kernel_rfl) (by kernel_rfl) (by kernel_rfl) (fun _ _ _ h => h) (by kernel_rfl) (by assumption) ?_ ?_
              rotate_left
              · (intro w hSw; (try dsimp only at hSw); go_simp; try with_reducible rfl)
              simp only [Act.put, List.setIfInBounds_toArray, List.set_cons_zero, List.set_cons_succ]
              refine take_at (i := 21) (v := ?_) rfl (by kernel_rfl) (by kernel_rfl) (by kernel_rfl) (fun _ _ _ h => h) (by kernel_rfl) (by assumption) ?_ ?_
              rotate_left
              · (intro w hSw; (try dsimp only at hSw); go_simp; try with_reducible rfl)
              simp only [Act.put, List.setIfInBounds_toArray, List.set_cons_zero, List.set_cons_succ]
              refine take_at (i := 22) (v := ?_) rfl (by kernel_rfl) (by kernel_rfl) (by kernel_rfl) (fun _ _ _ h => h) (by kernel_rfl) (by assumption) ?_ ?_
              rotate_left
              · (intro w hSw; (try dsimp only at hSw); go_simp; try with_reducible rfl)
              simp only [Act.put, List.setIfInBounds_toArray, List.set_cons_zero, List.set_cons_succ]
              refine take_at (i := 23) (v := ?_) rfl (by kernel_rfl) (by kernel_rfl) (by kernel_rfl) (fun _ _ _ h => h) (by kernel_rfl) (by assumption) ?_ ?_
              rotate_left
              · (intro w hSw; (try dsimp only at hSw); go_simp; try with_reducible rfl)
              simp only [Act.put, List.setIfInBounds_toArray, List.set_cons_zero, List.set_cons_succ]
              refine take_at (i := 24) (v := ?_) rfl (by kernel_rfl) (by kernel_rfl) (by kernel_rfl) (fun _ _ _ h => h) (by kernel_rfl) (by assumption) ?_ ?_
              rotate_left
              · (intro w hSw; (try dsimp only at hSw); go_simp; try with_reducible rfl)
              simp only [Act.put, List.setIfInBounds_toArray, List.set_cons_zero, List.set_cons_succ]
              refine take_at (i := 25) (v := ?_) rfl (by kernel_rfl) (by kernel_rfl) (by kernel_rfl) (fun _ _ _ h => h) (by kernel_rfl) (by assumption) ?_ ?_
              rotate_left
              · (intro w hSw; (try dsimp only at hSw); go_simp; try with_reducible rfl)
              simp only [Act.put, List.setIfInBounds_toArray, List.set_cons_zero, List.set_cons_succ]
              refine take_at (i := 26) (v := ?_) rfl (by kernel_rfl) (by kernel_rfl) (by kernel_rfl) (fun _ _ _ h => h) (by kernel_rfl) (by assumption) ?_ ?_
              rotate_left
              · (intro w hSw; (try dsimp only at hSw); go_simp; try with_reducible rfl)
              simp only [Act.put, List.setIfInBounds_toArray, List.set_cons_zero, List.set_cons_succ]
              refine take_at (i := 27) (v := ?_) rfl (by kernel_rfl) (by kernel_rfl) (by kernel_rfl) (fun _ _ _ h => h) (by kernel_rfl) (by assumption) ?_ ?_
              rotate_left
              · (intro w hSw; (try dsimp only at hSw); go_simp; try with_reducible rfl)
              simp only [Act.put, List.setIfInBounds_toArray, List.set_cons_zero, List.set_cons_succ]
              refine take_at (i := 28) (v := ?_) rfl (by kernel_rfl) (by kernel_rfl) (by kernel_rfl) (fun _ _ _ h => h) (by kernel_rfl) (by assumption) ?_ ?_
              rotate_left
              · (intro w hSw; (try dsimp only at hSw); go_simp; try with_reducible rfl)
              simp only [Act.put, List.setIfInBounds_toArray, List.set_cons_zero, List.set_cons_succ]
              refine take_at (i := 29) (v := ?_) rfl (by kernel_rfl) (by kernel_rfl) (by kernel_rfl) (fun _ _ _ h => h) (by kernel_rfl) (by assumption) ?_ ?_
              rotate_left
              · (intro w hSw; (try dsimp only at hSw); go_simp; try with_reducible rfl)
              simp only [Act.put, List.setIfInBounds_toArray, List.set_cons_zero, List.set_cons_succ]
              refine take_at (i := 30) (v := ?_) rfl (by kernel_rfl) (by kernel_rfl) (by kernel_rfl) (fun _ _ _ h => h) (by kernel_rfl) (by assumption) ?_ ?_
              rotate_left
              · (intro w hSw; (try dsimp only at hSw); go_simp; try with_reducible rfl)
              simp only [Act.put, List.setIfInBounds_toArray, List.set_cons_zero, List.set_cons_succ]
              refine take_at (i := 31) (v := ?_) rfl (by kernel_rfl) (by kernel_rfl) (by kernel_rfl) (fun _ _ _ h => h) (by kernel_rfl) (by assumption) ?_ ?_
              rotate_left
              · (intro w hSw; (try dsimp only at hSw); go_simp; try with_reducible rfl)
              simp only [Act.put, List.setIfInBounds_toArray, List.set_cons_zero, List.set_cons_succ]
              as_aux_lemma =>
              refine take_at (i := 32) (v := ?_) rfl (by kernel_rfl) (by kernel_rfl) (by kernel_rfl) (fun _ _ _ h => h) (by kernel_rfl) (by assumption) ?_ ?_
              rotate_left
              · (intro w hSw; (try dsimp only at hSw); go_simp; try with_reducible rfl)
              simp only [Act.put, List.setIfInBounds_toArray, List.set_cons_zero, List.set_cons_succ]
              refine take_at (i := 33) (v := ?_) rfl (by kernel_rfl) (by kernel_rfl) (by kernel_rfl) (fun _ _ _ h => h) (by kernel_rfl) (by assumption) ?_ ?_
              rotate_left
              · (intro w hSw; (try dsimp only at hSw); go_simp; try with_reducible rfl)
              simp only [Act.put, List.setIfInBounds_toArray, List.set_cons_zero, List.set_cons_succ]
              refine take_at (i := 34) (v := ?_) rfl (by kernel_rfl) (by kernel_rfl) (by kernel_rfl) (fun _ _ _ h => h) (by kernel_rfl) (by assumption) ?_ ?_
              rotate_left
              · (intro w hSw; (try dsimp only at hSw); go_simp; try with_reducible rfl)
              simp only [Act.put, List.setIfInBounds_toArray, List.set_cons_zero, List.set_cons_succ]
              refine take_at (i := 35) (v := ?_) rfl (by kernel_rfl) (by kernel_rfl) (by kernel_rfl) (fun _ _ _ h => h) (by kernel_rfl) (by assumption) ?_ ?_
              rotate_left
              · (intro w hSw; (try dsimp only at hSw); go_simp; try with_reducible rfl)
              simp only [Act.put, List.setIfInBounds_toArray, List.set_cons_zero, List.set_cons_succ]
              refine take_at (i := 36) (v := ?_) rfl (by kernel_rfl) (by kernel_rfl) (by kernel_rfl) (fun _ _ _ h => h) (by kernel_rfl) (by assumption) ?_ ?_
              rotate_left
              · (intro w hSw; (try dsimp only at hSw); go_simp; try with_reducible rfl)
              simp only [Act.put, List.setIfInBounds_toArray, List.set_cons_zero, List.set_cons_succ]
              refine take_at (i := 37) (v := ?_) rfl (by kernel_rfl) (by kernel_rfl) (by kernel_rfl) (fun _ _ _ h => h) (by kernel_rfl) (by assumption) ?_ ?_
              rotate_left
              · (intro w hSw; (try dsimp only at hSw); go_simp; try with_reducible rfl)
              simp only [Act.put, List.setIfInBounds_toArray, List.set_cons_zero, List.set_cons_succ]
              refine take_at (i := 38) (v := ?_) rfl (by kernel_rfl) (by kernel_rfl) (by kernel_rfl) (fun _ _ _ h => h) (by kernel_rfl) (by assumption) ?_ ?_
              rotate_left
              · (intro w hSw; (try dsimp only at hSw); go_simp; try with_reducible rfl)
              simp only [Act.put, List.setIfInBounds_toArray, List.set_cons_zero, List.set_cons_succ]
              refine take_at (i := 39) (v := ?_) rfl (by kernel_rfl) (by kernel_rfl) (by kernel_rfl) (fun _ _ _ h => h) (by kernel_rfl) (by assumption) ?_ ?_
              rotate_left
              · (intro w hSw; (try dsimp only at hSw); go_simp; try with_reducible rfl)
              simp only [Act.put, List.setIfInBounds_toArray, List.set_cons_zero, List.set_cons_succ]
              refine take_at (i := 40) (v := ?_) rfl (by kernel_rfl) (by kernel_rfl) (by kernel_rfl) (fun _ _ _ h => h) (by kernel_rfl) (by assumption) ?_ ?_
              rotate_left
              · (intro w hSw; (try dsimp only at hSw); go_simp; try with_reducible rfl)
              simp only [Act.put, List.setIfInBounds_toArray, List.set_cons_zero, List.set_cons_succ]
              refine take_at (i := 41) (v := ?_) rfl (by kernel_rfl) (by kernel_rfl) (by kernel_rfl) (fun _ _ _ h => h) (by kernel_rfl) (by assumption) ?_ ?_
              rotate_left
              · (intro w hSw; (try dsimp only at hSw); go_simp; try with_reducible rfl)
              simp only [Act.put, List.setIfInBounds_toArray, List.set_cons_zero, List.set_cons_succ]
              refine take_at (i := 42) (v := ?_) rfl (by kernel_rfl) (by kernel_rfl) (by kernel_rfl) (fun _ _ _ h => h) (by kernel_rfl) (by assumption) ?_ ?_
              rotate_left
              · (intro w hSw; (try dsimp only at hSw); go_simp; try with_reducible rfl)
              simp only [Act.put, List.setIfInBounds_toArray, List.set_cons_zero, List.set_cons_succ]
              refine take_at (i := 43) (v := ?_) rfl (by kernel_rfl) (by kernel_rfl) (by kernel_rfl) (fun _ _ _ h => h) (by kernel_rfl) (by assumption) ?_ ?_
              rotate_left
              · (intro w hSw; (try dsimp only at hSw); go_simp; try with_reducible rfl)
              simp only [Act.put, List.setIfInBounds_toArray, List.set_cons_zero, List.set_cons_succ]
              refine take_at (i := 44) (v := ?_) rfl (by kernel_rfl) (by kernel_rfl) (by kernel_rfl) (fun _ _ _ h => h) (by kernel_rfl) (by assumption) ?_ ?_
              rotate_left
              · (intro w hSw; (try dsimp only at hSw); go_simp; try with_reducible rfl)
              simp only [Act.put, List.setIfInBounds_toArray, List.set_cons_zero, List.set_cons_succ]
              refine take_at (i := 45) (v := ?_) rfl (by kernel_rfl) (by kernel_rfl) (by kernel_rfl) (fun _ _ _ h => h) (by kernel_rfl) (by assumption) ?_ ?_
              rotate_left
              · (intro w hSw; (try dsimp only at hSw); go_simp; try with_reducible rfl)
              simp only [Act.put, List.setIfInBounds_toArray, List.set_cons_zero, List.set_cons_succ]
              as_aux_lemma =>
              refine take_at (i := 46) (v := ?_) rfl (by kernel_rfl) (by kernel_rfl) (by kernel_rfl) (fun _ _ _ h => h) (by kernel_rfl) (by assumption) ?_ ?_
              rotate_left
              · (intro w hSw; (try dsimp only at hSw); go_simp; try with_reducible rfl)
              simp only [Act.put, List.setIfInBounds_toArray, List.set_cons_zero, List.set_cons_succ]
              refine take_at (i := 47) (v := ?_) rfl (by kernel_rfl) (by kernel_rfl) (by kernel_rfl) (fun _ _ _ h => h) (by kernel_rfl) (by assumption) ?_ ?_
              rotate_left
              · (intro w hSw; (try dsimp only at hSw); go_simp; try with_reducible rfl)
              simp only [Act.put, List.setIfInBounds_toArray, List.set_cons_zero, List.set_cons_succ]
              refine take_at (i := 48) (v := ?_) rfl (by kernel_rfl) (by kernel_rfl) (by kernel_rfl) (fun _ _ _ h => h) (by kernel_rfl) (by assumption) ?_ ?_
              rotate_left
              · (intro w hSw; (try dsimp only at hSw); go_simp; try with_reducible rfl)
              simp only [Act.put, List.setIfInBounds_toArray, List.set_cons_zero, List.set_cons_succ]
              refine take_at (i := 49) (v := ?_) rfl (by kernel_rfl) (by kernel_rfl) (by kernel_rfl) (fun _ _ _ h => h) (by kernel_rfl) (by assumption) ?_ ?_
              rotate_left
              · (intro w hSw; (try dsimp only at hSw); go_simp; try with_reducible rfl)
              simp only [Act.put, List.setIfInBounds_toArray, List.set_cons_zero, List.set_cons_succ]
              refine take_at (i := 50) (v := ?_) rfl (by kernel_rfl) (by kernel_rfl) (by kernel_rfl) (fun _ _ _ h => h) (by kernel_rfl) (by assumption) ?_ ?_
              rotate_left
              · (intro w hSw; (try dsimp only at hSw); go_simp; try with_reducible rfl)
              simp only [Act.put, List.setIfInBounds_toArray, List.set_cons_zero, List.set_cons_succ]
              refine take_at (i := 51) (v := ?_) rfl (by kernel_rfl) (by kernel_rfl) (by kernel_rfl) (fun _ _ _ h => h) (by kernel_rfl) (by assumption) ?_ ?_
              rotate_left
              · (intro w hSw; (try dsimp only at hSw); go_simp; try with_reducible rfl)
              simp only [Act.put, List.setIfInBounds_toArray, List.set_cons_zero, List.set_cons_succ]
              refine take_at (i := 52) (v := ?_) rfl (by kernel_rfl) (by kernel_rfl) (by kernel_rfl) (fun _ _ _ h => h) (by kernel_rfl) (by assumption) ?_ ?_
              rotate_left
              · (intro w hSw; (try dsimp only at hSw); go_simp; try with_reducible rfl)
              simp only [Act.put, List.setIfInBounds_toArray, List.set_cons_zero, List.set_cons_succ]
              refine take_at (i := 53) (v := ?_) rfl (by kernel_rfl) (by kernel_rfl) (by kernel_rfl) (fun _ _ _ h => h) (by kernel_rfl) (by assumption) ?_ ?_
              rotate_left
              · (intro w hSw; (try dsimp only at hSw); go_simp; try with_reducible rfl)
              simp only [Act.put, List.setIfInBounds_toArray, List.set_cons_zero, List.set_cons_succ]
              refine take_at (i := 54) (v := ?_) rfl (by kernel_rfl) (by kernel_rfl) (by kernel_rfl) (fun _ _ _ h => h) (by kernel_rfl) (by assumption) ?_ ?_
              rotate_left
              · (intro w hSw; (try dsimp only at hSw); go_simp; try with_reducible rfl)
              simp only [Act.put, List.setIfInBounds_toArray, List.set_cons_zero, List.set_cons_succ]
              refine take_at (i := 55) (v := ?_) rfl (by kernel_rfl) (by kernel_rfl) (by kernel_rfl) (fun _ _ _ h => h) (by kernel_rfl) (by assumption) ?_ ?_
              rotate_left
              · (intro w hSw; (try dsimp only at hSw); go_simp; try with_reducible rfl)
              simp only [Act.put, List.setIfInBounds_toArray, List.set_cons_zero, List.set_cons_succ]
              refine take_at (i := 56) (v := ?_) rfl (by kernel_rfl) (by kernel_rfl) (by kernel_rfl) (fun _ _ _ h => h) (by kernel_rfl) (by assumption) ?_ ?_
              rotate_left
              · (intro w hSw; (try dsimp only at hSw); go_simp; try with_reducible rfl)
              simp only [Act.put, List.setIfInBounds_toArray, List.set_cons_zero, List.set_cons_succ]
              refine take_at (i := 57) (v := ?_) rfl (by kernel_rfl) (by kernel_rfl) (by kernel_rfl) (fun _ _ _ h => h) (by kernel_rfl) (by assumption) ?_ ?_
              rotate_left
              · (intro w hSw; (try dsimp only at hSw); go_simp; try with_reducible rfl)
              simp only [Act.put, List.setIfInBounds_toArray, List.set_cons_zero, List.set_cons_succ]
              refine take_at (i := 58) (v := ?_) rfl (by kernel_rfl) (by kernel_rfl) (by kernel_rfl) (fun _ _ _ h => h) (by kernel_rfl) (by assumption) ?_ ?_
              rotate_left
              · (intro w hSw; (try dsimp only at hSw); go_simp; try with_reducible rfl)
              simp only [Act.put, List.setIfInBounds_toArray, List.set_cons_zero, List.set_cons_succ]
              refine take_at (i := 59) (v := ?_) rfl (by kernel_rfl) (by kernel_rfl) (by kernel_rfl) (fun _ _ _ h => h) (by kernel_rfl) (by assumption) ?_ ?_
              rotate_left
              · (intro w hSw; (try dsimp only at hSw); go_simp; try with_reducible rfl)
              simp only [Act.put, List.setIfInBounds_toArray, List.set_cons_zero, List.set_cons_succ]
              as_aux_lemma =>
              refine take_at (i := 60) (v := ?_) rfl (by kernel_rfl) (by kernel_rfl) (by kernel_rfl) (fun _ _ _ h => h) (by kernel_rfl) (by assumption) ?_ ?_
              rotate_left
              · (intro w hSw; (try dsimp only at hSw); go_simp; try with_reducible rfl)
              simp only [Act.put, List.setIfInBounds_toArray, List.set_cons_zero, List.set_cons_succ]
              refine take_at (i := 61) (v := ?_) rfl (by kernel_rfl) (by kernel_rfl) (by kernel_rfl) (fun _ _ _ h => h) (by kernel_rfl) (by assumption) ?_ ?_
              rotate_left
              · (intro w hSw; (try dsimp only at hSw); go_simp; try with_reducible rfl)
              simp only [Act.put, List.setIfInBounds_toArray, List.set_cons_zero, List.set_cons_succ]
              refine wpAnyH_done (by kernel_rfl) ?_ _
              clear hHeld HS hq hqa
              go_wp2
              go_meet
              case rel => exact ⟨rfl, HU0⟩
            · have hge : e9 ≤ k := by have := half_out hHa; have := HE9.out; omega
              have HS := Lib.hid (show ∀ V, Below wr.heap.size wr V → (fun w' => w'.cell? ⟨h, q + k * 14, none⟩ = some (.int .i32 0) ∧ w'.cell? ⟨h, q + k * 14 + 1, none⟩ = some (.int .i32 0) ∧ w'.cell? ⟨h, q + k * 14 + 2, none⟩ = some (.int .i32 0) ∧ w'.cell? ⟨h, q + k * 14 + 3, none⟩ = some (.int .u8 0) ∧ w'.cell? ⟨h, q + k * 14 + 4, none⟩ = some (.int .u8 cc.a.fg.k) ∧ w'.cell? ⟨h, q + k * 14 + 5, none⟩ = some (.int .u8 cc.a.fg.r) ∧ w'.cell? ⟨h, q + k * 14 + 6, none⟩ = some (.int .u8 cc.a.fg.g) ∧ w'.cell? ⟨h, q + k * 14 + 7, none⟩ = some (.int .u8 cc.a.fg.b) ∧ w'.cell? ⟨h, q + k * 14 + 8, none⟩ = some (.int .u8 cc.a.bg.k) ∧ w'.cell? ⟨h, q + k * 14 + 9, none⟩ = some (.int .u8 cc.a.bg.r) ∧ w'.cell? ⟨h, q + k * 14 + 10, none⟩ = some (.int .u8 cc.a.bg.g) ∧ w'.cell? ⟨h, q + k * 14 + 11, none⟩ = some (.int .u8 cc.a.bg.b) ∧ w'.cell? ⟨h, q + k * 14 + 12, none⟩ = some (.int .u16 (cc.a.fl : Nat)) ∧ w'.cell? ⟨h, q + k * 14 + 13, none⟩ = some (.int .u8 cc.l) ∧ w'.cell? ⟨g, o + k * 14, none⟩ = some (.int .i32 cc.ru) ∧ w'.cell? ⟨g, o + k * 14 + 1, none⟩ = some (.int .i32 cc.m0) ∧ w'.cell? ⟨g, o + k * 14 + 2, none⟩ = some (.int .i32 cc.m1) ∧ w'.cell? ⟨g, o + k * 14 + 3, none⟩ = some (.int .u8 cc.k) ∧ w'.cell? ⟨g, o + k * 14 + 4, none⟩ = some (.int .u8 cc.a.fg.k) ∧ w'.cell? ⟨g, o + k * 14 + 5, none⟩ = some (.int .u8 cc.a.fg.r) ∧ w'.cell? ⟨g, o + k * 14 + 6, none⟩ = some (.int .u8 cc.a.fg.g) ∧ w'.cell? ⟨g, o + k * 14 + 7, none⟩ = some (.int .u8 cc.a.fg.b) ∧ w'.cell? ⟨g, o + k * 14 + 8, none⟩ = some (.int .u8 cc.a.bg.k) ∧ w'.cell? ⟨g, o + k * 14 + 9, none⟩ = some (.int .u8 cc.a.bg.r) ∧ w'.cell? ⟨g, o + k * 14 + 10, none⟩ = some (.int .u8 cc.a.bg.g) ∧ w'.cell? ⟨g, o + k * 14 + 11, none⟩ = some (.int .u8 cc.a.bg.b) ∧ w'.cell? ⟨g, o + k * 14 + 12, none⟩ = some (.int .u16 (cc.a.fl : Nat)) ∧ w'.cell? ⟨g, o + k * 14 + 13, none⟩ = some (.int .u8 cc.l)) V from fun V hv => by
                have h1 := HBT.out.same (hv.block h HH.out)
                have h2 := HAT.out.same (hv.block g HG.out)
                rw [hbare] at h1
                obtain ⟨a0, a1, a2, a3, a4, a5, a6, a7, a8, a9, a10, a11, a12, a13⟩ := h1
                exact ⟨a0, a1, a2, a3, a4, a5, a6, a7, a8, a9, a10, a11, a12, a13, h2⟩)
              dsimp only at HS
              have hq : ∀ w, (Op.equalIn 10000 44 (.agg #[.int .i32 0, .int .i32 0, .int .i32 0, .int .u8 0, .int .u8 cc.a.fg.k, .int .u8 cc.a.fg.r, .int .u8 cc.a.fg.g, .int .u8 cc.a.fg.b, .int .u8 cc.a.bg.k, .int .u8 cc.a.bg.r, .int .u8 cc.a.bg.g, .int .u8 cc.a.bg.b, .int .u16 (cc.a.fl : Nat), .int .u8 cc.l]) (celV cc)).run Try.prog w = .ok false w := fun w => by
                have hne : cc.bare ≠ cc := fun e => half_k hHa (by rw [← HCC.out, ← e]; rfl)
                have := eqCel w cc.bare cc
                rw [decide_eq_false hne] at this
                exact this
              have hqa := fun w => eqAttN 9997 w cc.a cc.a
              simp only [eqA_self] at hqa
              have k1 : ¬ (k : Int) < (P : Int) := by omega
              have k1d : decide ((k : Int) < (P : Int)) = false := decide_eq_false k1
              have k1n : decide (k < P) = false := decide_eq_false (by omega)
              have k2 : (e9 : Int) ≤ (k : Int) := by omega
              have k2d : decide ((e9 : Int) ≤ (k : Int)) = true := decide_eq_true k2
              have k2n : decide (e9 ≤ k) = true := decide_eq_true (by omega)
              clear hHa hbare hlo hge hv
              as_aux_lemma =>
              refine wp_region_held_drew (S := fun w' => w'.cell? ⟨h, q + k * 14, none⟩ = some (.int .i32 0) ∧ w'.cell? ⟨h, q + k * 14 + 1, none⟩ = some (.int .i32 0) ∧ w'.cell? ⟨h, q + k * 14 + 2, none⟩ = some (.int .i32 0) ∧ w'.cell? ⟨h, q + k * 14 + 3, none⟩ = some (.int .u8 0) ∧ w'.cell? ⟨h, q + k * 14 + 4, none⟩ = some (.int .u8 cc.a.fg.k) ∧ w'.cell? ⟨h, q + k * 14 + 5, none⟩ = some (.int .u8 cc.a.fg.r) ∧ w'.cell? ⟨h, q + k * 14 + 6, none⟩ = some (.int .u8 cc.a.fg.g) ∧ w'.cell? ⟨h, q + k * 14 + 7, none⟩ = some (.int .u8 cc.a.fg.b) ∧ w'.cell? ⟨h, q + k * 14 + 8, none⟩ = some (.int .u8 cc.a.bg.k) ∧ w'.cell? ⟨h, q + k * 14 + 9, none⟩ = some (.int .u8 cc.a.bg.r) ∧ w'.cell? ⟨h, q + k * 14 + 10, none⟩ = some (.int .u8 cc.a.bg.g) ∧ w'.cell? ⟨h, q + k * 14 + 11, none⟩ = some (.int .u8 cc.a.bg.b) ∧ w'.cell? ⟨h, q + k * 14 + 12, none⟩ = some (.int .u16 (cc.a.fl : Nat)) ∧ w'.cell? ⟨h, q + k * 14 + 13, none⟩ = some (.int .u8 cc.l) ∧ w'.cell? ⟨g, o + k * 14, none⟩ = some (.int .i32 cc.ru) ∧ w'.cell? ⟨g, o + k * 14 + 1, none⟩ = some (.int .i32 cc.m0) ∧ w'.cell? ⟨g, o + k * 14 + 2, none⟩ = some (.int .i32 cc.m1) ∧ w'.cell? ⟨g, o + k * 14 + 3, none⟩ = some (.int .u8 cc.k) ∧ w'.cell? ⟨g, o + k * 14 + 4, none⟩ = some (.int .u8 cc.a.fg.k) ∧ w'.cell? ⟨g, o + k * 14 + 5, none⟩ = some (.int .u8 cc.a.fg.r) ∧ w'.cell? ⟨g, o + k * 14 + 6, none⟩ = some (.int .u8 cc.a.fg.g) ∧ w'.cell? ⟨g, o + k * 14 + 7, none⟩ = some (.int .u8 cc.a.fg.b) ∧ w'.cell? ⟨g, o + k * 14 + 8, none⟩ = some (.int .u8 cc.a.bg.k) ∧ w'.cell? ⟨g, o + k * 14 + 9, none⟩ = some (.int .u8 cc.a.bg.r) ∧ w'.cell? ⟨g, o + k * 14 + 10, none⟩ = some (.int .u8 cc.a.bg.g) ∧ w'.cell? ⟨g, o + k * 14 + 11, none⟩ = some (.int .u8 cc.a.bg.b) ∧ w'.cell? ⟨g, o + k * 14 + 12, none⟩ = some (.int .u16 (cc.a.fl : Nat)) ∧ w'.cell? ⟨g, o + k * 14 + 13, none⟩ = some (.int .u8 cc.l)) (by kernel_rfl) ?_ (fun hHeld => ?_)
              · exact HS.out _ ⟨rfl, rfl, rfl, Nat.le_refl _, fun _ _ => rfl⟩
              obtain ⟨u0, hu0⟩ : ∃ y, y = wr.drew := ⟨_, rfl⟩
              have bd : Below wr.heap.size wr u0 := by rw [hu0]; exact ⟨rfl, rfl, rfl, Nat.le_refl _, fun _ _ => rfl⟩
              have HU0 := Lib.hid bd
              replace hHeld := HS.out _ bd
              rw [← hu0]
              clear hu0 bd
              refine take_at (i := 0) (v := ?_) rfl (by kernel_rfl) (by kernel_rfl) (by kernel_rfl) (fun _ _ _ h => h) (by kernel_rfl) (by assumption) ?_ ?_
              rotate_left
              · (intro w hSw; (try dsimp only at hSw); go_simp; try with_reducible rfl)
              simp only [Act.put, List.setIfInBounds_toArray, List.set_cons_zero, List.set_cons_succ]
              refine take_at (i := 1) (v := ?_) rfl (by kernel_rfl) (by kernel_rfl) (by kernel_rfl) (fun _ _ _ h => h) (by kernel_rfl) (by assumption) ?_ ?_
              rotate_left
              · (intro w hSw; (try dsimp only at hSw); go_simp; try with_reducible rfl)
              simp only [Act.put, List.setIfInBounds_toArray, List.set_cons_zero, List.set_cons_succ]
              refine take_at (i := 2) (v := ?_) rfl (by kernel_rfl) (by kernel_rfl) (by kernel_rfl) (fun _ _ _ h => h) (by kernel_rfl) (by assumption) ?_ ?_
              rotate_left
              · (intro w hSw; (try dsimp only at hSw); go_simp; try with_reducible rfl)
              simp only [Act.put, List.setIfInBounds_toArray, List.set_cons_zero, List.set_cons_succ]
              refine take_at (i := 3) (v := ?_) rfl (by kernel_rfl) (by kernel_rfl) (by kernel_rfl) (fun _ _ _ h => h) (by kernel_rfl) (by assumption) ?_ ?_
              rotate_left
              · (intro w hSw; (try dsimp only at hSw); go_simp; try with_reducible rfl)
              simp only [Act.put, List.setIfInBounds_toArray, List.set_cons_zero, List.set_cons_succ]
              refine take_at (i := 4) (v := ?_) rfl (by kernel_rfl) (by kernel_rfl) (by kernel_rfl) (fun _ _ _ h => h) (by kernel_rfl) (by assumption) ?_ ?_
              rotate_left
              · (intro w hSw; (try dsimp only at hSw); go_simp; try with_reducible rfl)
              simp only [Act.put, List.setIfInBounds_toArray, List.set_cons_zero, List.set_cons_succ]
              refine take_at (i := 5) (v := ?_) rfl (by kernel_rfl) (by kernel_rfl) (by kernel_rfl) (fun _ _ _ h => h) (by kernel_rfl) (by assumption) ?_ ?_
              rotate_left
              · (intro w hSw; (try dsimp only at hSw); go_simp; try with_reducible rfl)
              simp only [Act.put, List.setIfInBounds_toArray, List.set_cons_zero, List.set_cons_succ]
              refine take_at (i := 6) (v := ?_) rfl (by kernel_rfl) (by kernel_rfl) (by kernel_rfl) (fun _ _ _ h => h) (by kernel_rfl) (by assumption) ?_ ?_
              rotate_left
              · (intro w hSw; (try dsimp only at hSw); go_simp; try with_reducible rfl)
              simp only [Act.put, List.setIfInBounds_toArray, List.set_cons_zero, List.set_cons_succ]
              refine take_at (i := 7) (v := ?_) rfl (by kernel_rfl) (by kernel_rfl) (by kernel_rfl) (fun _ _ _ h => h) (by kernel_rfl) (by assumption) ?_ ?_
              rotate_left
              · (intro w hSw; (try dsimp only at hSw); go_simp; try with_reducible rfl)
              simp only [Act.put, List.setIfInBounds_toArray, List.set_cons_zero, List.set_cons_succ]
              refine take_at (i := 8) (v := ?_) rfl (by kernel_rfl) (by kernel_rfl) (by kernel_rfl) (fun _ _ _ h => h) (by kernel_rfl) (by assumption) ?_ ?_
              rotate_left
              · (intro w hSw; (try dsimp only at hSw); go_simp; try with_reducible rfl)
              simp only [Act.put, List.setIfInBounds_toArray, List.set_cons_zero, List.set_cons_succ]
              refine take_at (i := 9) (v := ?_) rfl (by kernel_rfl) (by kernel_rfl) (by kernel_rfl) (fun _ _ _ h => h) (by kernel_rfl) (by assumption) ?_ ?_
              rotate_left
              · (intro w hSw; (try dsimp only at hSw); go_simp; try with_reducible rfl)
              simp only [Act.put, List.setIfInBounds_toArray, List.set_cons_zero, List.set_cons_succ]
              refine take_at (i := 10) (v := ?_) rfl (by kernel_rfl) (by kernel_rfl) (by kernel_rfl) (fun _ _ _ h => h) (by kernel_rfl) (by assumption) ?_ ?_
              rotate_left
              · (intro w hSw; (try dsimp only at hSw); go_simp; try with_reducible rfl)
              simp only [Act.put, List.setIfInBounds_toArray, List.set_cons_zero, List.set_cons_succ]
              refine take_at (i := 11) (v := ?_) rfl (by kernel_rfl) (by kernel_rfl) (by kernel_rfl) (fun _ _ _ h => h) (by kernel_rfl) (by assumption) ?_ ?_
              rotate_left
              · (intro w hSw; (try dsimp only at hSw); go_simp; try with_reducible rfl)
              simp only [Act.put, List.setIfInBounds_toArray, List.set_cons_zero, List.set_cons_succ]
              refine take_at (i := 12) (v := ?_) rfl (by kernel_rfl) (by kernel_rfl) (by kernel_rfl) (fun _ _ _ h => h) (by kernel_rfl) (by assumption) ?_ ?_
              rotate_left
              · (intro w hSw; (try dsimp only at hSw); go_simp; try with_reducible rfl)
              simp only [Act.put, List.setIfInBounds_toArray, List.set_cons_zero, List.set_cons_succ]
              as_aux_lemma =>
              refine take_at (i := 13) (v := ?_) rfl (by kernel_rfl) (by kernel_rfl) (by kernel_rfl) (fun _ _ _ h => h) (by kernel_rfl) (by assumption) ?_ ?_
              rotate_left
              · (intro w hSw; (try dsimp only at hSw); go_simp; try with_reducible rfl)
              simp only [Act.put, List.setIfInBounds_toArray, List.set_cons_zero, List.set_cons_succ]
              refine take_at (i := 14) (v := ?_) rfl (by kernel_rfl) (by kernel_rfl) (by kernel_rfl) (fun _ _ _ h => h) (by kernel_rfl) (by assumption) ?_ ?_
              rotate_left
              · (intro w hSw; (try dsimp only at hSw); go_simp; try with_reducible rfl)
              simp only [Act.put, List.setIfInBounds_toArray, List.set_cons_zero, List.set_cons_succ]
              refine take_at (i := 15) (v := ?_) rfl (by kernel_rfl) (by kernel_rfl) (by kernel_rfl) (fun _ _ _ h => h) (by kernel_rfl) (by assumption) ?_ ?_
              rotate_left
              · (intro w hSw; (try dsimp only at hSw); go_simp; try with_reducible rfl)
              simp only [Act.put, List.setIfInBounds_toArray, List.set_cons_zero, List.set_cons_succ]
              refine take_at (i := 16) (v := ?_) rfl (by kernel_rfl) (by kernel_rfl) (by kernel_rfl) (fun _ _ _ h => h) (by kernel_rfl) (by assumption) ?_ ?_
              rotate_left
              · (intro w hSw; (try dsimp only at hSw); go_simp; try with_reducible rfl)
              simp only [Act.put, List.setIfInBounds_toArray, List.set_cons_zero, List.set_cons_succ]
              refine take_at (i := 17) (v := ?_) rfl (by kernel_rfl) (by kernel_rfl) (by kernel_rfl) (fun _ _ _ h => h) (by kernel_rfl) (by assumption) ?_ ?_
              rotate_left
              · (intro w hSw; (try dsimp only at hSw); go_simp; try with_reducible rfl)
              simp only [Act.put, List.setIfInBounds_toArray, List.set_cons_zero, List.set_cons_succ]
              refine take_at (i := 18) (v := ?_) rfl (by kernel_rfl) (by kernel_rfl) (by kernel_rfl) (fun _ _ _ h => h) (by kernel_rfl) (by assumption) ?_ ?_
              rotate_left
              · (intro w hSw; (try dsimp only at hSw); go_simp; try with_reducible rfl)
              simp only [Act.put, List.setIfInBounds_toArray, List.set_cons_zero, List.set_cons_succ]
              refine take_at (i := 19) (v := ?_) rfl (by kernel_rfl) (by kernel_rfl) (by kernel_rfl) (fun _ _ _ h => h) (by kernel_rfl) (by assumption) ?_ ?_
              rotate_left
              · (intro w hSw; (try dsimp only at hSw); go_simp; try with_reducible rfl)
              simp only [Act.put, List.setIfInBounds_toArray, List.set_cons_zero, List.set_cons_succ]
              refine take_at (i := 20) (v := ?_) rfl (by kernel_rfl) (by kernel_rfl) (by kernel_rfl) (fun _ _ _ h => h) (by kernel_rfl) (by assumption) ?_ ?_
              rotate_left
              · (intro w hSw; (try dsimp only at hSw); go_simp; try with_reducible rfl)
              simp only [Act.put, List.setIfInBounds_toArray, List.set_cons_zero, List.set_cons_succ]
              refine take_at (i := 21) (v := ?_) rfl (by kernel_rfl) (by kernel_rfl) (by kernel_rfl) (fun _ _ _ h => h) (by kernel_rfl) (by assumption) ?_ ?_
              rotate_left
              · (intro w hSw; (try dsimp only at hSw); go_simp; try with_reducible rfl)
              simp only [Act.put, List.setIfInBounds_toArray, List.set_cons_zero, List.set_cons_succ]
              refine take_at (i := 22) (v := ?_) rfl (by kernel_rfl) (by kernel_rfl) (by kernel_rfl) (fun _ _ _ h => h) (by kernel_rfl) (by assumption) ?_ ?_
              rotate_left
              · (intro w hSw; (try dsimp only at hSw); go_simp; try with_reducible rfl)
              simp only [Act.put, List.setIfInBounds_toArray, List.set_cons_zero, List.set_cons_succ]
              refine take_at (i := 23) (v := ?_) rfl (by kernel_rfl) (by kernel_rfl) (by kernel_rfl) (fun _ _ _ h => h) (by kernel_rfl) (by assumption) ?_ ?_
              rotate_left
              · (intro w hSw; (try dsimp only at hSw); go_simp; try with_reducible rfl)
              simp only [Act.put, List.setIfInBounds_toArray, List.set_cons_zero, List.set_cons_succ]
              refine take_at (i := 24) (v := ?_) rfl (by kernel_rfl) (by kernel_rfl) (by kernel_rfl) (fun _ _ _ h => h) (by kernel_rfl) (by assumption) ?_ ?_
              rotate_left
              · (intro w hSw; (try dsimp only at hSw); go_simp; try with_reducible rfl)
              simp only [Act.put, List.setIfInBounds_toArray, List.set_cons_zero, List.set_cons_succ]
              refine take_at (i := 25) (v := ?_) rfl (by kernel_rfl) (by kernel_rfl) (by kernel_rfl) (fun _ _ _ h => h) (by kernel_rfl) (by assumption) ?_ ?_
              rotate_left
              · (intro w hSw; (try dsimp only at hSw); go_simp; try with_reducible rfl)
              simp only [Act.put, List.setIfInBounds_toArray, List.set_cons_zero, List.set_cons_succ]
              refine take_at (i := 26) (v := ?_) rfl (by kernel_rfl) (by kernel_rfl) (by kernel_rfl) (fun _ _ _ h => h) (by kernel_rfl) (by assumption) ?_ ?_
              rotate_left
              · (intro w hSw; (try dsimp only at hSw); go_simp; try with_reducible rfl)
              simp only [Act.put, List.setIfInBounds_toArray, List.set_cons_zero, List.set_cons_succ]
              as_aux_lemma =>
              refine take_at (i := 27) (v := ?_) rfl (by kernel_rfl) (by kernel_rfl) (by kernel_rfl) (fun _ _ _ h => h) (by kernel_rfl) (by assumption) ?_ ?_
              rotate_left
              · (intro w hSw; (try dsimp only at hSw); go_simp; try with_reducible rfl)
              simp only [Act.put, List.setIfInBounds_toArray, List.set_cons_zero, List.set_cons_succ]
              refine take_at (i := 28) (v := ?_) rfl (by kernel_rfl) (by kernel_rfl) (by kernel_rfl) (fun _ _ _ h => h) (by kernel_rfl) (by assumption) ?_ ?_
              rotate_left
              · (intro w hSw; (try dsimp only at hSw); go_simp; try with_reducible rfl)
              simp only [Act.put, List.setIfInBounds_toArray, List.set_cons_zero, List.set_cons_succ]
              refine take_at (i := 29) (v := ?_) rfl (by kernel_rfl) (by kernel_rfl) (by kernel_rfl) (fun _ _ _ h => h) (by kernel_rfl) (by assumption) ?_ ?_
              rotate_left
              · (intro w hSw; (try dsimp only at hSw); go_simp; try with_reducible rfl)
              simp only [Act.put, List.setIfInBounds_toArray, List.set_cons_zero, List.set_cons_succ]
              refine take_at (i := 30) (v := ?_) rfl (by kernel_rfl) (by kernel_rfl) (by kernel_rfl) (fun _ _ _ h => h) (by kernel_rfl) (by assumption) ?_ ?_
              rotate_left
              · (intro w hSw; (try dsimp only at hSw); go_simp; try with_reducible rfl)
              simp only [Act.put, List.setIfInBounds_toArray, List.set_cons_zero, List.set_cons_succ]
              refine take_at (i := 31) (v := ?_) rfl (by kernel_rfl) (by kernel_rfl) (by kernel_rfl) (fun _ _ _ h => h) (by kernel_rfl) (by assumption) ?_ ?_
              rotate_left
              · (intro w hSw; (try dsimp only at hSw); go_simp; try with_reducible rfl)
              simp only [Act.put, List.setIfInBounds_toArray, List.set_cons_zero, List.set_cons_succ]
              refine take_at (i := 32) (v := ?_) rfl (by kernel_rfl) (by kernel_rfl) (by kernel_rfl) (fun _ _ _ h => h) (by kernel_rfl) (by assumption) ?_ ?_
              rotate_left
              · (intro w hSw; (try dsimp only at hSw); go_simp; try with_reducible rfl)
              simp only [Act.put, List.setIfInBounds_toArray, List.set_cons_zero, List.set_cons_succ]
              refine take_at (i := 33) (v := ?_) rfl (by kernel_rfl) (by kernel_rfl) (by kernel_rfl) (fun _ _ _ h => h) (by kernel_rfl) (by assumption) ?_ ?_
              rotate_left
              · (intro w hSw; (try dsimp only at hSw); go_simp; try with_reducible rfl)
              simp only [Act.put, List.setIfInBounds_toArray, List.set_cons_zero, List.set_cons_succ]
              refine take_at (i := 34) (v := ?_) rfl (by kernel_rfl) (by kernel_rfl) (by kernel_rfl) (fun _ _ _ h => h) (by kernel_rfl) (by assumption) ?_ ?_
              rotate_left
              · (intro w hSw; (try dsimp only at hSw); go_simp; try with_reducible rfl)
              simp only [Act.put, List.setIfInBounds_toArray, List.set_cons_zero, List.set_cons_succ]
              refine take_at (i := 35) (v := ?_) rfl (by kernel_rfl) (by kernel_rfl) (by kernel_rfl) (fun _ _ _ h => h) (by kernel_rfl) (by assumption) ?_ ?_
              rotate_left
              · (intro w hSw; (try dsimp only at hSw); go_simp; try with_reducible rfl)
              simp only [Act.put, List.setIfInBounds_toArray, List.set_cons_zero, List.set_cons_succ]
              refine take_at (i := 36) (v := ?_) rfl (by kernel_rfl) (by kernel_rfl) (by kernel_rfl) (fun _ _ _ h => h) (by kernel_rfl) (by assumption) ?_ ?_
              rotate_left
              · (intro w hSw; (try dsimp only at hSw); go_simp; try with_reducible rfl)
              simp only [Act.put, List.setIfInBounds_toArray, List.set_cons_zero, List.set_cons_succ]
              refine take_at (i := 37) (v := ?_) rfl (by kernel_rfl) (by kernel_rfl) (by kernel_rfl) (fun _ _ _ h => h) (by kernel_rfl) (by assumption) ?_ ?_
              rotate_left
              · (intro w hSw; (try dsimp only at hSw); go_simp; try with_reducible rfl)
              simp only [Act.put, List.setIfInBounds_toArray, List.set_cons_zero, List.set_cons_succ]
              refine take_at (i := 38) (v := ?_) rfl (by kernel_rfl) (by kernel_rfl) (by kernel_rfl) (fun _ _ _ h => h) (by kernel_rfl) (by assumption) ?_ ?_
              rotate_left
              · (intro w hSw; (try dsimp only at hSw); go_simp; try with_reducible rfl)
              simp only [Act.put, List.setIfInBounds_toArray, List.set_cons_zero, List.set_cons_succ]
              refine take_at (i := 39) (v := ?_) rfl (by kernel_rfl) (by kernel_rfl) (by kernel_rfl) (fun _ _ _ h => h) (by kernel_rfl) (by assumption) ?_ ?_
              rotate_left
              · (intro w hSw; (try dsimp only at hSw); go_simp; try with_reducible rfl)
              simp only [Act.put, List.setIfInBounds_toArray, List.set_cons_zero, List.set_cons_succ]
              refine take_at (i := 40) (v := ?_) rfl (by kernel_rfl) (by kernel_rfl) (by kernel_rfl) (fun _ _ _ h => h) (by kernel_rfl) (by assumption) ?_ ?_
              rotate_left
              · (intro w hSw; (try dsimp only at hSw); go_simp; try with_reducible rfl)
              simp only [Act.put, List.setIfInBounds_toArray, List.set_cons_zero, List.set_cons_succ]
              as_aux_lemma =>
              refine take_at (i := 41) (v := ?_) rfl (by kernel_rfl) (by kernel_rfl) (by kernel_rfl) (fun _ _ _ h => h) (by kernel_rfl) (by assumption) ?_ ?_
              rotate_left
              · (intro w hSw; (try dsimp only at hSw); go_simp; try with_reducible rfl)
              simp only [Act.put, List.setIfInBounds_toArray, List.set_cons_zero, List.set_cons_succ]
              refine take_at (i := 42) (v := ?_) rfl (by kernel_rfl) (by kernel_rfl) (by kernel_rfl) (fun _ _ _ h => h) (by kernel_rfl) (by assumption) ?_ ?_
              rotate_left
              · (intro w hSw; (try dsimp only at hSw); go_simp; try with_reducible rfl)
              simp only [Act.put, List.setIfInBounds_toArray, List.set_cons_zero, List.set_cons_succ]
              refine take_at (i := 43) (v := ?_) rfl (by kernel_rfl) (by kernel_rfl) (by kernel_rfl) (fun _ _ _ h => h) (by kernel_rfl) (by assumption) ?_ ?_
              rotate_left
              · (intro w hSw; (try dsimp only at hSw); go_simp; try with_reducible rfl)
              simp only [Act.put, List.setIfInBounds_toArray, List.set_cons_zero, List.set_cons_succ]
              refine take_at (i := 44) (v := ?_) rfl (by kernel_rfl) (by kernel_rfl) (by kernel_rfl) (fun _ _ _ h => h) (by kernel_rfl) (by assumption) ?_ ?_
              rotate_left
              · (intro w hSw; (try dsimp only at hSw); go_simp; try with_reducible rfl)
              simp only [Act.put, List.setIfInBounds_toArray, List.set_cons_zero, List.set_cons_succ]
              refine take_at (i := 45) (v := ?_) rfl (by kernel_rfl) (by kernel_rfl) (by kernel_rfl) (fun _ _ _ h => h) (by kernel_rfl) (by assumption) ?_ ?_
              rotate_left
              · (intro w hSw; (try dsimp only at hSw); go_simp; try with_reducible rfl)
              simp only [Act.put, List.setIfInBounds_toArray, List.set_cons_zero, List.set_cons_succ]
              refine take_at (i := 46) (v := ?_) rfl (by kernel_rfl) (by kernel_rfl) (by kernel_rfl) (fun _ _ _ h => h) (by kernel_rfl) (by assumption) ?_ ?_
              rotate_left
              · (intro w hSw; (try dsimp only at hSw); go_simp; try with_reducible rfl)
              simp only [Act.put, List.setIfInBounds_toArray, List.set_cons_zero, List.set_cons_succ]
              refine take_at (i := 47) (v := ?_) rfl (by kernel_rfl) (by kernel_rfl) (by kernel_rfl) (fun _ _ _ h => h) (by kernel_rfl) (by assumption) ?_ ?_
              rotate_left
              · (intro w hSw; (try dsimp only at hSw); go_simp; try with_reducible rfl)
              simp only [Act.put, List.setIfInBounds_toArray, List.set_cons_zero, List.set_cons_succ]
              refine take_at (i := 48) (v := ?_) rfl (by kernel_rfl) (by kernel_rfl) (by kernel_rfl) (fun _ _ _ h => h) (by kernel_rfl) (by assumption) ?_ ?_
              rotate_left
              · (intro w hSw; (try dsimp only at hSw); go_simp; try with_reducible rfl)
              simp only [Act.put, List.setIfInBounds_toArray, List.set_cons_zero, List.set_cons_succ]
              refine take_at (i := 49) (v := ?_) rfl (by kernel_rfl) (by kernel_rfl) (by kernel_rfl) (fun _ _ _ h => h) (by kernel_rfl) (by assumption) ?_ ?_
              rotate_left
              · (intro w hSw; (try dsimp only at hSw); go_simp; try with_reducible rfl)
              simp only [Act.put, List.setIfInBounds_toArray, List.set_cons_zero, List.set_cons_succ]
              refine take_at (i := 50) (v := ?_) rfl (by kernel_rfl) (by kernel_rfl) (by kernel_rfl) (fun _ _ _ h => h) (by kernel_rfl) (by assumption) ?_ ?_
              rotate_left
              · (intro w hSw; (try dsimp only at hSw); go_simp; try with_reducible rfl)
              simp only [Act.put, List.setIfInBounds_toArray, List.set_cons_zero, List.set_cons_succ]
              refine take_at (i := 51) (v := ?_) rfl (by kernel_rfl) (by kernel_rfl) (by kernel_rfl) (fun _ _ _ h => h) (by kernel_rfl) (by assumption) ?_ ?_
              rotate_left
              · (intro w hSw; (try dsimp only at hSw); go_simp; try with_reducible rfl)
              simp only [Act.put, List.setIfInBounds_toArray, List.set_cons_zero, List.set_cons_succ]
              refine take_at (i := 52) (v := ?_) rfl (by kernel_rfl) (by kernel_rfl) (by kernel_rfl) (fun _ _ _ h => h) (by kernel_rfl) (by assumption) ?_ ?_
              rotate_left
              · (intro w hSw; (try dsimp only at hSw); go_simp; try with_reducible rfl)
              simp only [Act.put, List.setIfInBounds_toArray, List.set_cons_zero, List.set_cons_succ]
              refine take_at (i := 53) (v := ?_) rfl (by kernel_rfl) (by kernel_rfl) (by kernel_rfl) (fun _ _ _ h => h) (by kernel_rfl) (by assumption) ?_ ?_
              rotate_left
              · (intro w hSw; (try dsimp only at hSw); go_simp; try with_reducible rfl)
              simp only [Act.put, List.setIfInBounds_toArray, List.set_cons_zero, List.set_cons_succ]
              refine take_at (i := 54) (v := ?_) rfl (by kernel_rfl) (by kernel_rfl) (by kernel_rfl) (fun _ _ _ h => h) (by kernel_rfl) (by assumption) ?_ ?_
              rotate_left
              · (intro w hSw; (try dsimp only at hSw); go_simp; try with_reducible rfl)
              simp only [Act.put, List.setIfInBounds_toArray, List.set_cons_zero, List.set_cons_succ]
              as_aux_lemma =>
              refine take_at (i := 55) (v := ?_) rfl (by kernel_rfl) (by kernel_rfl) (by kernel_rfl) (fun _ _ _ h => h) (by kernel_rfl) (by assumption) ?_ ?_
              rotate_left
              · (intro w hSw; (try dsimp only at hSw); go_simp; try with_reducible rfl)
              simp only [Act.put, List.setIfInBounds_toArray, List.set_cons_zero, List.set_cons_succ]
              refine take_at (i := 56) (v := ?_) rfl (by kernel_rfl) (by kernel_rfl) (by kernel_rfl) (fun _ _ _ h => h) (by kernel_rfl) (by assumption) ?_ ?_
              rotate_left
              · (intro w hSw; (try dsimp only at hSw); go_simp; try with_reducible rfl)
              simp only [Act.put, List.setIfInBounds_toArray, List.set_cons_zero, List.set_cons_succ]
              refine take_at (i := 57) (v := ?_) rfl (by kernel_rfl) (by kernel_rfl) (by kernel_rfl) (fun _ _ _ h => h) (by kernel_rfl) (by assumption) ?_ ?_
              rotate_left
              · (intro w hSw; (try dsimp only at hSw); go_simp; try with_reducible rfl)
              simp only [Act.put, List.setIfInBounds_toArray, List.set_cons_zero, List.set_cons_succ]
              refine take_at (i := 58) (v := ?_) rfl (by kernel_rfl) (by kernel_rfl) (by kernel_rfl) (fun _ _ _ h => h) (by kernel_rfl) (by assumption) ?_ ?_
              rotate_left
              · (intro w hSw; (try dsimp only at hSw); go_simp; try with_reducible rfl)
              simp only [Act.put, List.setIfInBounds_toArray, List.set_cons_zero, List.set_cons_succ]
              refine take_at (i := 59) (v := ?_) rfl (by kernel_rfl) (by kernel_rfl) (by kernel_rfl) (fun _ _ _ h => h) (by kernel_rfl) (by assumption) ?_ ?_
              rotate_left
              · (intro w hSw; (try dsimp only at hSw); go_simp; try with_reducible rfl)
              simp only [Act.put, List.setIfInBounds_toArray, List.set_cons_zero, List.set_cons_succ]
              refine take_at (i := 60) (v := ?_) rfl (by kernel_rfl) (by kernel_rfl) (by kernel_rfl) (fun _ _ _ h => h) (by kernel_rfl) (by assumption) ?_ ?_
              rotate_left
              · (intro w hSw; (try dsimp only at hSw); go_simp; try with_reducible rfl)
              simp only [Act.put, List.setIfInBounds_toArray, List.set_cons_zero, List.set_cons_succ]
              refine take_at (i := 61) (v := ?_) rfl (by kernel_rfl) (by kernel_rfl) (by kernel_rfl) (fun _ _ _ h => h) (by kernel_rfl) (by assumption) ?_ ?_
              rotate_left
              · (intro w hSw; (try dsimp only at hSw); go_simp; try with_reducible rfl)
              simp only [Act.put, List.setIfInBounds_toArray, List.set_cons_zero, List.set_cons_succ]
              refine wpAnyH_done (by kernel_rfl) ?_ _
              clear hHeld HS hq hqa
              go_wp2
              go_meet
              case rel => exact ⟨rfl, HU0⟩
          | false =>
            have hHa : ¬ Half R P wd k := of_decide_eq_false (HHF.out.symm.trans hv)
            by_cases hlo : k < P
            · have hsame := (HPK.out (.inl hlo)).1 hHa
              rw [← HCC.out] at hsame
              have HS := Lib.hid (show ∀ V, Below wr.heap.size wr V → (fun w' => w'.cell? ⟨h, q + k * 14, none⟩ = some (.int .i32 cc.ru) ∧ w'.cell? ⟨h, q + k * 14 + 1, none⟩ = some (.int .i32 cc.m0) ∧ w'.cell? ⟨h, q + k * 14 + 2, none⟩ = some (.int .i32 cc.m1) ∧ w'.cell? ⟨h, q + k * 14 + 3, none⟩ = some (.int .u8 cc.k) ∧ w'.cell? ⟨h, q + k * 14 + 4, none⟩ = some (.int .u8 cc.a.fg.k) ∧ w'.cell? ⟨h, q + k * 14 + 5, none⟩ = some (.int .u8 cc.a.fg.r) ∧ w'.cell? ⟨h, q + k * 14 + 6, none⟩ = some (.int .u8 cc.a.fg.g) ∧ w'.cell? ⟨h, q + k * 14 + 7, none⟩ = some (.int .u8 cc.a.fg.b) ∧ w'.cell? ⟨h, q + k * 14 + 8, none⟩ = some (.int .u8 cc.a.bg.k) ∧ w'.cell? ⟨h, q + k * 14 + 9, none⟩ = some (.int .u8 cc.a.bg.r) ∧ w'.cell? ⟨h, q + k * 14 + 10, none⟩ = some (.int .u8 cc.a.bg.g) ∧ w'.cell? ⟨h, q + k * 14 + 11, none⟩ = some (.int .u8 cc.a.bg.b) ∧ w'.cell? ⟨h, q + k * 14 + 12, none⟩ = some (.int .u16 (cc.a.fl : Nat)) ∧ w'.cell? ⟨h, q + k * 14 + 13, none⟩ = some (.int .u8 cc.l) ∧ w'.cell? ⟨g, o + k * 14, none⟩ = some (.int .i32 cc.ru) ∧ w'.cell? ⟨g, o + k * 14 + 1, none⟩ = some (.int .i32 cc.m0) ∧ w'.cell? ⟨g, o + k * 14 + 2, none⟩ = some (.int .i32 cc.m1) ∧ w'.cell? ⟨g, o + k * 14 + 3, none⟩ = some (.int .u8 cc.k) ∧ w'.cell? ⟨g, o + k * 14 + 4, none⟩ = some (.int .u8 cc.a.fg.k) ∧ w'.cell? ⟨g, o + k * 14 + 5, none⟩ = some (.int .u8 cc.a.fg.r) ∧ w'.cell? ⟨g, o + k * 14 + 6, none⟩ = some (.int .u8 cc.a.fg.g) ∧ w'.cell? ⟨g, o + k * 14 + 7, none⟩ = some (.int .u8 cc.a.fg.b) ∧ w'.cell? ⟨g, o + k * 14 + 8, none⟩ = some (.int .u8 cc.a.bg.k) ∧ w'.cell? ⟨g, o + k * 14 + 9, none⟩ = some (.int .u8 cc.a.bg.r) ∧ w'.cell? ⟨g, o + k * 14 + 10, none⟩ = some (.int .u8 cc.a.bg.g) ∧ w'.cell? ⟨g, o + k * 14 + 11, none⟩ = some (.int .u8 cc.a.bg.b) ∧ w'.cell? ⟨g, o + k * 14 + 12, none⟩ = some (.int .u16 (cc.a.fl : Nat)) ∧ w'.cell? ⟨g, o + k * 14 + 13, none⟩ = some (.int .u8 cc.l)) V from fun V hv => by
                have h1 := HBT.out.same (hv.block h HH.out)
                have h2 := HAT.out.same (hv.block g HG.out)
                rw [hsame] at h1
                obtain ⟨a0, a1, a2, a3, a4, a5, a6, a7, a8, a9, a10, a11, a12, a13⟩ := h1
                exact ⟨a0, a1, a2, a3, a4, a5, a6, a7, a8, a9, a10, a11, a12, a13, h2⟩)
              dsimp only at HS
              have hq := fun w => eqCel w cc cc
              rw [show decide (cc = cc) = true from decide_eq_true rfl] at hq
              have k1 : (k : Int) < (P : Int) := by omega
              have k1d : decide ((k : Int) < (P : Int)) = true := decide_eq_true k1
              have k1n : decide (k < P) = true := decide_eq_true (by omega)
              clear hHa hsame hlo hv
              as_aux_lemma =>
              refine wp_region_held_drew (S := fun w' => w'.cell? ⟨h, q + k * 14, none⟩ = some (.int .i32 cc.ru) ∧ w'.cell? ⟨h, q + k * 14 + 1, none⟩ = some (.int .i32 cc.m0) ∧ w'.cell? ⟨h, q + k * 14 + 2, none⟩ = some (.int .i32 cc.m1) ∧ w'.cell? ⟨h, q + k * 14 + 3, none⟩ = some (.int .u8 cc.k) ∧ w'.cell? ⟨h, q + k * 14 + 4, none⟩ = some (.int .u8 cc.a.fg.k) ∧ w'.cell? ⟨h, q + k * 14 + 5, none⟩ = some (.int .u8 cc.a.fg.r) ∧ w'.cell? ⟨h, q + k * 14 + 6, none⟩ = some (.int .u8 cc.a.fg.g) ∧ w'.cell? ⟨h, q + k * 14 + 7, none⟩ = some (.int .u8 cc.a.fg.b) ∧ w'.cell? ⟨h, q + k * 14 + 8, none⟩ = some (.int .u8 cc.a.bg.k) ∧ w'.cell? ⟨h, q + k * 14 + 9, none⟩ = some (.int .u8 cc.a.bg.r) ∧ w'.cell? ⟨h, q + k * 14 + 10, none⟩ = some (.int .u8 cc.a.bg.g) ∧ w'.cell? ⟨h, q + k * 14 + 11, none⟩ = some (.int .u8 cc.a.bg.b) ∧ w'.cell? ⟨h, q + k * 14 + 12, none⟩ = some (.int .u16 (cc.a.fl : Nat)) ∧ w'.cell? ⟨h, q + k * 14 + 13, none⟩ = some (.int .u8 cc.l) ∧ w'.cell? ⟨g, o + k * 14, none⟩ = some (.int .i32 cc.ru) ∧ w'.cell? ⟨g, o + k * 14 + 1, none⟩ = some (.int .i32 cc.m0) ∧ w'.cell? ⟨g, o + k * 14 + 2, none⟩ = some (.int .i32 cc.m1) ∧ w'.cell? ⟨g, o + k * 14 + 3, none⟩ = some (.int .u8 cc.k) ∧ w'.cell? ⟨g, o + k * 14 + 4, none⟩ = some (.int .u8 cc.a.fg.k) ∧ w'.cell? ⟨g, o + k * 14 + 5, none⟩ = some (.int .u8 cc.a.fg.r) ∧ w'.cell? ⟨g, o + k * 14 + 6, none⟩ = some (.int .u8 cc.a.fg.g) ∧ w'.cell? ⟨g, o + k * 14 + 7, none⟩ = some (.int .u8 cc.a.fg.b) ∧ w'.cell? ⟨g, o + k * 14 + 8, none⟩ = some (.int .u8 cc.a.bg.k) ∧ w'.cell? ⟨g, o + k * 14 + 9, none⟩ = some (.int .u8 cc.a.bg.r) ∧ w'.cell? ⟨g, o + k * 14 + 10, none⟩ = some (.int .u8 cc.a.bg.g) ∧ w'.cell? ⟨g, o + k * 14 + 11, none⟩ = some (.int .u8 cc.a.bg.b) ∧ w'.cell? ⟨g, o + k * 14 + 12, none⟩ = some (.int .u16 (cc.a.fl : Nat)) ∧ w'.cell? ⟨g, o + k * 14 + 13, none⟩ = some (.int .u8 cc.l)) (by kernel_rfl) ?_ (fun hHeld => ?_)
              · exact HS.out _ ⟨rfl, rfl, rfl, Nat.le_refl _, fun _ _ => rfl⟩
              obtain ⟨u0, hu0⟩ : ∃ y, y = wr.drew := ⟨_, rfl⟩
              have bd : Below wr.heap.size wr u0 := by rw [hu0]; exact ⟨rfl, rfl, rfl, Nat.le_refl _, fun _ _ => rfl⟩
              have HU0 := Lib.hid bd
              replace hHeld := HS.out _ bd
              rw [← hu0]
              clear hu0 bd
              refine take_at (i := 0) (v := ?_) rfl (by kernel_rfl) (by kernel_rfl) (by kernel_rfl) (fun _ _ _ h => h) (by kernel_rfl) (by assumption) ?_ ?_
              rotate_left
              · (intro w hSw; (try dsimp only at hSw); go_simp; try with_reducible rfl)
              simp only [Act.put, List.setIfInBounds_toArray, List.set_cons_zero, List.set_cons_succ]
              refine take_at (i := 1) (v := ?_) rfl (by kernel_rfl) (by kernel_rfl) (by kernel_rfl) (fun _ _ _ h => h) (by kernel_rfl) (by assumption) ?_ ?_
              rotate_left
              · (intro w hSw; (try dsimp only at hSw); go_simp; try with_reducible rfl)
              simp only [Act.put, List.setIfInBounds_toArray, List.set_cons_zero, List.set_cons_succ]
              refine take_at (i := 2) (v := ?_) rfl (by kernel_rfl) (by kernel_rfl) (by kernel_rfl) (fun _ _ _ h => h) (by kernel_rfl) (by assumption) ?_ ?_
              rotate_left
              · (intro w hSw; (try dsimp only at hSw); go_simp; try with_reducible rfl)
              simp only [Act.put, List.setIfInBounds_toArray, List.set_cons_zero, List.set_cons_succ]
              refine take_at (i := 3) (v := ?_) rfl (by kernel_rfl) (by kernel_rfl) (by kernel_rfl) (fun _ _ _ h => h) (by kernel_rfl) (by assumption) ?_ ?_
              rotate_left
              · (intro w hSw; (try dsimp only at hSw); go_simp; try with_reducible rfl)
              simp only [Act.put, List.setIfInBounds_toArray, List.set_cons_zero, List.set_cons_succ]
              refine skip_at (i := 4) rfl (by kernel_rfl) (by kernel_rfl) (by kernel_rfl) (fun _ _ _ h => h) (by kernel_rfl) (by assumption) ?_
              simp only [Act.put, List.setIfInBounds_toArray, List.set_cons_zero, List.set_cons_succ]
              refine skip_at (i := 5) rfl (by kernel_rfl) (by kernel_rfl) (by kernel_rfl) (fun _ _ _ h => h) (by kernel_rfl) (by assumption) ?_
              simp only [Act.put, List.setIfInBounds_toArray, List.set_cons_zero, List.set_cons_succ]
              refine skip_at (i := 6) rfl (by kernel_rfl) (by kernel_rfl) (by kernel_rfl) (fun _ _ _ h => h) (by kernel_rfl) (by assumption) ?_
              simp only [Act.put, List.setIfInBounds_toArray, List.set_cons_zero, List.set_cons_succ]
              refine skip_at (i := 7) rfl (by kernel_rfl) (by kernel_rfl) (by kernel_rfl) (fun _ _ _ h => h) (by kernel_rfl) (by assumption) ?_
              simp only [Act.put, List.setIfInBounds_toArray, List.set_cons_zero, List.set_cons_succ]
              refine skip_at (i := 8) rfl (by kernel_rfl) (by kernel_rfl) (by kernel_rfl) (fun _ _ _ h => h) (by kernel_rfl) (by assumption) ?_
              simp only [Act.put, List.setIfInBounds_toArray, List.set_cons_zero, List.set_cons_succ]
              refine take_at (i := 9) (v := ?_) rfl (by kernel_rfl) (by kernel_rfl) (by kernel_rfl) (fun _ _ _ h => h) (by kernel_rfl) (by assumption) ?_ ?_
              rotate_left
              · (intro w hSw; (try dsimp only at hSw); go_simp; try with_reducible rfl)
              simp only [Act.put, List.setIfInBounds_toArray, List.set_cons_zero, List.set_cons_succ]
              refine take_at (i := 10) (v := ?_) rfl (by kernel_rfl) (by kernel_rfl) (by kernel_rfl) (fun _ _ _ h => h) (by kernel_rfl) (by assumption) ?_ ?_
              rotate_left
              · (intro w hSw; (try dsimp only at hSw); go_simp; try with_reducible rfl)
              simp only [Act.put, List.setIfInBounds_toArray, List.set_cons_zero, List.set_cons_succ]
              refine take_at (i := 11) (v := ?_) rfl (by kernel_rfl) (by kernel_rfl) (by kernel_rfl) (fun _ _ _ h => h) (by kernel_rfl) (by assumption) ?_ ?_
              rotate_left
              · (intro w hSw; (try dsimp only at hSw); go_simp; try with_reducible rfl)
              simp only [Act.put, List.setIfInBounds_toArray, List.set_cons_zero, List.set_cons_succ]
              refine take_at (i := 12) (v := ?_) rfl (by kernel_rfl) (by kernel_rfl) (by kernel_rfl) (fun _ _ _ h => h) (by kernel_rfl) (by assumption) ?_ ?_
              rotate_left
              · (intro w hSw; (try dsimp only at hSw); go_simp; try with_reducible rfl)
              simp only [Act.put, List.setIfInBounds_toArray, List.set_cons_zero, List.set_cons_succ]
              refine take_at (i := 13) (v := ?_) rfl (by kernel_rfl) (by kernel_rfl) (by kernel_rfl) (fun _ _ _ h => h) (by kernel_rfl) (by assumption) ?_ ?_
              rotate_left
              · (intro w hSw; (try dsimp only at hSw); go_simp; try with_reducible rfl)
              simp only [Act.put, List.setIfInBounds_toArray, List.set_cons_zero, List.set_cons_succ]
              refine take_at (i := 14) (v := ?_) rfl (by kernel_rfl) (by kernel_rfl) (by kernel_rfl) (fun _ _ _ h => h) (by kernel_rfl) (by assumption) ?_ ?_
              rotate_left
              · (intro w hSw; (try dsimp only at hSw); go_simp; try with_reducible rfl)
              simp only [Act.put, List.setIfInBounds_toArray, List.set_cons_zero, List.set_cons_succ]
              refine take_at (i := 15) (v := ?_) rfl (by kernel_rfl) (by kernel_rfl) (by kernel_rfl) (fun _ _ _ h => h) (by kernel_rfl) (by assumption) ?_ ?_
              rotate_left
              · (intro w hSw; (try dsimp only at hSw); go_simp; try with_reducible rfl)
              simp only [Act.put, List.setIfInBounds_toArray, List.set_cons_zero, List.set_cons_succ]
              refine take_at (i := 16) (v := ?_) rfl (by kernel_rfl) (by kernel_rfl) (by kernel_rfl) (fun _ _ _ h => h) (by kernel_rfl) (by assumption) ?_ ?_
              rotate_left
              · (intro w hSw; (try dsimp only at hSw); go_simp; try with_reducible rfl)
              simp only [Act.put, List.setIfInBounds_toArray, List.set_cons_zero, List.set_cons_succ]
              refine take_at (i := 17) (v := ?_) rfl (by kernel_rfl) (by kernel_rfl) (by kernel_rfl) (fun _ _ _ h => h) (by kernel_rfl) (by assumption) ?_ ?_
              rotate_left
              · (intro w hSw; (try dsimp only at hSw); go_simp; try with_reducible rfl)
              simp only [Act.put, List.setIfInBounds_toArray, List.set_cons_zero, List.set_cons_succ]
              as_aux_lemma =>
              refine take_at (i := 18) (v := ?_) rfl (by kernel_rfl) (by kernel_rfl) (by kernel_rfl) (fun _ _ _ h => h) (by kernel_rfl) (by assumption) ?_ ?_
              rotate_left
              · (intro w hSw; (try dsimp only at hSw); go_simp; try with_reducible rfl)
              simp only [Act.put, List.setIfInBounds_toArray, List.set_cons_zero, List.set_cons_succ]
              refine take_at (i := 19) (v := ?_) rfl (by kernel_rfl) (by kernel_rfl) (by kernel_rfl) (fun _ _ _ h => h) (by kernel_rfl) (by assumption) ?_ ?_
              rotate_left
              · (intro w hSw; (try dsimp only at hSw); go_simp; try with_reducible rfl)
              simp only [Act.put, List.setIfInBounds_toArray, List.set_cons_zero, List.set_cons_succ]
              refine take_at (i := 20) (v := ?_) rfl (by kernel_rfl) (by kernel_rfl) (by kernel_rfl) (fun _ _ _ h => h) (by kernel_rfl) (by assumption) ?_ ?_
              rotate_left
              · (intro w hSw; (try dsimp only at hSw); go_simp; try with_reducible rfl)
              simp only [Act.put, List.setIfInBounds_toArray, List.set_cons_zero, List.set_cons_succ]
              refine take_at (i := 21) (v := ?_) rfl (by kernel_rfl) (by kernel_rfl) (by kernel_rfl) (fun _ _ _ h => h) (by kernel_rfl) (by assumption) ?_ ?_
              rotate_left
              · (intro w hSw; (try dsimp only at hSw); go_simp; try with_reducible rfl)
              simp only [Act.put, List.setIfInBounds_toArray, List.set_cons_zero, List.set_cons_succ]
              refine skip_at (i := 22) rfl (by kernel_rfl) (by kernel_rfl) (by kernel_rfl) (fun _ _ _ h => h) (by kernel_rfl) (by assumption) ?_
              simp only [Act.put, List.setIfInBounds_toArray, List.set_cons_zero, List.set_cons_succ]
              refine skip_at (i := 23) rfl (by kernel_rfl) (by kernel_rfl) (by kernel_rfl) (fun _ _ _ h => h) (by kernel_rfl) (by assumption) ?_
              simp only [Act.put, List.setIfInBounds_toArray, List.set_cons_zero, List.set_cons_succ]
              refine take_at (i := 24) (v := ?_) rfl (by kernel_rfl) (by kernel_rfl) (by kernel_rfl) (fun _ _ _ h => h) (by kernel_rfl) (by assumption) ?_ ?_
              rotate_left
              · (intro w hSw; (try dsimp only at hSw); go_simp; try with_reducible rfl)
              simp only [Act.put, List.setIfInBounds_toArray, List.set_cons_zero, List.set_cons_succ]
              refine take_at (i := 25) (v := ?_) rfl (by kernel_rfl) (by kernel_rfl) (by kernel_rfl) (fun _ _ _ h => h) (by kernel_rfl) (by assumption) ?_ ?_
              rotate_left
              · (intro w hSw; (try dsimp only at hSw); go_simp; try with_reducible rfl)
              simp only [Act.put, List.setIfInBounds_toArray, List.set_cons_zero, List.set_cons_succ]
              refine take_at (i := 26) (v := ?_) rfl (by kernel_rfl) (by kernel_rfl) (by kernel_rfl) (fun _ _ _ h => h) (by kernel_rfl) (by assumption) ?_ ?_
              rotate_left
              · (intro w hSw; (try dsimp only at hSw); go_simp; try with_reducible rfl)
              simp only [Act.put, List.setIfInBounds_toArray, List.set_cons_zero, List.set_cons_succ]
              refine take_at (i := 27) (v := ?_) rfl (by kernel_rfl) (by kernel_rfl) (by kernel_rfl) (fun _ _ _ h => h) (by kernel_rfl) (by assumption) ?_ ?_
              rotate_left
              · (intro w hSw; (try dsimp only at hSw); go_simp; try with_reducible rfl)
              simp only [Act.put, List.setIfInBounds_toArray, List.set_cons_zero, List.set_cons_succ]
              refine skip_at (i := 28) rfl (by kernel_rfl) (by kernel_rfl) (by kernel_rfl) (fun _ _ _ h => h) (by kernel_rfl) (by assumption) ?_
              simp only [Act.put, List.setIfInBounds_toArray, List.set_cons_zero, List.set_cons_succ]
              refine skip_at (i := 29) rfl (by kernel_rfl) (by kernel_rfl) (by kernel_rfl) (fun _ _ _ h => h) (by kernel_rfl) (by assumption) ?_
              simp only [Act.put, List.setIfInBounds_toArray, List.set_cons_zero, List.set_cons_succ]
              refine skip_at (i := 30) rfl (by kernel_rfl) (by kernel_rfl) (by kernel_rfl) (fun _ _ _ h => h) (by kernel_rfl) (by assumption) ?_
              simp only [Act.put, List.setIfInBounds_toArray, List.set_cons_zero, List.set_cons_succ]
              refine skip_at (i := 31) rfl (by kernel_rfl) (by kernel_rfl) (by kernel_rfl) (fun _ _ _ h => h) (by kernel_rfl) (by assumption) ?_
              simp only [Act.put, List.setIfInBounds_toArray, List.set_cons_zero, List.set_cons_succ]
              refine skip_at (i := 32) rfl (by kernel_rfl) (by kernel_rfl) (by kernel_rfl) (fun _ _ _ h => h) (by kernel_rfl) (by assumption) ?_
              simp only [Act.put, List.setIfInBounds_toArray, List.set_cons_zero, List.set_cons_succ]
              refine skip_at (i := 33) rfl (by kernel_rfl) (by kernel_rfl) (by kernel_rfl) (fun _ _ _ h => h) (by kernel_rfl) (by assumption) ?_
              simp only [Act.put, List.setIfInBounds_toArray, List.set_cons_zero, List.set_cons_succ]
              refine skip_at (i := 34) rfl (by kernel_rfl) (by kernel_rfl) (by kernel_rfl) (fun _ _ _ h => h) (by kernel_rfl) (by assumption) ?_
              simp only [Act.put, List.setIfInBounds_toArray, List.set_cons_zero, List.set_cons_succ]
              refine skip_at (i := 35) rfl (by kernel_rfl) (by kernel_rfl) (by kernel_rfl) (fun _ _ _ h => h) (by kernel_rfl) (by assumption) ?_
              simp only [Act.put, List.setIfInBounds_toArray, List.set_cons_zero, List.set_cons_succ]
              refine skip_at (i := 36) rfl (by kernel_rfl) (by kernel_rfl) (by kernel_rfl) (fun _ _ _ h => h) (by kernel_rfl) (by assumption) ?_
              simp only [Act.put, List.setIfInBounds_toArray, List.set_cons_zero, List.set_cons_succ]
              refine skip_at (i := 37) rfl (by kernel_rfl) (by kernel_rfl) (by kernel_rfl) (fun _ _ _ h => h) (by kernel_rfl) (by assumption) ?_
              simp only [Act.put, List.setIfInBounds_toArray, List.set_cons_zero, List.set_cons_succ]
              refine skip_at (i := 38) rfl (by kernel_rfl) (by kernel_rfl) (by kernel_rfl) (fun _ _ _ h => h) (by kernel_rfl) (by assumption) ?_
              simp only [Act.put, List.setIfInBounds_toArray, List.set_cons_zero, List.set_cons_succ]
              refine skip_at (i := 39) rfl (by kernel_rfl) (by kernel_rfl) (by kernel_rfl) (fun _ _ _ h => h) (by kernel_rfl) (by assumption) ?_
              simp only [Act.put, List.setIfInBounds_toArray, List.set_cons_zero, List.set_cons_succ]
              refine skip_at (i := 40) rfl (by kernel_rfl) (by kernel_rfl) (by kernel_rfl) (fun _ _ _ h => h) (by kernel_rfl) (by assumption) ?_
              simp only [Act.put, List.setIfInBounds_toArray, List.set_cons_zero, List.set_cons_succ]
              refine skip_at (i := 41) rfl (by kernel_rfl) (by kernel_rfl) (by kernel_rfl) (fun _ _ _ h => h) (by kernel_rfl) (by assumption) ?_
              simp only [Act.put, List.setIfInBounds_toArray, List.set_cons_zero, List.set_cons_succ]
              refine skip_at (i := 42) rfl (by kernel_rfl) (by kernel_rfl) (by kernel_rfl) (fun _ _ _ h => h) (by kernel_rfl) (by assumption) ?_
              simp only [Act.put, List.setIfInBounds_toArray, List.set_cons_zero, List.set_cons_succ]
              refine skip_at (i := 43) rfl (by kernel_rfl) (by kernel_rfl) (by kernel_rfl) (fun _ _ _ h => h) (by kernel_rfl) (by assumption) ?_
              simp only [Act.put, List.setIfInBounds_toArray, List.set_cons_zero, List.set_cons_succ]
              refine skip_at (i := 44) rfl (by kernel_rfl) (by kernel_rfl) (by kernel_rfl) (fun _ _ _ h => h) (by kernel_rfl) (by assumption) ?_
              simp only [Act.put, List.setIfInBounds_toArray, List.set_cons_zero, List.set_cons_succ]
              refine skip_at (i := 45) rfl (by kernel_rfl) (by kernel_rfl) (by kernel_rfl) (fun _ _ _ h => h) (by kernel_rfl) (by assumption) ?_
              simp only [Act.put, List.setIfInBounds_toArray, List.set_cons_zero, List.set_cons_succ]
              refine skip_at (i := 46) rfl (by kernel_rfl) (by kernel_rfl) (by kernel_rfl) (fun _ _ _ h => h) (by kernel_rfl) (by assumption) ?_
              simp only [Act.put, List.setIfInBounds_toArray, List.set_cons_zero, List.set_cons_succ]
              refine skip_at (i := 47) rfl (by kernel_rfl) (by kernel_rfl) (by kernel_rfl) (fun _ _ _ h => h) (by kernel_rfl) (by assumption) ?_
              simp only [Act.put, List.setIfInBounds_toArray, List.set_cons_zero, List.set_cons_succ]
              refine skip_at (i := 48) rfl (by kernel_rfl) (by kernel_rfl) (by kernel_rfl) (fun _ _ _ h => h) (by kernel_rfl) (by assumption) ?_
              simp only [Act.put, List.setIfInBounds_toArray, List.set_cons_zero, List.set_cons_succ]
              refine skip_at (i := 49) rfl (by kernel_rfl) (by kernel_rfl) (by kernel_rfl) (fun _ _ _ h => h) (by kernel_rfl) (by assumption) ?_
              simp only [Act.put, List.setIfInBounds_toArray, List.set_cons_zero, List.set_cons_succ]
              refine skip_at (i := 50) rfl (by kernel_rfl) (by kernel_rfl) (by kernel_rfl) (fun _ _ _ h => h) (by kernel_rfl) (by assumption) ?_
              simp only [Act.put, List.setIfInBounds_toArray, List.set_cons_zero, List.set_cons_succ]
              refine skip_at (i := 51) rfl (by kernel_rfl) (by kernel_rfl) (by kernel_rfl) (fun _ _ _ h => h) (by kernel_rfl) (by assumption) ?_
              simp only [Act.put, List.setIfInBounds_toArray, List.set_cons_zero, List.set_cons_succ]
              refine skip_at (i := 52) rfl (by kernel_rfl) (by kernel_rfl) (by kernel_rfl) (fun _ _ _ h => h) (by kernel_rfl) (by assumption) ?_
              simp only [Act.put, List.setIfInBounds_toArray, List.set_cons_zero, List.set_cons_succ]
              refine skip_at (i := 53) rfl (by kernel_rfl) (by kernel_rfl) (by kernel_rfl) (fun _ _ _ h => h) (by kernel_rfl) (by assumption) ?_
              simp only [Act.put, List.setIfInBounds_toArray, List.set_cons_zero, List.set_cons_succ]
              refine skip_at (i := 54) rfl (by kernel_rfl) (by kernel_rfl) (by kernel_rfl) (fun _ _ _ h => h) (by kernel_rfl) (by assumption) ?_
              simp only [Act.put, List.setIfInBounds_toArray, List.set_cons_zero, List.set_cons_succ]
              refine skip_at (i := 55) rfl (by kernel_rfl) (by kernel_rfl) (by kernel_rfl) (fun _ _ _ h => h) (by kernel_rfl) (by assumption) ?_
              simp only [Act.put, List.setIfInBounds_toArray, List.set_cons_zero, List.set_cons_succ]
              refine skip_at (i := 56) rfl (by kernel_rfl) (by kernel_rfl) (by kernel_rfl) (fun _ _ _ h => h) (by kernel_rfl) (by assumption) ?_
              simp only [Act.put, List.setIfInBounds_toArray, List.set_cons_zero, List.set_cons_succ]
              refine skip_at (i := 57) rfl (by kernel_rfl) (by kernel_rfl) (by kernel_rfl) (fun _ _ _ h => h) (by kernel_rfl) (by assumption) ?_
              simp only [Act.put, List.setIfInBounds_toArray, List.set_cons_zero, List.set_cons_succ]
              refine skip_at (i := 58) rfl (by kernel_rfl) (by kernel_rfl) (by kernel_rfl) (fun _ _ _ h => h) (by kernel_rfl) (by assumption) ?_
              simp only [Act.put, List.setIfInBounds_toArray, List.set_cons_zero, List.set_cons_succ]
              refine skip_at (i := 59) rfl (by kernel_rfl) (by kernel_rfl) (by kernel_rfl) (fun _ _ _ h => h) (by kernel_rfl) (by assumption) ?_
              simp only [Act.put, List.setIfInBounds_toArray, List.set_cons_zero, List.set_cons_succ]
              refine take_at (i := 60) (v := ?_) rfl (by kernel_rfl) (by kernel_rfl) (by kernel_rfl) (fun _ _ _ h => h) (by kernel_rfl) (by assumption) ?_ ?_
              rotate_left
              · (intro w hSw; (try dsimp only at hSw); go_simp; try with_reducible rfl)
              simp only [Act.put, List.setIfInBounds_toArray, List.set_cons_zero, List.set_cons_succ]
              refine take_at (i := 61) (v := ?_) rfl (by kernel_rfl) (by kernel_rfl) (by kernel_rfl) (fun _ _ _ h => h) (by kernel_rfl) (by assumption) ?_ ?_
              rotate_left
              · (intro w hSw; (try dsimp only at hSw); go_simp; try with_reducible rfl)
              simp only [Act.put, List.setIfInBounds_toArray, List.set_cons_zero, List.set_cons_succ]
              refine wpAnyH_done (by kernel_rfl) ?_ _
              clear hHeld HS hq
              go_wp2
              go_meet
              case rel => exact ⟨rfl, HU0⟩
            · by_cases hge : e9 ≤ k
              · have hsame := (HPK.out (.inr (by have := HE9.out; omega))).1 hHa
                rw [← HCC.out] at hsame
                have HS := Lib.hid (show ∀ V, Below wr.heap.size wr V → (fun w' => w'.cell? ⟨h, q + k * 14, none⟩ = some (.int .i32 cc.ru) ∧ w'.cell? ⟨h, q + k * 14 + 1, none⟩ = some (.int .i32 cc.m0) ∧ w'.cell? ⟨h, q + k * 14 + 2, none⟩ = some (.int .i32 cc.m1) ∧ w'.cell? ⟨h, q + k * 14 + 3, none⟩ = some (.int .u8 cc.k) ∧ w'.cell? ⟨h, q + k * 14 + 4, none⟩ = some (.int .u8 cc.a.fg.k) ∧ w'.cell? ⟨h, q + k * 14 + 5, none⟩ = some (.int .u8 cc.a.fg.r) ∧ w'.cell? ⟨h, q + k * 14 + 6, none⟩ = some (.int .u8 cc.a.fg.g) ∧ w'.cell? ⟨h, q + k * 14 + 7, none⟩ = some (.int .u8 cc.a.fg.b) ∧ w'.cell? ⟨h, q + k * 14 + 8, none⟩ = some (.int .u8 cc.a.bg.k) ∧ w'.cell? ⟨h, q + k * 14 + 9, none⟩ = some (.int .u8 cc.a.bg.r) ∧ w'.cell? ⟨h, q + k * 14 + 10, none⟩ = some (.int .u8 cc.a.bg.g) ∧ w'.cell? ⟨h, q + k * 14 + 11, none⟩ = some (.int .u8 cc.a.bg.b) ∧ w'.cell? ⟨h, q + k * 14 + 12, none⟩ = some (.int .u16 (cc.a.fl : Nat)) ∧ w'.cell? ⟨h, q + k * 14 + 13, none⟩ = some (.int .u8 cc.l) ∧ w'.cell? ⟨g, o + k * 14, none⟩ = some (.int .i32 cc.ru) ∧ w'.cell? ⟨g, o + k * 14 + 1, none⟩ = some (.int .i32 cc.m0) ∧ w'.cell? ⟨g, o + k * 14 + 2, none⟩ = some (.int .i32 cc.m1) ∧ w'.cell? ⟨g, o + k * 14 + 3, none⟩ = some (.int .u8 cc.k) ∧ w'.cell? ⟨g, o + k * 14 + 4, none⟩ = some (.int .u8 cc.a.fg.k) ∧ w'.cell? ⟨g, o + k * 14 + 5, none⟩ = some (.int .u8 cc.a.fg.r) ∧ w'.cell? ⟨g, o + k * 14 + 6, none⟩ = some (.int .u8 cc.a.fg.g) ∧ w'.cell? ⟨g, o + k * 14 + 7, none⟩ = some (.int .u8 cc.a.fg.b) ∧ w'.cell? ⟨g, o + k * 14 + 8, none⟩ = some (.int .u8 cc.a.bg.k) ∧ w'.cell? ⟨g, o + k * 14 + 9, none⟩ = some (.int .u8 cc.a.bg.r) ∧ w'.cell? ⟨g, o + k * 14 + 10, none⟩ = some (.int .u8 cc.a.bg.g) ∧ w'.cell? ⟨g, o + k * 14 + 11, none⟩ = some (.int .u8 cc.a.bg.b) ∧ w'.cell? ⟨g, o + k * 14 + 12, none⟩ = some (.int .u16 (cc.a.fl : Nat)) ∧ w'.cell? ⟨g, o + k * 14 + 13, none⟩ = some (.int .u8 cc.l)) V from fun V hv => by
                  have h1 := HBT.out.same (hv.block h HH.out)
                  have h2 := HAT.out.same (hv.block g HG.out)
                  rw [hsame] at h1
                  obtain ⟨a0, a1, a2, a3, a4, a5, a6, a7, a8, a9, a10, a11, a12, a13⟩ := h1
                  exact ⟨a0, a1, a2, a3, a4, a5, a6, a7, a8, a9, a10, a11, a12, a13, h2⟩)
                dsimp only at HS
                have hq := fun w => eqCel w cc cc
                rw [show decide (cc = cc) = true from decide_eq_true rfl] at hq
                have k1 : ¬ (k : Int) < (P : Int) := by omega
                have k1d : decide ((k : Int) < (P : Int)) = false := decide_eq_false k1
                have k1n : decide (k < P) = false := decide_eq_false (by omega)
                have k2 : (e9 : Int) ≤ (k : Int) := by omega
                have k2d : decide ((e9 : Int) ≤ (k : Int)) = true := decide_eq_true k2
                have k2n : decide (e9 ≤ k) = true := decide_eq_true (by omega)
                clear hHa hsame hlo hge hv
                as_aux_lemma =>
                refine wp_region_held_drew (S := fun w' => w'.cell? ⟨h, q + k * 14, none⟩ = some (.int .i32 cc.ru) ∧ w'.cell? ⟨h, q + k * 14 + 1, none⟩ = some (.int .i32 cc.m0) ∧ w'.cell? ⟨h, q + k * 14 + 2, none⟩ = some (.int .i32 cc.m1) ∧ w'.cell? ⟨h, q + k * 14 + 3, none⟩ = some (.int .u8 cc.k) ∧ w'.cell? ⟨h, q + k * 14 + 4, none⟩ = some (.int .u8 cc.a.fg.k) ∧ w'.cell? ⟨h, q + k * 14 + 5, none⟩ = some (.int .u8 cc.a.fg.r) ∧ w'.cell? ⟨h, q + k * 14 + 6, none⟩ = some (.int .u8 cc.a.fg.g) ∧ w'.cell? ⟨h, q + k * 14 + 7, none⟩ = some (.int .u8 cc.a.fg.b) ∧ w'.cell? ⟨h, q + k * 14 + 8, none⟩ = some (.int .u8 cc.a.bg.k) ∧ w'.cell? ⟨h, q + k * 14 + 9, none⟩ = some (.int .u8 cc.a.bg.r) ∧ w'.cell? ⟨h, q + k * 14 + 10, none⟩ = some (.int .u8 cc.a.bg.g) ∧ w'.cell? ⟨h, q + k * 14 + 11, none⟩ = some (.int .u8 cc.a.bg.b) ∧ w'.cell? ⟨h, q + k * 14 + 12, none⟩ = some (.int .u16 (cc.a.fl : Nat)) ∧ w'.cell? ⟨h, q + k * 14 + 13, none⟩ = some (.int .u8 cc.l) ∧ w'.cell? ⟨g, o + k * 14, none⟩ = some (.int .i32 cc.ru) ∧ w'.cell? ⟨g, o + k * 14 + 1, none⟩ = some (.int .i32 cc.m0) ∧ w'.cell? ⟨g, o + k * 14 + 2, none⟩ = some (.int .i32 cc.m1) ∧ w'.cell? ⟨g, o + k * 14 + 3, none⟩ = some (.int .u8 cc.k) ∧ w'.cell? ⟨g, o + k * 14 + 4, none⟩ = some (.int .u8 cc.a.fg.k) ∧ w'.cell? ⟨g, o + k * 14 + 5, none⟩ = some (.int .u8 cc.a.fg.r) ∧ w'.cell? ⟨g, o + k * 14 + 6, none⟩ = some (.int .u8 cc.a.fg.g) ∧ w'.cell? ⟨g, o + k * 14 + 7, none⟩ = some (.int .u8 cc.a.fg.b) ∧ w'.cell? ⟨g, o + k * 14 + 8, none⟩ = some (.int .u8 cc.a.bg.k) ∧ w'.cell? ⟨g, o + k * 14 + 9, none⟩ = some (.int .u8 cc.a.bg.r) ∧ w'.cell? ⟨g, o + k * 14 + 10, none⟩ = some (.int .u8 cc.a.bg.g) ∧ w'.cell? ⟨g, o + k * 14 + 11, none⟩ = some (.int .u8 cc.a.bg.b) ∧ w'.cell? ⟨g, o + k * 14 + 12, none⟩ = some (.int .u16 (cc.a.fl : Nat)) ∧ w'.cell? ⟨g, o + k * 14 + 13, none⟩ = some (.int .u8 cc.l)) (by kernel_rfl) ?_ (fun hHeld => ?_)
                · exact HS.out _ ⟨rfl, rfl, rfl, Nat.le_refl _, fun _ _ => rfl⟩
                obtain ⟨u0, hu0⟩ : ∃ y, y = wr.drew := ⟨_, rfl⟩
                have bd : Below wr.heap.size wr u0 := by rw [hu0]; exact ⟨rfl, rfl, rfl, Nat.le_refl _, fun _ _ => rfl⟩
                have HU0 := Lib.hid bd
                replace hHeld := HS.out _ bd
                rw [← hu0]
                clear hu0 bd
                refine take_at (i := 0) (v := ?_) rfl (by kernel_rfl) (by kernel_rfl) (by kernel_rfl) (fun _ _ _ h => h) (by kernel_rfl) (by assumption) ?_ ?_
                rotate_left
                · (intro w hSw; (try dsimp only at hSw); go_simp; try with_reducible rfl)
                simp only [Act.put, List.setIfInBounds_toArray, List.set_cons_zero, List.set_cons_succ]
                refine take_at (i := 1) (v := ?_) rfl (by kernel_rfl) (by kernel_rfl) (by kernel_rfl) (fun _ _ _ h => h) (by kernel_rfl) (by assumption) ?_ ?_
                rotate_left
                · (intro w hSw; (try dsimp only at hSw); go_simp; try with_reducible rfl)
                simp only [Act.put, List.setIfInBounds_toArray, List.set_cons_zero, List.set_cons_succ]
                refine take_at (i := 2) (v := ?_) rfl (by kernel_rfl) (by kernel_rfl) (by kernel_rfl) (fun _ _ _ h => h) (by kernel_rfl) (by assumption) ?_ ?_
                rotate_left
                · (intro w hSw; (try dsimp only at hSw); go_simp; try with_reducible rfl)
                simp only [Act.put, List.setIfInBounds_toArray, List.set_cons_zero, List.set_cons_succ]
                refine take_at (i := 3) (v := ?_) rfl (by kernel_rfl) (by kernel_rfl) (by kernel_rfl) (fun _ _ _ h => h) (by kernel_rfl) (by assumption) ?_ ?_
                rotate_left
                · (intro w hSw; (try dsimp only at hSw); go_simp; try with_reducible rfl)
                simp only [Act.put, List.setIfInBounds_toArray, List.set_cons_zero, List.set_cons_succ]
                refine take_at (i := 4) (v := ?_) rfl (by kernel_rfl) (by kernel_rfl) (by kernel_rfl) (fun _ _ _ h => h) (by kernel_rfl) (by assumption) ?_ ?_
                rotate_left
                · (intro w hSw; (try dsimp only at hSw); go_simp; try with_reducible rfl)
                simp only [Act.put, List.setIfInBounds_toArray, List.set_cons_zero, List.set_cons_succ]
                refine take_at (i := 5) (v := ?_) rfl (by kernel_rfl) (by kernel_rfl) (by kernel_rfl) (fun _ _ _ h => h) (by kernel_rfl) (by assumption) ?_ ?_
                rotate_left
                · (intro w hSw; (try dsimp only at hSw); go_simp; try with_reducible rfl)
                simp only [Act.put, List.setIfInBounds_toArray, List.set_cons_zero, List.set_cons_succ]
                refine take_at (i := 6) (v := ?_) rfl (by kernel_rfl) (by kernel_rfl) (by kernel_rfl) (fun _ _ _ h => h) (by kernel_rfl) (by assumption) ?_ ?_
                rotate_left
                · (intro w hSw; (try dsimp only at hSw); go_simp; try with_reducible rfl)
                simp only [Act.put, List.setIfInBounds_toArray, List.set_cons_zero, List.set_cons_succ]
                refine take_at (i := 7) (v := ?_) rfl (by kernel_rfl) (by kernel_rfl) (by kernel_rfl) (fun _ _ _ h => h) (by kernel_rfl) (by assumption) ?_ ?_
                rotate_left
                · (intro w hSw; (try dsimp only at hSw); go_simp; try with_reducible rfl)
                simp only [Act.put, List.setIfInBounds_toArray, List.set_cons_zero, List.set_cons_succ]
                refine take_at (i := 8) (v := ?_) rfl (by kernel_rfl) (by kernel_rfl) (by kernel_rfl) (fun _ _ _ h => h) (by kernel_rfl) (by assumption) ?_ ?_
                rotate_left
                · (intro w hSw; (try dsimp only at hSw); go_simp; try with_reducible rfl)
                simp only [Act.put, List.setIfInBounds_toArray, List.set_cons_zero, List.set_cons_succ]
                refine take_at (i := 9) (v := ?_) rfl (by kernel_rfl) (by kernel_rfl) (by kernel_rfl) (fun _ _ _ h => h) (by kernel_rfl) (by assumption) ?_ ?_
                rotate_left
                · (intro w hSw; (try dsimp only at hSw); go_simp; try with_reducible rfl)
                simp only [Act.put, List.setIfInBounds_toArray, List.set_cons_zero, List.set_cons_succ]
                refine take_at (i := 10) (v := ?_) rfl (by kernel_rfl) (by kernel_rfl) (by kernel_rfl) (fun _ _ _ h => h) (by kernel_rfl) (by assumption) ?_ ?_
                rotate_left
                · (intro w hSw; (try dsimp only at hSw); go_simp; try with_reducible rfl)
                simp only [Act.put, List.setIfInBounds_toArray, List.set_cons_zero, List.set_cons_succ]
                refine take_at (i := 11) (v := ?_) rfl (by kernel_rfl) (by kernel_rfl) (by kernel_rfl) (fun _ _ _ h => h) (by kernel_rfl) (by assumption) ?_ ?_
                rotate_left
                · (intro w hSw; (try dsimp only at hSw); go_simp; try with_reducible rfl)
                simp only [Act.put, List.setIfInBounds_toArray, List.set_cons_zero, List.set_cons_succ]
                refine take_at (i := 12) (v := ?_) rfl (by kernel_rfl) (by kernel_rfl) (by kernel_rfl) (fun _ _ _ h => h) (by kernel_rfl) (by assumption) ?_ ?_
                rotate_left
                · (intro w hSw; (try dsimp only at hSw); go_simp; try with_reducible rfl)
                simp only [Act.put, List.setIfInBounds_toArray, List.set_cons_zero, List.set_cons_succ]
                as_aux_lemma =>
                refine take_at (i := 13) (v := ?_) rfl (by kernel_rfl) (by kernel_rfl) (by kernel_rfl) (fun _ _ _ h => h) (by kernel_rfl) (by assumption) ?_ ?_
                rotate_left
                · (intro w hSw; (try dsimp only at hSw); go_simp; try with_reducible rfl)
                simp only [Act.put, List.setIfInBounds_toArray, List.set_cons_zero, List.set_cons_succ]
                refine take_at (i := 14) (v := ?_) rfl (by kernel_rfl) (by kernel_rfl) (by kernel_rfl) (fun _ _ _ h => h) (by kernel_rfl) (by assumption) ?_ ?_
                rotate_left
                · (intro w hSw; (try dsimp only at hSw); go_simp; try with_reducible rfl)
                simp only [Act.put, List.setIfInBounds_toArray, List.set_cons_zero, List.set_cons_succ]
                refine take_at (i := 15) (v := ?_) rfl (by kernel_rfl) (by kernel_rfl) (by kernel_rfl) (fun _ _ _ h => h) (by kernel_rfl) (by assumption) ?_ ?_
                rotate_left
                · (intro w hSw; (try dsimp only at hSw); go_simp; try with_reducible rfl)
                simp only [Act.put, List.setIfInBounds_toArray, List.set_cons_zero, List.set_cons_succ]
                refine take_at (i := 16) (v := ?_) rfl (by kernel_rfl) (by kernel_rfl) (by kernel_rfl) (fun _ _ _ h => h) (by kernel_rfl) (by assumption) ?_ ?_
                rotate_left
                · (intro w hSw; (try dsimp only at hSw); go_simp; try with_reducible rfl)
                simp only [Act.put, List.setIfInBounds_toArray, List.set_cons_zero, List.set_cons_succ]
                refine take_at (i := 17) (v := ?_) rfl (by kernel_rfl) (by kernel_rfl) (by kernel_rfl) (fun _ _ _ h => h) (by kernel_rfl) (by assumption) ?_ ?_
                rotate_left
                · (intro w hSw; (try dsimp only at hSw); go_simp; try with_reducible rfl)
                simp only [Act.put, List.setIfInBounds_toArray, List.set_cons_zero, List.set_cons_succ]
                refine take_at (i := 18) (v := ?_) rfl (by kernel_rfl) (by kernel_rfl) (by kernel_rfl) (fun _ _ _ h => h) (by kernel_rfl) (by assumption) ?_ ?_
                rotate_left
                · (intro w hSw; (try dsimp only at hSw); go_simp; try with_reducible rfl)
                simp only [Act.put, List.setIfInBounds_toArray, List.set_cons_zero, List.set_cons_succ]
                refine take_at (i := 19) (v := ?_) rfl (by kernel_rfl) (by kernel_rfl) (by kernel_rfl) (fun _ _ _ h => h) (by kernel_rfl) (by assumption) ?_ ?_
                rotate_left
                · (intro w hSw; (try dsimp only at hSw); go_simp; try with_reducible rfl)
                simp only [Act.put, List.setIfInBounds_toArray, List.set_cons_zero, List.set_cons_succ]
                refine take_at (i := 20) (v := ?_) rfl (by kernel_rfl) (by kernel_rfl) (by kernel_rfl) (fun _ _ _ h => h) (by kernel_rfl) (by assumption) ?_ ?_
                rotate_left
                · (intro w hSw; (try dsimp only at hSw); go_simp; try with_reducible rfl)
                simp only [Act.put, List.setIfInBounds_toArray, List.set_cons_zero, List.set_cons_succ]
                refine take_at (i := 21) (v := ?_) rfl (by kernel_rfl) (by kernel_rfl) (by kernel_rfl) (fun _ _ _ h => h) (by kernel_rfl) (by assumption) ?_ ?_
                rotate_left
                · (intro w hSw; (try dsimp only at hSw); go_simp; try with_reducible rfl)
                simp only [Act.put, List.setIfInBounds_toArray, List.set_cons_zero, List.set_cons_succ]
                refine skip_at (i := 22) rfl (by kernel_rfl) (by kernel_rfl) (by kernel_rfl) (fun _ _ _ h => h) (by kernel_rfl) (by assumption) ?_
                simp only [Act.put, List.setIfInBounds_toArray, List.set_cons_zero, List.set_cons_succ]
                refine skip_at (i := 23) rfl (by kernel_rfl) (by kernel_rfl) (by kernel_rfl) (fun _ _ _ h => h) (by kernel_rfl) (by assumption) ?_
                simp only [Act.put, List.setIfInBounds_toArray, List.set_cons_zero, List.set_cons_succ]
                refine take_at (i := 24) (v := ?_) rfl (by kernel_rfl) (by kernel_rfl) (by kernel_rfl) (fun _ _ _ h => h) (by kernel_rfl) (by assumption) ?_ ?_
                rotate_left
                · (intro w hSw; (try dsimp only at hSw); go_simp; try with_reducible rfl)
                simp only [Act.put, List.setIfInBounds_toArray, List.set_cons_zero, List.set_cons_succ]
                refine take_at (i := 25) (v := ?_) rfl (by kernel_rfl) (by kernel_rfl) (by kernel_rfl) (fun _ _ _ h => h) (by kernel_rfl) (by assumption) ?_ ?_
                rotate_left
                · (intro w hSw; (try dsimp only at hSw); go_simp; try with_reducible rfl)
                simp only [Act.put, List.setIfInBounds_toArray, List.set_cons_zero, List.set_cons_succ]
                refine take_at (i := 26) (v := ?_) rfl (by kernel_rfl) (by kernel_rfl) (by kernel_rfl) (fun _ _ _ h => h) (by kernel_rfl) (by assumption) ?_ ?_
                rotate_left
                · (intro w hSw; (try dsimp only at hSw); go_simp; try with_reducible rfl)
                simp only [Act.put, List.setIfInBounds_toArray, List.set_cons_zero, List.set_cons_succ]
                refine take_at (i := 27) (v := ?_) rfl (by kernel_rfl) (by kernel_rfl) (by kernel_rfl) (fun _ _ _ h => h) (by kernel_rfl) (by assumption) ?_ ?_
                rotate_left
                · (intro w hSw; (try dsimp only at hSw); go_simp; try with_reducible rfl)
                simp only [Act.put, List.setIfInBounds_toArray, List.set_cons_zero, List.set_cons_succ]
                refine skip_at (i := 28) rfl (by kernel_rfl) (by kernel_rfl) (by kernel_rfl) (fun _ _ _ h => h) (by kernel_rfl) (by assumption) ?_
                simp only [Act.put, List.setIfInBounds_toArray, List.set_cons_zero, List.set_cons_succ]
                refine skip_at (i := 29) rfl (by kernel_rfl) (by kernel_rfl) (by kernel_rfl) (fun _ _ _ h => h) (by kernel_rfl) (by assumption) ?_
                simp only [Act.put, List.setIfInBounds_toArray, List.set_cons_zero, List.set_cons_succ]
                refine skip_at (i := 30) rfl (by kernel_rfl) (by kernel_rfl) (by kernel_rfl) (fun _ _ _ h => h) (by kernel_rfl) (by assumption) ?_
                simp only [Act.put, List.setIfInBounds_toArray, List.set_cons_zero, List.set_cons_succ]
                refine skip_at (i := 31) rfl (by kernel_rfl) (by kernel_rfl) (by kernel_rfl) (fun _ _ _ h => h) (by kernel_rfl) (by assumption) ?_
                simp only [Act.put, List.setIfInBounds_toArray, List.set_cons_zero, List.set_cons_succ]
                refine skip_at (i := 32) rfl (by kernel_rfl) (by kernel_rfl) (by kernel_rfl) (fun _ _ _ h => h) (by kernel_rfl) (by assumption) ?_
                simp only [Act.put, List.setIfInBounds_toArray, List.set_cons_zero, List.set_cons_succ]
                refine skip_at (i := 33) rfl (by kernel_rfl) (by kernel_rfl) (by kernel_rfl) (fun _ _ _ h => h) (by kernel_rfl) (by assumption) ?_
                simp only [Act.put, List.setIfInBounds_toArray, List.set_cons_zero, List.set_cons_succ]
                refine skip_at (i := 34) rfl (by kernel_rfl) (by kernel_rfl) (by kernel_rfl) (fun _ _ _ h => h) (by kernel_rfl) (by assumption) ?_
                simp only [Act.put, List.setIfInBounds_toArray, List.set_cons_zero, List.set_cons_succ]
                refine skip_at (i := 35) rfl (by kernel_rfl) (by kernel_rfl) (by kernel_rfl) (fun _ _ _ h => h) (by kernel_rfl) (by assumption) ?_
                simp only [Act.put, List.setIfInBounds_toArray, List.set_cons_zero, List.set_cons_succ]
                refine skip_at (i := 36) rfl (by kernel_rfl) (by kernel_rfl) (by kernel_rfl) (fun _ _ _ h => h) (by kernel_rfl) (by assumption) ?_
                simp only [Act.put, List.setIfInBounds_toArray, List.set_cons_zero, List.set_cons_succ]
                refine skip_at (i := 37) rfl (by kernel_rfl) (by kernel_rfl) (by kernel_rfl) (fun _ _ _ h => h) (by kernel_rfl) (by assumption) ?_
                simp only [Act.put, List.setIfInBounds_toArray, List.set_cons_zero, List.set_cons_succ]
                refine skip_at (i := 38) rfl (by kernel_rfl) (by kernel_rfl) (by kernel_rfl) (fun _ _ _ h => h) (by kernel_rfl) (by assumption) ?_
                simp only [Act.put, List.setIfInBounds_toArray, List.set_cons_zero, List.set_cons_succ]
                refine skip_at (i := 39) rfl (by kernel_rfl) (by kernel_rfl) (by kernel_rfl) (fun _ _ _ h => h) (by kernel_rfl) (by assumption) ?_
                simp only [Act.put, List.setIfInBounds_toArray, List.set_cons_zero, List.set_cons_succ]
                refine skip_at (i := 40) rfl (by kernel_rfl) (by kernel_rfl) (by kernel_rfl) (fun _ _ _ h => h) (by kernel_rfl) (by assumption) ?_
                simp only [Act.put, List.setIfInBounds_toArray, List.set_cons_zero, List.set_cons_succ]
                refine skip_at (i := 41) rfl (by kernel_rfl) (by kernel_rfl) (by kernel_rfl) (fun _ _ _ h => h) (by kernel_rfl) (by assumption) ?_
                simp only [Act.put, List.setIfInBounds_toArray, List.set_cons_zero, List.set_cons_succ]
                refine skip_at (i := 42) rfl (by kernel_rfl) (by kernel_rfl) (by kernel_rfl) (fun _ _ _ h => h) (by kernel_rfl) (by assumption) ?_
                simp only [Act.put, List.setIfInBounds_toArray, List.set_cons_zero, List.set_cons_succ]
                refine skip_at (i := 43) rfl (by kernel_rfl) (by kernel_rfl) (by kernel_rfl) (fun _ _ _ h => h) (by kernel_rfl) (by assumption) ?_
                simp only [Act.put, List.setIfInBounds_toArray, List.set_cons_zero, List.set_cons_succ]
                refine skip_at (i := 44) rfl (by kernel_rfl) (by kernel_rfl) (by kernel_rfl) (fun _ _ _ h => h) (by kernel_rfl) (by assumption) ?_
                simp only [Act.put, List.setIfInBounds_toArray, List.set_cons_zero, List.set_cons_succ]
                refine skip_at (i := 45) rfl (by kernel_rfl) (by kernel_rfl) (by kernel_rfl) (fun _ _ _ h => h) (by kernel_rfl) (by assumption) ?_
                simp only [Act.put, List.setIfInBounds_toArray, List.set_cons_zero, List.set_cons_succ]
                refine skip_at (i := 46) rfl (by kernel_rfl) (by kernel_rfl) (by kernel_rfl) (fun _ _ _ h => h) (by kernel_rfl) (by assumption) ?_
                simp only [Act.put, List.setIfInBounds_toArray, List.set_cons_zero, List.set_cons_succ]
                refine skip_at (i := 47) rfl (by kernel_rfl) (by kernel_rfl) (by kernel_rfl) (fun _ _ _ h => h) (by kernel_rfl) (by assumption) ?_
                simp only [Act.put, List.setIfInBounds_toArray, List.set_cons_zero, List.set_cons_succ]
                refine skip_at (i := 48) rfl (by kernel_rfl) (by kernel_rfl) (by kernel_rfl) (fun _ _ _ h => h) (by kernel_rfl) (by assumption) ?_
                simp only [Act.put, List.setIfInBounds_toArray, List.set_cons_zero, List.set_cons_succ]
                refine skip_at (i := 49) rfl (by kernel_rfl) (by kernel_rfl) (by kernel_rfl) (fun _ _ _ h => h) (by kernel_rfl) (by assumption) ?_
                simp only [Act.put, List.setIfInBounds_toArray, List.set_cons_zero, List.set_cons_succ]
                refine skip_at (i := 50) rfl (by kernel_rfl) (by kernel_rfl) (by kernel_rfl) (fun _ _ _ h => h) (by kernel_rfl) (by assumption) ?_
                simp only [Act.put, List.setIfInBounds_toArray, List.set_cons_zero, List.set_cons_succ]
                refine skip_at (i := 51) rfl (by kernel_rfl) (by kernel_rfl) (by kernel_rfl) (fun _ _ _ h => h) (by kernel_rfl) (by assumption) ?_
                simp only [Act.put, List.setIfInBounds_toArray, List.set_cons_zero, List.set_cons_succ]
                refine skip_at (i := 52) rfl (by kernel_rfl) (by kernel_rfl) (by kernel_rfl) (fun _ _ _ h => h) (by kernel_rfl) (by assumption) ?_
                simp only [Act.put, List.setIfInBounds_toArray, List.set_cons_zero, List.set_cons_succ]
                refine skip_at (i := 53) rfl (by kernel_rfl) (by kernel_rfl) (by kernel_rfl) (fun _ _ _ h => h) (by kernel_rfl) (by assumption) ?_
                simp only [Act.put, List.setIfInBounds_toArray, List.set_cons_zero, List.set_cons_succ]
                refine skip_at (i := 54) rfl (by kernel_rfl) (by kernel_rfl) (by kernel_rfl) (fun _ _ _ h => h) (by kernel_rfl) (by assumption) ?_
                simp only [Act.put, List.setIfInBounds_toArray, List.set_cons_zero, List.set_cons_succ]
                refine skip_at (i := 55) rfl (by kernel_rfl) (by kernel_rfl) (by kernel_rfl) (fun _ _ _ h => h) (by kernel_rfl) (by assumption) ?_
                simp only [Act.put, List.setIfInBounds_toArray, List.set_cons_zero, List.set_cons_succ]
                refine skip_at (i := 56) rfl (by kernel_rfl) (by kernel_rfl) (by kernel_rfl) (fun _ _ _ h => h) (by kernel_rfl) (by assumption) ?_
                simp only [Act.put, List.setIfInBounds_toArray, List.set_cons_zero, List.set_cons_succ]
                refine skip_at (i := 57) rfl (by kernel_rfl) (by kernel_rfl) (by kernel_rfl) (fun _ _ _ h => h) (by kernel_rfl) (by assumption) ?_
                simp only [Act.put, List.setIfInBounds_toArray, List.set_cons_zero, List.set_cons_succ]
                refine skip_at (i := 58) rfl (by kernel_rfl) (by kernel_rfl) (by kernel_rfl) (fun _ _ _ h => h) (by kernel_rfl) (by assumption) ?_
                simp only [Act.put, List.setIfInBounds_toArray, List.set_cons_zero, List.set_cons_succ]
                refine skip_at (i := 59) rfl (by kernel_rfl) (by kernel_rfl) (by kernel_rfl) (fun _ _ _ h => h) (by kernel_rfl) (by assumption) ?_
                simp only [Act.put, List.setIfInBounds_toArray, List.set_cons_zero, List.set_cons_succ]
                refine take_at (i := 60) (v := ?_) rfl (by kernel_rfl) (by kernel_rfl) (by kernel_rfl) (fun _ _ _ h => h) (by kernel_rfl) (by assumption) ?_ ?_
                rotate_left
                · (intro w hSw; (try dsimp only at hSw); go_simp; try with_reducible rfl)
                simp only [Act.put, List.setIfInBounds_toArray, List.set_cons_zero, List.set_cons_succ]
                as_aux_lemma =>
                refine take_at (i := 61) (v := ?_) rfl (by kernel_rfl) (by kernel_rfl) (by kernel_rfl) (fun _ _ _ h => h) (by kernel_rfl) (by assumption) ?_ ?_
                rotate_left
                · (intro w hSw; (try dsimp only at hSw); go_simp; try with_reducible rfl)
                simp only [Act.put, List.setIfInBounds_toArray, List.set_cons_zero, List.set_cons_succ]
                refine wpAnyH_done (by kernel_rfl) ?_ _
                clear hHeld HS hq
                go_wp2
                go_meet
                case rel => exact ⟨rfl, HU0⟩
              · have HS := Lib.hid (show ∀ V, Below wr.heap.size wr V → (fun w' => w'.cell? ⟨g, o + k * 14, none⟩ = some (.int .i32 cc.ru)) V from fun V hv => (HAT.out.same (hv.block g HG.out)).1)
                dsimp only at HS
                have k1 : ¬ (k : Int) < (P : Int) := by omega
                have k1d : decide ((k : Int) < (P : Int)) = false := decide_eq_false k1
                have k1n : decide (k < P) = false := decide_eq_false (by omega)
                have k2 : ¬ (e9 : Int) ≤ (k : Int) := by omega
                have k2d : decide ((e9 : Int) ≤ (k : Int)) = false := decide_eq_false k2
                have k2n : decide (e9 ≤ k) = false := decide_eq_false (by omega)
                clear hHa hlo hge hv
                as_aux_lemma =>
                refine wp_region_held_drew (S := fun w' => w'.cell? ⟨g, o + k * 14, none⟩ = some (.int .i32 cc.ru)) (by kernel_rfl) ?_ (fun hHeld => ?_)
                · exact HS.out _ ⟨rfl, rfl, rfl, Nat.le_refl _, fun _ _ => rfl⟩
                obtain ⟨u0, hu0⟩ : ∃ y, y = wr.drew := ⟨_, rfl⟩
                have bd : Below wr.heap.size wr u0 := by rw [hu0]; exact ⟨rfl, rfl, rfl, Nat.le_refl _, fun _ _ => rfl⟩
                have HU0 := Lib.hid bd
                replace hHeld := HS.out _ bd
                rw [← hu0]
                clear hu0 bd
                refine take_at (i := 0) (v := ?_) rfl (by kernel_rfl) (by kernel_rfl) (by kernel_rfl) (fun _ _ _ h => h) (by kernel_rfl) (by assumption) ?_ ?_
                rotate_left
                · (intro w hSw; (try dsimp only at hSw); go_simp; try with_reducible rfl)
                simp only [Act.put, List.setIfInBounds_toArray, List.set_cons_zero, List.set_cons_succ]
                refine take_at (i := 1) (v := ?_) rfl (by kernel_rfl) (by kernel_rfl) (by kernel_rfl) (fun _ _ _ h => h) (by kernel_rfl) (by assumption) ?_ ?_
                rotate_left
                · (intro w hSw; (try dsimp only at hSw); go_simp; try with_reducible rfl)
                simp only [Act.put, List.setIfInBounds_toArray, List.set_cons_zero, List.set_cons_succ]
                refine take_at (i := 2) (v := ?_) rfl (by kernel_rfl) (by kernel_rfl) (by kernel_rfl) (fun _ _ _ h => h) (by kernel_rfl) (by assumption) ?_ ?_
                rotate_left
                · (intro w hSw; (try dsimp only at hSw); go_simp; try with_reducible rfl)
                simp only [Act.put, List.setIfInBounds_toArray, List.set_cons_zero, List.set_cons_succ]
                refine take_at (i := 3) (v := ?_) rfl (by kernel_rfl) (by kernel_rfl) (by kernel_rfl) (fun _ _ _ h => h) (by kernel_rfl) (by assumption) ?_ ?_
                rotate_left
                · (intro w hSw; (try dsimp only at hSw); go_simp; try with_reducible rfl)
                simp only [Act.put, List.setIfInBounds_toArray, List.set_cons_zero, List.set_cons_succ]
                refine take_at (i := 4) (v := ?_) rfl (by kernel_rfl) (by kernel_rfl) (by kernel_rfl) (fun _ _ _ h => h) (by kernel_rfl) (by assumption) ?_ ?_
                rotate_left
                · (intro w hSw; (try dsimp only at hSw); go_simp; try with_reducible rfl)
                simp only [Act.put, List.setIfInBounds_toArray, List.set_cons_zero, List.set_cons_succ]
                refine take_at (i := 5) (v := ?_) rfl (by kernel_rfl) (by kernel_rfl) (by kernel_rfl) (fun _ _ _ h => h) (by kernel_rfl) (by assumption) ?_ ?_
                rotate_left
                · (intro w hSw; (try dsimp only at hSw); go_simp; try with_reducible rfl)
                simp only [Act.put, List.setIfInBounds_toArray, List.set_cons_zero, List.set_cons_succ]
                refine take_at (i := 6) (v := ?_) rfl (by kernel_rfl) (by kernel_rfl) (by kernel_rfl) (fun _ _ _ h => h) (by kernel_rfl) (by assumption) ?_ ?_
                rotate_left
                · (intro w hSw; (try dsimp only at hSw); go_simp; try with_reducible rfl)
                simp only [Act.put, List.setIfInBounds_toArray, List.set_cons_zero, List.set_cons_succ]
                refine take_at (i := 7) (v := ?_) rfl (by kernel_rfl) (by kernel_rfl) (by kernel_rfl) (fun _ _ _ h => h) (by kernel_rfl) (by assumption) ?_ ?_
                rotate_left
                · (intro w hSw; (try dsimp only at hSw); go_simp; try with_reducible rfl)
                simp only [Act.put, List.setIfInBounds_toArray, List.set_cons_zero, List.set_cons_succ]
                refine take_at (i := 8) (v := ?_) rfl (by kernel_rfl) (by kernel_rfl) (by kernel_rfl) (fun _ _ _ h => h) (by kernel_rfl) (by assumption) ?_ ?_
                rotate_left
                · (intro w hSw; (try dsimp only at hSw); go_simp; try with_reducible rfl)
                simp only [Act.put, List.setIfInBounds_toArray, List.set_cons_zero, List.set_cons_succ]
                refine take_at (i := 9) (v := ?_) rfl (by kernel_rfl) (by kernel_rfl) (by kernel_rfl) (fun _ _ _ h => h) (by kernel_rfl) (by assumption) ?_ ?_
                rotate_left
                · (intro w hSw; (try dsimp only at hSw); go_simp; try with_reducible rfl)
                simp only [Act.put, List.setIfInBounds_toArray, List.set_cons_zero, List.set_cons_succ]
                refine take_at (i := 10) (v := ?_) rfl (by kernel_rfl) (by kernel_rfl) (by kernel_rfl) (fun _ _ _ h => h) (by kernel_rfl) (by assumption) ?_ ?_
                rotate_left
                · (intro w hSw; (try dsimp only at hSw); go_simp; try with_reducible rfl)
                simp only [Act.put, List.setIfInBounds_toArray, List.set_cons_zero, List.set_cons_succ]
                refine skip_at (i := 11) rfl (by kernel_rfl) (by kernel_rfl) (by kernel_rfl) (fun _ _ _ h => h) (by kernel_rfl) (by assumption) ?_
                simp only [Act.put, List.setIfInBounds_toArray, List.set_cons_zero, List.set_cons_succ]
                refine skip_at (i := 12) rfl (by kernel_rfl) (by kernel_rfl) (by kernel_rfl) (fun _ _ _ h => h) (by kernel_rfl) (by assumption) ?_
                simp only [Act.put, List.setIfInBounds_toArray, List.set_cons_zero, List.set_cons_succ]
                refine skip_at (i := 13) rfl (by kernel_rfl) (by kernel_rfl) (by kernel_rfl) (fun _ _ _ h => h) (by kernel_rfl) (by assumption) ?_
                simp only [Act.put, List.setIfInBounds_toArray, List.set_cons_zero, List.set_cons_succ]
                refine skip_at (i := 14) rfl (by kernel_rfl) (by kernel_rfl) (by kernel_rfl) (fun _ _ _ h => h) (by kernel_rfl) (by assumption) ?_
                simp only [Act.put, List.setIfInBounds_toArray, List.set_cons_zero, List.set_cons_succ]
                refine skip_at (i := 15) rfl (by kernel_rfl) (by kernel_rfl) (by kernel_rfl) (fun _ _ _ h => h) (by kernel_rfl) (by assumption) ?_
                simp only [Act.put, List.setIfInBounds_toArray, List.set_cons_zero, List.set_cons_succ]
                refine skip_at (i := 16) rfl (by kernel_rfl) (by kernel_rfl) (by kernel_rfl) (fun _ _ _ h => h) (by kernel_rfl) (by assumption) ?_
                simp only [Act.put, List.setIfInBounds_toArray, List.set_cons_zero, List.set_cons_succ]
                refine skip_at (i := 17) rfl (by kernel_rfl) (by kernel_rfl) (by kernel_rfl) (fun _ _ _ h => h) (by kernel_rfl) (by assumption) ?_
                simp only [Act.put, List.setIfInBounds_toArray, List.set_cons_zero, List.set_cons_succ]
                refine skip_at (i := 18) rfl (by kernel_rfl) (by kernel_rfl) (by kernel_rfl) (fun _ _ _ h => h) (by kernel_rfl) (by assumption) ?_
                simp only [Act.put, List.setIfInBounds_toArray, List.set_cons_zero, List.set_cons_succ]
                refine skip_at (i := 19) rfl (by kernel_rfl) (by kernel_rfl) (by kernel_rfl) (fun _ _ _ h => h) (by kernel_rfl) (by assumption) ?_
                simp only [Act.put, List.setIfInBounds_toArray, List.set_cons_zero, List.set_cons_succ]
                refine take_at (i := 20) (v := ?_) rfl (by kernel_rfl) (by kernel_rfl) (by kernel_rfl) (fun _ _ _ h => h) (by kernel_rfl) (by assumption) ?_ ?_
                rotate_left
                · (intro w hSw; (try dsimp only at hSw); go_simp; try with_reducible rfl)
                simp only [Act.put, List.setIfInBounds_toArray, List.set_cons_zero, List.set_cons_succ]
                refine take_at (i := 21) (v := ?_) rfl (by kernel_rfl) (by kernel_rfl) (by kernel_rfl) (fun _ _ _ h => h) (by kernel_rfl) (by assumption) ?_ ?_
                rotate_left
                · (intro w hSw; (try dsimp only at hSw); go_simp; try with_reducible rfl)
                simp only [Act.put, List.setIfInBounds_toArray, List.set_cons_zero, List.set_cons_succ]
                refine skip_at (i := 22) rfl (by kernel_rfl) (by kernel_rfl) (by kernel_rfl) (fun _ _ _ h => h) (by kernel_rfl) (by assumption) ?_
                simp only [Act.put, List.setIfInBounds_toArray, List.set_cons_zero, List.set_cons_succ]
                refine skip_at (i := 23) rfl (by kernel_rfl) (by kernel_rfl) (by kernel_rfl) (fun _ _ _ h => h) (by kernel_rfl) (by assumption) ?_
                simp only [Act.put, List.setIfInBounds_toArray, List.set_cons_zero, List.set_cons_succ]
                as_aux_lemma =>
                refine take_at (i := 24) (v := ?_) rfl (by kernel_rfl) (by kernel_rfl) (by kernel_rfl) (fun _ _ _ h => h) (by kernel_rfl) (by assumption) ?_ ?_
                rotate_left
                · (intro w hSw; (try dsimp only at hSw); go_simp; try with_reducible rfl)
                simp only [Act.put, List.setIfInBounds_toArray, List.set_cons_zero, List.set_cons_succ]
                refine take_at (i := 25) (v := ?_) rfl (by kernel_rfl) (by kernel_rfl) (by kernel_rfl) (fun _ _ _ h => h) (by kernel_rfl) (by assumption) ?_ ?_
                rotate_left
                · (intro w hSw; (try dsimp only at hSw); go_simp; try with_reducible rfl)
                simp only [Act.put, List.setIfInBounds_toArray, List.set_cons_zero, List.set_cons_succ]
                refine take_at (i := 26) (v := ?_) rfl (by kernel_rfl) (by kernel_rfl) (by kernel_rfl) (fun _ _ _ h => h) (by kernel_rfl) (by assumption) ?_ ?_
                rotate_left
                · (intro w hSw; (try dsimp only at hSw); go_simp; try with_reducible rfl)
                simp only [Act.put, List.setIfInBounds_toArray, List.set_cons_zero, List.set_cons_succ]
                refine take_at (i := 27) (v := ?_) rfl (by kernel_rfl) (by kernel_rfl) (by kernel_rfl) (fun _ _ _ h => h) (by kernel_rfl) (by assumption) ?_ ?_
                rotate_left
                · (intro w hSw; (try dsimp only at hSw); go_simp; try with_reducible rfl)
                simp only [Act.put, List.setIfInBounds_toArray, List.set_cons_zero, List.set_cons_succ]
                refine skip_at (i := 28) rfl (by kernel_rfl) (by kernel_rfl) (by kernel_rfl) (fun _ _ _ h => h) (by kernel_rfl) (by assumption) ?_
                simp only [Act.put, List.setIfInBounds_toArray, List.set_cons_zero, List.set_cons_succ]
                refine skip_at (i := 29) rfl (by kernel_rfl) (by kernel_rfl) (by kernel_rfl) (fun _ _ _ h => h) (by kernel_rfl) (by assumption) ?_
                simp only [Act.put, List.setIfInBounds_toArray, List.set_cons_zero, List.set_cons_succ]
                refine skip_at (i := 30) rfl (by kernel_rfl) (by kernel_rfl) (by kernel_rfl) (fun _ _ _ h => h) (by kernel_rfl) (by assumption) ?_
                simp only [Act.put, List.setIfInBounds_toArray, List.set_cons_zero, List.set_cons_succ]
                refine skip_at (i := 31) rfl (by kernel_rfl) (by kernel_rfl) (by kernel_rfl) (fun _ _ _ h => h) (by kernel_rfl) (by assumption) ?_
                simp only [Act.put, List.setIfInBounds_toArray, List.set_cons_zero, List.set_cons_succ]
                refine skip_at (i := 32) rfl (by kernel_rfl) (by kernel_rfl) (by kernel_rfl) (fun _ _ _ h => h) (by kernel_rfl) (by assumption) ?_
                simp only [Act.put, List.setIfInBounds_toArray, List.set_cons_zero, List.set_cons_succ]
                refine skip_at (i := 33) rfl (by kernel_rfl) (by kernel_rfl) (by kernel_rfl) (fun _ _ _ h => h) (by kernel_rfl) (by assumption) ?_
                simp only [Act.put, List.setIfInBounds_toArray, List.set_cons_zero, List.set_cons_succ]
                refine skip_at (i := 34) rfl (by kernel_rfl) (by kernel_rfl) (by kernel_rfl) (fun _ _ _ h => h) (by kernel_rfl) (by assumption) ?_
                simp only [Act.put, List.setIfInBounds_toArray, List.set_cons_zero, List.set_cons_succ]
                refine skip_at (i := 35) rfl (by kernel_rfl) (by kernel_rfl) (by kernel_rfl) (fun _ _ _ h => h) (by kernel_rfl) (by assumption) ?_
                simp only [Act.put, List.setIfInBounds_toArray, List.set_cons_zero, List.set_cons_succ]
                refine skip_at (i := 36) rfl (by kernel_rfl) (by kernel_rfl) (by kernel_rfl) (fun _ _ _ h => h) (by kernel_rfl) (by assumption) ?_
                simp only [Act.put, List.setIfInBounds_toArray, List.set_cons_zero, List.set_cons_succ]
                refine skip_at (i := 37) rfl (by kernel_rfl) (by kernel_rfl) (by kernel_rfl) (fun _ _ _ h => h) (by kernel_rfl) (by assumption) ?_
                simp only [Act.put, List.setIfInBounds_toArray, List.set_cons_zero, List.set_cons_succ]
                refine skip_at (i := 38) rfl (by kernel_rfl) (by kernel_rfl) (by kernel_rfl) (fun _ _ _ h => h) (by kernel_rfl) (by assumption) ?_
                simp only [Act.put, List.setIfInBounds_toArray, List.set_cons_zero, List.set_cons_succ]
                refine skip_at (i := 39) rfl (by kernel_rfl) (by kernel_rfl) (by kernel_rfl) (fun _ _ _ h => h) (by kernel_rfl) (by assumption) ?_
                simp only [Act.put, List.setIfInBounds_toArray, List.set_cons_zero, List.set_cons_succ]
                refine skip_at (i := 40) rfl (by kernel_rfl) (by kernel_rfl) (by kernel_rfl) (fun _ _ _ h => h) (by kernel_rfl) (by assumption) ?_
                simp only [Act.put, List.setIfInBounds_toArray, List.set_cons_zero, List.set_cons_succ]
                refine skip_at (i := 41) rfl (by kernel_rfl) (by kernel_rfl) (by kernel_rfl) (fun _ _ _ h => h) (by kernel_rfl) (by assumption) ?_
                simp only [Act.put, List.setIfInBounds_toArray, List.set_cons_zero, List.set_cons_succ]
                refine skip_at (i := 42) rfl (by kernel_rfl) (by kernel_rfl) (by kernel_rfl) (fun _ _ _ h => h) (by kernel_rfl) (by assumption) ?_
                simp only [Act.put, List.setIfInBounds_toArray, List.set_cons_zero, List.set_cons_succ]
                refine skip_at (i := 43) rfl (by kernel_rfl) (by kernel_rfl) (by kernel_rfl) (fun _ _ _ h => h) (by kernel_rfl) (by assumption) ?_
                simp only [Act.put, List.setIfInBounds_toArray, List.set_cons_zero, List.set_cons_succ]
                refine skip_at (i := 44) rfl (by kernel_rfl) (by kernel_rfl) (by kernel_rfl) (fun _ _ _ h => h) (by kernel_rfl) (by assumption) ?_
                simp only [Act.put, List.setIfInBounds_toArray, List.set_cons_zero, List.set_cons_succ]
                refine skip_at (i := 45) rfl (by kernel_rfl) (by kernel_rfl) (by kernel_rfl) (fun _ _ _ h => h) (by kernel_rfl) (by assumption) ?_
                simp only [Act.put, List.setIfInBounds_toArray, List.set_cons_zero, List.set_cons_succ]
                refine skip_at (i := 46) rfl (by kernel_rfl) (by kernel_rfl) (by kernel_rfl) (fun _ _ _ h => h) (by kernel_rfl) (by assumption) ?_
                simp only [Act.put, List.setIfInBounds_toArray, List.set_cons_zero, List.set_cons_succ]
                refine skip_at (i := 47) rfl (by kernel_rfl) (by kernel_rfl) (by kernel_rfl) (fun _ _ _ h => h) (by kernel_rfl) (by assumption) ?_
                simp only [Act.put, List.setIfInBounds_toArray, List.set_cons_zero, List.set_cons_succ]
                refine skip_at (i := 48) rfl (by kernel_rfl) (by kernel_rfl) (by kernel_rfl) (fun _ _ _ h => h) (by kernel_rfl) (by assumption) ?_
                simp only [Act.put, List.setIfInBounds_toArray, List.set_cons_zero, List.set_cons_succ]
                refine skip_at (i := 49) rfl (by kernel_rfl) (by kernel_rfl) (by kernel_rfl) (fun _ _ _ h => h) (by kernel_rfl) (by assumption) ?_
                simp only [Act.put, List.setIfInBounds_toArray, List.set_cons_zero, List.set_cons_succ]
                refine skip_at (i := 50) rfl (by kernel_rfl) (by kernel_rfl) (by kernel_rfl) (fun _ _ _ h => h) (by kernel_rfl) (by assumption) ?_
                simp only [Act.put, List.setIfInBounds_toArray, List.set_cons_zero, List.set_cons_succ]
                refine skip_at (i := 51) rfl (by kernel_rfl) (by kernel_rfl) (by kernel_rfl) (fun _ _ _ h => h) (by kernel_rfl) (by assumption) ?_
                simp only [Act.put, List.setIfInBounds_toArray, List.set_cons_zero, List.set_cons_succ]
                refine skip_at (i := 52) rfl (by kernel_rfl) (by kernel_rfl) (by kernel_rfl) (fun _ _ _ h => h) (by kernel_rfl) (by assumption) ?_
                simp only [Act.put, List.setIfInBounds_toArray, List.set_cons_zero, List.set_cons_succ]
                refine skip_at (i := 53) rfl (by kernel_rfl) (by kernel_rfl) (by kernel_rfl) (fun _ _ _ h => h) (by kernel_rfl) (by assumption) ?_
                simp only [Act.put, List.setIfInBounds_toArray, List.set_cons_zero, List.set_cons_succ]
                refine skip_at (i := 54) rfl (by kernel_rfl) (by kernel_rfl) (by kernel_rfl) (fun _ _ _ h => h) (by kernel_rfl) (by assumption) ?_
                simp only [Act.put, List.setIfInBounds_toArray, List.set_cons_zero, List.set_cons_succ]
                refine skip_at (i := 55) rfl (by kernel_rfl) (by kernel_rfl) (by kernel_rfl) (fun _ _ _ h => h) (by kernel_rfl) (by assumption) ?_
                simp only [Act.put, List.setIfInBounds_toArray, List.set_cons_zero, List.set_cons_succ]
                refine skip_at (i := 56) rfl (by kernel_rfl) (by kernel_rfl) (by kernel_rfl) (fun _ _ _ h => h) (by kernel_rfl) (by assumption) ?_
                simp only [Act.put, List.setIfInBounds_toArray, List.set_cons_zero, List.set_cons_succ]
                refine skip_at (i := 57) rfl (by kernel_rfl) (by kernel_rfl) (by kernel_rfl) (fun _ _ _ h => h) (by kernel_rfl) (by assumption) ?_
                simp only [Act.put, List.setIfInBounds_toArray, List.set_cons_zero, List.set_cons_succ]
                refine skip_at (i := 58) rfl (by kernel_rfl) (by kernel_rfl) (by kernel_rfl) (fun _ _ _ h => h) (by kernel_rfl) (by assumption) ?_
                simp only [Act.put, List.setIfInBounds_toArray, List.set_cons_zero, List.set_cons_succ]
                refine skip_at (i := 59) rfl (by kernel_rfl) (by kernel_rfl) (by kernel_rfl) (fun _ _ _ h => h) (by kernel_rfl) (by assumption) ?_
                simp only [Act.put, List.setIfInBounds_toArray, List.set_cons_zero, List.set_cons_succ]
                refine take_at (i := 60) (v := ?_) rfl (by kernel_rfl) (by kernel_rfl) (by kernel_rfl) (fun _ _ _ h => h) (by kernel_rfl) (by assumption) ?_ ?_
                rotate_left
                · (intro w hSw; (try dsimp only at hSw); go_simp; try with_reducible rfl)
                simp only [Act.put, List.setIfInBounds_toArray, List.set_cons_zero, List.set_cons_succ]
                refine take_at (i := 61) (v := ?_) rfl (by kernel_rfl) (by kernel_rfl) (by kernel_rfl) (fun _ _ _ h => h) (by kernel_rfl) (by assumption) ?_ ?_
                rotate_left
                · (intro w hSw; (try dsimp only at hSw); go_simp; try with_reducible rfl)
                simp only [Act.put, List.setIfInBounds_toArray, List.set_cons_zero, List.set_cons_succ]
                refine wpAnyH_done (by kernel_rfl) ?_ _
                clear hHeld HS
                go_wp2
                go_meet
                case rel => exact ⟨rfl, HU0⟩
        case rest => as_aux_lemma =>
        obtain ⟨rfl, HVc⟩ := hcut
        have HV2 := Lib.hid (HV.out.trans (HVc.out.mono HV.out.size))
        clear HVc HV HAT HBT HG HH HPK
        go_wp2
        go_roundg (n - (k + 1))
        case rel => exact ⟨k + 1, by go_num, by omega, Nat.le_refl _, HV2⟩
        case measure => omega
    · by_cases hil : i < len
      · have hi4 : ¬ (i : Int) < 40 := by have := HMM.out; omega
        clear HR
        go_wp2
        go_ret
        exact ⟨rfl, HB.out⟩
      · have hlen : ¬ (i : Int) < (len : Int) := by omega
        clear HR
        go_wp2
        go_ret
        exact ⟨rfl, HB.out⟩
theorem rowWhole_walk {H : Type} (enc : TypeId × Value → H) (base : Nat) (W : World)
    (v0 : Value) (d0 : DataW H) (p0 : List MemPlace) (ok0 : Value.okWide Try.prog W .any base 24 v0) (k0 : DataW.Trod enc Try.prog W 0 (fun _ => true) true 24 v0 d0 p0)
    (v1 : Value) (d1 : DataW H) (p1 : List MemPlace) (ok1 : Value.okWide Try.prog W .any base 25 v1) (k1 : DataW.Trod enc Try.prog W 0 (fun _ => true) true 25 v1 d1 p1) :
    Calls Try.prog 3 #[v0, v1] W fun e w' => e = .returned (.bool true) ∧ Below W.heap.size W w' := by
  obtain ⟨cols, u, L, rfl, hc, hL⟩ := open_line enc base W ok0 k0
  obtain ⟨a, len, cap, T, rfl, hT⟩ := open_acs enc base W ok1 k1
  exact whole_core W cols u L a len cap T hc hL hT
end Go.Proofs.Ythildghpgajgoaa.Lab
