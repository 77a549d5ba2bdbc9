/- RowRaises: labels are only joined by Raise and Mark; a level is the join of its cells'. -/
import Derived.Test.YthildghpgajgoaaRqBlind
import Derived.Test.YthildghpgajgoaaRpLev
namespace Go.Proofs.Ythildghpgajgoaa.Lab
open Go Go.RowKit Go.ChangeShapes Go.WideShapes Go.ChangeAt

theorem CRow.but {w w' : World} {lo B : Nat} {v : Value} {R : Cls} (h : CRow w lo v R) (k : But B w w') (hB : B < lo) : CRow w' lo v R := by
  refine World.ownsRow.kept h k ?_
  rcases h.2 with ⟨rfl, _⟩ | ⟨g, cap, cur, rfl, hb, _⟩
  · exact .inl rfl
  · exact .inr (by simp [Value.ownBlock]; omega)
theorem AcAt.what {w : World} {b : Nat} {a : Ac} (h : AcAt w b a) (x : Nat) : AcAt (w.setCell ⟨b, 0, none⟩ (.int .u8 (x : Nat))) b { a with what := x } := by
  obtain ⟨h0, h1, h2, h3, h4, h5, h6, h7, h8, h9⟩ := h
  refine ⟨by simpa using h0, World.cell?_setCell_same _ _ _ h1, ?_, ?_, ?_, ?_, ?_, ?_, ?_, ?_⟩
  all_goals (rw [World.cell?_setCell_other _ _ _ _ (by simp)]; assumption)
/-- An act in a block that can be written. -/
def AcF (w : World) (b : Nat) (a : Ac) : Prop := AcAt w b a ∧ ∀ i, w.frozen? ⟨b, i, none⟩ = false
theorem AcF.below {w w' : World} {b : Nat} {a : Ac} (h : AcF w b a) (hb : Below w.heap.size w w') : AcF w' b a := ⟨h.1.below hb, fun i => (World.frozen?_of_block (a := ⟨b, i, none⟩) (hb.block b h.1.1)).trans (h.2 i)⟩
theorem BAt.setL {w : World} {b : Nat} {c : Cel} (h : BAt w b c) (x : Int) : BAt (w.setCell ⟨b, 13, none⟩ (.int .u8 x)) b { c with l := x } := by
  obtain ⟨h0, ⟨a0, a1, a2, a3, a4, a5, a6, a7, a8, a9, a10, a11, a12, a13⟩, hf⟩ := h
  refine ⟨by simpa using h0, ⟨?_, ?_, ?_, ?_, ?_, ?_, ?_, ?_, ?_, ?_, ?_, ?_, ?_, ?_⟩, fun i => by simpa using hf i⟩
  all_goals first | (rw [World.cell?_setCell_other _ _ _ _ (by simp)]; assumption) | exact World.cell?_setCell_same _ _ _ a13
theorem does_mark (a : Ac) (R : Cls) : doesM { a with what := 11 } R = markM R (atA a R.length) 769 (celD a.cell).l := rfl
set_option maxHeartbeats 8000000 in
set_option maxRecDepth 100000 in
theorem raise_core (W : World) (cols : Nat) (u : Value) (L : List Dc) (a : Ac) (hc : cols < 256) (hL : DsIn W u L) (ha : a.ok) :
    Calls Try.prog 6 #[.agg #[.int .u8 (cols : Nat), u], acV a] W fun e w' => e = .returned (.bool true) ∧ Below W.heap.size W w' := by
  have HLD := Lib.hid hL
  have HOK := Lib.hid ha
  obtain ⟨la, lc, rfl⟩ := hL.shape
  obtain ⟨ln, hln⟩ : ∃ n, n = L.length := ⟨_, rfl⟩
  rw [← hln] at HLD ⊢
  obtain ⟨w0, hw0⟩ : ∃ y, y = (W.alloc (.cells #[.int .u8 (cols : Nat), .slice la ln lc] 24)).alloc (.cells #[.int .u8 (a.what : Nat), .int .u8 (a.at1 : Nat), .int .u8 (a.n : Nat), .bool a.wide, .int .u8 (a.cell.ru : Nat), .int .u8 (a.cell.ms : Nat), .int .u8 (a.cell.at1 : Nat), .bool a.cell.wide, .bool a.cell.high] 32) := ⟨_, rfl⟩
  obtain ⟨z, hz⟩ : ∃ y, y = W.heap.size := ⟨_, rfl⟩
  obtain ⟨s, hs⟩ : ∃ y, y = W.heap.size + 1 := ⟨_, rfl⟩
  have b0 : Below W.heap.size W w0 := by rw [hw0]; exact ((Below.refl _ _).alloc (Nat.le_refl _) _).alloc (by simp) _
  have HZ0 := Lib.hid (show LnAt w0 z cols (.slice la ln lc) by rw [hw0]; exact (LnAt.newAt W z hz cols _ _).below ((Below.refl _ _).alloc (Nat.le_refl _) _))
  have HA0 := Lib.hid (show AcF w0 s a by rw [hw0, hs]; exact ⟨AcAt.newAt _ _ (by simp) a _, fun i => by simp⟩)
  have HSZ := Lib.hid (show W.heap.size ≤ s ∧ s < w0.heap.size by rw [hw0, hs]; simp)
  have HB0 := Lib.hid b0
  have HCO := Lib.hid hc
  clear hL b0 hln hc ha
  go_enter Try.func6, Try.ntmps6
  go_upto_region 1 with (fail)
  rw [← hw0, ← hs, ← hz]
  clear hw0 hz hs
  go_wp2_with fail
  refine (works_any w0).mono ?_
  rintro e w1 ⟨rfl, b1⟩
  have HZ1 := Lib.hid (HZ0.out.below b1)
  have HA1 := Lib.hid (HA0.out.below b1)
  have HB1 := Lib.hid (HB0.out.trans (b1.mono HB0.out.size))
  have HS1 := Lib.hid (show s < w1.heap.size from Nat.lt_of_lt_of_le HSZ.out.2 b1.size)
  clear b1 HZ0 HB0 HA0
  obtain ⟨_, z0, z1⟩ := HZ1.out
  go_wp2_with fail
  refine (rrow_any _ cols _ L HCO.out (HLD.out.below HB1.out)).mono ?_
  rintro e w2 ⟨r, rfl, r2, b2⟩
  obtain ⟨R, hR⟩ : ∃ R, R = rowM cols L := ⟨_, rfl⟩
  have HRF := Lib.hid (show Wh R ∧ Lv R ∧ R.length ≤ 30 by rw [hR]; exact ⟨(rowM_whole cols L).1, (rowM_whole cols L).2.1, by rw [(rowM_whole cols L).2.2]; omega⟩)
  rw [← hR] at r2
  obtain ⟨ra, rc, rfl⟩ := r2.shape
  obtain ⟨n, hn⟩ : ∃ n, n = R.length := ⟨_, rfl⟩
  have HN := Lib.hid hn
  rw [← hn] at r2 ⊢
  have HR2 := Lib.hid r2
  have HA2 := Lib.hid (HA1.out.below b2)
  have HB2 := Lib.hid (HB1.out.trans (b2.mono HB1.out.size))
  have hn30 : n ≤ 30 := by rw [hn]; exact HRF.out.2.2
  clear r2 b2 HZ1 HB1 HA1 z0 z1 hR hn HLD
  go_wp2_with fail
  refine (raiseAll_any w2 _ R 1 HR2.out.row (by rw [← HN.out]; omega) HRF.out.2.1 (.inr rfl)).mono ?_
  rintro e w3 ⟨up, rfl, r3, b3⟩
  obtain ⟨ua, uc, rfl⟩ := r3.shape
  have hun : (raiseM R 1).length = n := by rw [len_raise]; exact HN.out.symm
  rw [hun] at r3 ⊢
  have HU3 := Lib.hid r3.row
  have HR3 := Lib.hid (HR2.out.below b3)
  have HA3 := Lib.hid (HA2.out.below b3)
  have HB3 := Lib.hid (HB2.out.trans (b3.mono HB2.out.size))
  clear r3 b3 HR2 HA2 HB2 hun
  go_wp2
  go_loopg [7] n (fun G i wr => ∃ k : Nat, i = .int .i64 k ∧ k ≤ n ∧ n - k ≤ G ∧ Hid (Below w3.heap.size w3 wr))
  case atStart => exact ⟨0, rfl, Nat.zero_le _, Nat.sub_le _ _, Lib.hid (Below.refl _ _)⟩
  case round =>
    obtain ⟨i, rfl, hin, hgk, HX⟩ := hrel
    by_cases hlt : i < n
    · obtain ⟨g, o, cp, e, _, hg, hC⟩ := (HR3.out.row.below HX.out).open (by rw [← HN.out]; omega)
      injection e with e1 e2 e3
      subst e1 e3
      clear e2
      obtain ⟨h, q, cq, e, _, hh, hD⟩ := (HU3.out.below HX.out).open (by rw [len_raise, ← HN.out]; omega)
      injection e with e1 e2 e3
      subst e1 e3
      clear e2
      obtain ⟨c, hc⟩ : ∃ c, c = gc R i := ⟨_, rfl⟩
      obtain ⟨d, hd⟩ : ∃ d : Cel, d = { c with l := 1 } := ⟨_, rfl⟩
      have hiR : i < R.length := by rw [← HN.out]; exact hlt
      have hat := hC i hiR
      have hbt := hD i (by rw [len_raise]; exact hiR)
      rw [raise_high HRF.out.2.1 hiR, ← hc, ← hd] at hbt
      rw [← hc] at hat
      have HAT := Lib.hid hat
      have HBT := Lib.hid hbt
      have HG := Lib.hid hg
      have HH := Lib.hid hh
      have HD := Lib.hid hd
      have HLV := Lib.hid (show levelM R (i : Int) ((i : Int) + 1) = c.l by rw [level_one HRF.out.2.1 hiR, ← hc])
      obtain ⟨x0, x1, x2, x3, x4, x5, x6, x7, x8, x9, x10, x11, x12, x13⟩ := hat
      obtain ⟨w4, hw4⟩ : ∃ y, y = wr.alloc (.cells #[.int .i32 c.ru, .int .i32 c.m0, .int .i32 c.m1, .int .u8 c.k, .int .u8 c.a.fg.k, .int .u8 c.a.fg.r, .int .u8 c.a.fg.g, .int .u8 c.a.fg.b, .int .u8 c.a.bg.k, .int .u8 c.a.bg.r, .int .u8 c.a.bg.g, .int .u8 c.a.bg.b, .int .u16 (c.a.fl : Nat), .int .u8 c.l] 44) := ⟨_, rfl⟩
      obtain ⟨y, hy⟩ : ∃ y, y = wr.heap.size := ⟨_, rfl⟩
      have b4 : Below wr.heap.size wr w4 := by rw [hw4]; exact (Below.refl _ _).alloc (Nat.le_refl _) _
      have HY4 := Lib.hid (show BAt w4 y c by rw [hw4]; exact BAt.newAt wr y hy c _)
      have HX4 := Lib.hid b4
      have HYY := Lib.hid (show wr.heap.size ≤ y by omega)
      clear hC hD hc hbt hg hh hd hiR b4
      go_upto_region 9 with (fail)
      rw [← hw4, ← hy]
      clear hw4 hy x0 x1 x2 x3 x4 x5 x6 x7 x8 x9 x10 x11 x12 x13
      obtain ⟨w5, hw5⟩ : ∃ x, x = w4.setCell ⟨y, 13, none⟩ (.int .u8 1) := ⟨_, rfl⟩
      have HY5 := Lib.hid (show BAt w5 y d by rw [hw5, HD.out]; exact HY4.out.setL 1)
      have HX5 := Lib.hid (show Below wr.heap.size wr w5 by rw [hw5]; exact HX4.out.trans ((But.set w4 y 13 _).below (C := wr.heap.size) HYY.out HX4.out.size))
      have y13 := HY4.out.2.1.2.2.2.2.2.2.2.2.2.2.2.2.2
      have yf := HY4.out.2.2
      go_upto_region 10 with (fail)
      rw [← hw5]
      clear hw5 y13 yf HY4 HX4
      have d1 : ¬ (n : Int) ≤ (i : Int) := by omega
      have d2 : decide ((n : Int) ≤ (i : Int)) = false := decide_eq_false d1
      have d3 : ¬ n ≤ i := by omega
      have s1 : IntKind.i64.wrap ((i : Int) + 1) = (i : Int) + 1 := by rw [IntKind.wrap_i64]; omega
      have hq := fun w => eqCel w d d
      rw [show decide (d = d) = true from decide_eq_true rfl] at hq
      have HS := Lib.hid (show ∀ V, Below w5.heap.size w5 V → (fun w' => w'.cell? ⟨h, q + i * 14, none⟩ = some (.int .i32 d.ru) ∧ w'.cell? ⟨h, q + i * 14 + 1, none⟩ = some (.int .i32 d.m0) ∧ w'.cell? ⟨h, q + i * 14 + 2, none⟩ = some (.int .i32 d.m1) ∧ w'.cell? ⟨h, q + i * 14 + 3, none⟩ = some (.int .u8 d.k) ∧ w'.cell? ⟨h, q + i * 14 + 4, none⟩ = some (.int .u8 d.a.fg.k) ∧ w'.cell? ⟨h, q + i * 14 + 5, none⟩ = some (.int .u8 d.a.fg.r) ∧ w'.cell? ⟨h, q + i * 14 + 6, none⟩ = some (.int .u8 d.a.fg.g) ∧ w'.cell? ⟨h, q + i * 14 + 7, none⟩ = some (.int .u8 d.a.fg.b) ∧ w'.cell? ⟨h, q + i * 14 + 8, none⟩ = some (.int .u8 d.a.bg.k) ∧ w'.cell? ⟨h, q + i * 14 + 9, none⟩ = some (.int .u8 d.a.bg.r) ∧ w'.cell? ⟨h, q + i * 14 + 10, none⟩ = some (.int .u8 d.a.bg.g) ∧ w'.cell? ⟨h, q + i * 14 + 11, none⟩ = some (.int .u8 d.a.bg.b) ∧ w'.cell? ⟨h, q + i * 14 + 12, none⟩ = some (.int .u16 (d.a.fl : Nat)) ∧ w'.cell? ⟨h, q + i * 14 + 13, none⟩ = some (.int .u8 d.l) ∧ w'.cell? ⟨y, 0, none⟩ = some (.int .i32 d.ru) ∧ w'.cell? ⟨y, 1, none⟩ = some (.int .i32 d.m0) ∧ w'.cell? ⟨y, 2, none⟩ = some (.int .i32 d.m1) ∧ w'.cell? ⟨y, 3, none⟩ = some (.int .u8 d.k) ∧ w'.cell? ⟨y, 4, none⟩ = some (.int .u8 d.a.fg.k) ∧ w'.cell? ⟨y, 5, none⟩ = some (.int .u8 d.a.fg.r) ∧ w'.cell? ⟨y, 6, none⟩ = some (.int .u8 d.a.fg.g) ∧ w'.cell? ⟨y, 7, none⟩ = some (.int .u8 d.a.fg.b) ∧ w'.cell? ⟨y, 8, none⟩ = some (.int .u8 d.a.bg.k) ∧ w'.cell? ⟨y, 9, none⟩ = some (.int .u8 d.a.bg.r) ∧ w'.cell? ⟨y, 10, none⟩ = some (.int .u8 d.a.bg.g) ∧ w'.cell? ⟨y, 11, none⟩ = some (.int .u8 d.a.bg.b) ∧ w'.cell? ⟨y, 12, none⟩ = some (.int .u16 (d.a.fl : Nat)) ∧ w'.cell? ⟨y, 13, none⟩ = some (.int .u8 d.l) ∧ w'.cell? ⟨g, o + i * 14 + 13, none⟩ = some (.int .u8 c.l)) V from fun V hb => by
        have hx := HX5.out.trans (hb.mono HX5.out.size)
        have h1 := HAT.out.same (hx.block g HG.out)
        have h2 := HBT.out.same (hx.block h HH.out)
        have h3 := (HY5.out.below hb).2.1
        obtain ⟨a0, a1, a2, a3, a4, a5, a6, a7, a8, a9, a10, a11, a12, a13⟩ := h1
        obtain ⟨b0, b1, b2, b3, b4, b5, b6, b7, b8, b9, b10, b11, b12, b13⟩ := h2
        obtain ⟨c0, c1, c2, c3, c4, c5, c6, c7, c8, c9, c10, c11, c12, c13⟩ := h3
        exact ⟨b0, b1, b2, b3, b4, b5, b6, b7, b8, b9, b10, b11, b12, b13, c0, c1, c2, c3, c4, c5, c6, c7, c8, c9, c10, c11, c12, c13, a13⟩)
      dsimp only at HS
      refine wp_region_held_drew (S := fun w' => w'.cell? ⟨h, q + i * 14, none⟩ = some (.int .i32 d.ru) ∧ w'.cell? ⟨h, q + i * 14 + 1, none⟩ = some (.int .i32 d.m0) ∧ w'.cell? ⟨h, q + i * 14 + 2, none⟩ = some (.int .i32 d.m1) ∧ w'.cell? ⟨h, q + i * 14 + 3, none⟩ = some (.int .u8 d.k) ∧ w'.cell? ⟨h, q + i * 14 + 4, none⟩ = some (.int .u8 d.a.fg.k) ∧ w'.cell? ⟨h, q + i * 14 + 5, none⟩ = some (.int .u8 d.a.fg.r) ∧ w'.cell? ⟨h, q + i * 14 + 6, none⟩ = some (.int .u8 d.a.fg.g) ∧ w'.cell? ⟨h, q + i * 14 + 7, none⟩ = some (.int .u8 d.a.fg.b) ∧ w'.cell? ⟨h, q + i * 14 + 8, none⟩ = some (.int .u8 d.a.bg.k) ∧ w'.cell? ⟨h, q + i * 14 + 9, none⟩ = some (.int .u8 d.a.bg.r) ∧ w'.cell? ⟨h, q + i * 14 + 10, none⟩ = some (.int .u8 d.a.bg.g) ∧ w'.cell? ⟨h, q + i * 14 + 11, none⟩ = some (.int .u8 d.a.bg.b) ∧ w'.cell? ⟨h, q + i * 14 + 12, none⟩ = some (.int .u16 (d.a.fl : Nat)) ∧ w'.cell? ⟨h, q + i * 14 + 13, none⟩ = some (.int .u8 d.l) ∧ w'.cell? ⟨y, 0, none⟩ = some (.int .i32 d.ru) ∧ w'.cell? ⟨y, 1, none⟩ = some (.int .i32 d.m0) ∧ w'.cell? ⟨y, 2, none⟩ = some (.int .i32 d.m1) ∧ w'.cell? ⟨y, 3, none⟩ = some (.int .u8 d.k) ∧ w'.cell? ⟨y, 4, none⟩ = some (.int .u8 d.a.fg.k) ∧ w'.cell? ⟨y, 5, none⟩ = some (.int .u8 d.a.fg.r) ∧ w'.cell? ⟨y, 6, none⟩ = some (.int .u8 d.a.fg.g) ∧ w'.cell? ⟨y, 7, none⟩ = some (.int .u8 d.a.fg.b) ∧ w'.cell? ⟨y, 8, none⟩ = some (.int .u8 d.a.bg.k) ∧ w'.cell? ⟨y, 9, none⟩ = some (.int .u8 d.a.bg.r) ∧ w'.cell? ⟨y, 10, none⟩ = some (.int .u8 d.a.bg.g) ∧ w'.cell? ⟨y, 11, none⟩ = some (.int .u8 d.a.bg.b) ∧ w'.cell? ⟨y, 12, none⟩ = some (.int .u16 (d.a.fl : Nat)) ∧ w'.cell? ⟨y, 13, none⟩ = some (.int .u8 d.l) ∧ w'.cell? ⟨g, o + i * 14 + 13, none⟩ = some (.int .u8 c.l)) (by kernel_rfl) ?_ (fun hHeld => ?_)
      · exact HS.out _ ⟨rfl, rfl, rfl, Nat.le_refl _, fun _ _ => rfl⟩
      obtain ⟨u0, hu0⟩ : ∃ y, y = w5.drew := ⟨_, rfl⟩
      have bd : Below w5.heap.size w5 u0 := by rw [hu0]; exact ⟨rfl, rfl, rfl, Nat.le_refl _, fun _ _ => rfl⟩
      have HU0 := Lib.hid bd
      replace hHeld := HS.out _ bd
      rw [← hu0]
      clear hu0 bd
      refine take_at (i := 0) (v := ?_) rfl (by kernel_rfl) (by kernel_rfl) (by kernel_rfl) (fun _ _ _ h => h) (by kernel_rfl) (by assumption) ?_ ?_
      rotate_left
      · (intro w hSw; (try dsimp only at hSw); go_simp; try with_reducible rfl)
      simp only [Act.put, List.setIfInBounds_toArray, List.set_cons_zero, List.set_cons_succ]
      refine take_at (i := 1) (v := ?_) rfl (by kernel_rfl) (by kernel_rfl) (by kernel_rfl) (fun _ _ _ h => h) (by kernel_rfl) (by assumption) ?_ ?_
      rotate_left
      · (intro w hSw; (try dsimp only at hSw); go_simp; try with_reducible rfl)
      simp only [Act.put, List.setIfInBounds_toArray, List.set_cons_zero, List.set_cons_succ]
      refine take_at (i := 2) (v := ?_) rfl (by kernel_rfl) (by kernel_rfl) (by kernel_rfl) (fun _ _ _ h => h) (by kernel_rfl) (by assumption) ?_ ?_
      rotate_left
      · (intro w hSw; (try dsimp only at hSw); go_simp; try with_reducible rfl)
      simp only [Act.put, List.setIfInBounds_toArray, List.set_cons_zero, List.set_cons_succ]
      refine take_at (i := 3) (v := ?_) rfl (by kernel_rfl) (by kernel_rfl) (by kernel_rfl) (fun _ _ _ h => h) (by kernel_rfl) (by assumption) ?_ ?_
      rotate_left
      · (intro w hSw; (try dsimp only at hSw); go_simp; try with_reducible rfl)
      simp only [Act.put, List.setIfInBounds_toArray, List.set_cons_zero, List.set_cons_succ]
      refine take_at (i := 4) (v := ?_) rfl (by kernel_rfl) (by kernel_rfl) (by kernel_rfl) (fun _ _ _ h => h) (by kernel_rfl) (by assumption) ?_ ?_
      rotate_left
      · (intro w hSw; (try dsimp only at hSw); go_simp; try with_reducible rfl)
      simp only [Act.put, List.setIfInBounds_toArray, List.set_cons_zero, List.set_cons_succ]
      refine take_at (i := 5) (v := ?_) rfl (by kernel_rfl) (by kernel_rfl) (by kernel_rfl) (fun _ _ _ h => h) (by kernel_rfl) (by assumption) ?_ ?_
      rotate_left
      · (intro w hSw; (try dsimp only at hSw); go_simp; try with_reducible rfl)
      simp only [Act.put, List.setIfInBounds_toArray, List.set_cons_zero, List.set_cons_succ]
      refine take_at (i := 6) (v := ?_) rfl (by kernel_rfl) (by kernel_rfl) (by kernel_rfl) (fun _ _ _ h => h) (by kernel_rfl) (by assumption) ?_ ?_
      rotate_left
      · (intro w hSw; (try dsimp only at hSw); go_simp; try with_reducible rfl)
      simp only [Act.put, List.setIfInBounds_toArray, List.set_cons_zero, List.set_cons_succ]
      refine take_at (i := 7) (v := ?_) rfl (by kernel_rfl) (by kernel_rfl) (by kernel_rfl) (fun _ _ _ h => h) (by kernel_rfl) (by assumption) ?_ ?_
      rotate_left
      · (intro w hSw; (try dsimp only at hSw); go_simp; try with_reducible rfl)
      simp only [Act.put, List.setIfInBounds_toArray, List.set_cons_zero, List.set_cons_succ]
      refine take_at (i := 8) (v := ?_) rfl (by kernel_rfl) (by kernel_rfl) (by kernel_rfl) (fun _ _ _ h => h) (by kernel_rfl) (by assumption) ?_ ?_
      rotate_left
      · (intro w hSw; (try dsimp only at hSw); go_simp; try with_reducible rfl)
      simp only [Act.put, List.setIfInBounds_toArray, List.set_cons_zero, List.set_cons_succ]
      refine take_at (i := 9) (v := ?_) rfl (by kernel_rfl) (by kernel_rfl) (by kernel_rfl) (fun _ _ _ h => h) (by kernel_rfl) (by assumption) ?_ ?_
      rotate_left
      · (intro w hSw; (try dsimp only at hSw); go_simp; try with_reducible rfl)
      simp only [Act.put, List.setIfInBounds_toArray, List.set_cons_zero, List.set_cons_succ]
      refine take_at (i := 10) (v := ?_) rfl (by kernel_rfl) (by kernel_rfl) (by kernel_rfl) (fun _ _ _ h => h) (by kernel_rfl) (by assumption) ?_ ?_
      rotate_left
      · (intro w hSw; (try dsimp only at hSw); go_simp; try with_reducible rfl)
      simp only [Act.put, List.setIfInBounds_toArray, List.set_cons_zero, List.set_cons_succ]
      refine take_at (i := 11) (v := ?_) rfl (by kernel_rfl) (by kernel_rfl) (by kernel_rfl) (fun _ _ _ h => h) (by kernel_rfl) (by assumption) ?_ ?_
      rotate_left
      · (intro w hSw; (try dsimp only at hSw); go_simp; try with_reducible rfl)
      simp only [Act.put, List.setIfInBounds_toArray, List.set_cons_zero, List.set_cons_succ]
      refine take_at (i := 12) (v := ?_) rfl (by kernel_rfl) (by kernel_rfl) (by kernel_rfl) (fun _ _ _ h => h) (by kernel_rfl) (by assumption) ?_ ?_
      rotate_left
      · (intro w hSw; (try dsimp only at hSw); go_simp; try with_reducible rfl)
      simp only [Act.put, List.setIfInBounds_toArray, List.set_cons_zero, List.set_cons_succ]
      refine take_at (i := 13) (v := ?_) rfl (by kernel_rfl) (by kernel_rfl) (by kernel_rfl) (fun _ _ _ h => h) (by kernel_rfl) (by assumption) ?_ ?_
      rotate_left
      · (intro w hSw; (try dsimp only at hSw); go_simp; try with_reducible rfl)
      simp only [Act.put, List.setIfInBounds_toArray, List.set_cons_zero, List.set_cons_succ]
      refine take_at (i := 14) (v := ?_) rfl (by kernel_rfl) (by kernel_rfl) (by kernel_rfl) (fun _ _ _ h => h) (by kernel_rfl) (by assumption) ?_ ?_
      rotate_left
      · (intro w hSw; (try dsimp only at hSw); go_simp; try with_reducible rfl)
      simp only [Act.put, List.setIfInBounds_toArray, List.set_cons_zero, List.set_cons_succ]
      refine take_at (i := 15) (v := ?_) rfl (by kernel_rfl) (by kernel_rfl) (by kernel_rfl) (fun _ _ _ h => h) (by kernel_rfl) (by assumption) ?_ ?_
      rotate_left
      · (intro w hSw; (try dsimp only at hSw); go_simp; try with_reducible rfl)
      simp only [Act.put, List.setIfInBounds_toArray, List.set_cons_zero, List.set_cons_succ]
      refine take_at (i := 16) (v := ?_) rfl (by kernel_rfl) (by kernel_rfl) (by kernel_rfl) (fun _ _ _ h => h) (by kernel_rfl) (by assumption) ?_ ?_
      rotate_left
      · (intro w hSw; (try dsimp only at hSw); go_simp; try with_reducible rfl)
      simp only [Act.put, List.setIfInBounds_toArray, List.set_cons_zero, List.set_cons_succ]
      refine take_at (i := 18) (v := ?_) rfl (by kernel_rfl) (by kernel_rfl) (by kernel_rfl) (fun _ _ _ h => h) (by kernel_rfl) (by assumption) ?_ ?_
      rotate_left
      · (intro w hSw; (try dsimp only at hSw); go_simp; try with_reducible rfl)
      simp only [Act.put, List.setIfInBounds_toArray, List.set_cons_zero, List.set_cons_succ]
      refine take_at (i := 19) (v := ?_) rfl (by kernel_rfl) (by kernel_rfl) (by kernel_rfl) (fun _ _ _ h => h) (by kernel_rfl) (by assumption) ?_ ?_
      rotate_left
      · (intro w hSw; (try dsimp only at hSw); go_simp; try with_reducible rfl)
      simp only [Act.put, List.setIfInBounds_toArray, List.set_cons_zero, List.set_cons_succ]
      refine take_at (i := 20) (v := ?_) rfl (by kernel_rfl) (by kernel_rfl) (by kernel_rfl) (fun _ _ _ h => h) (by kernel_rfl) (by assumption) ?_ ?_
      rotate_left
      · (intro w hSw; (try dsimp only at hSw); go_simp; try with_reducible rfl)
      simp only [Act.put, List.setIfInBounds_toArray, List.set_cons_zero, List.set_cons_succ]
      refine take_at (i := 21) (v := ?_) rfl (by kernel_rfl) (by kernel_rfl) (by kernel_rfl) (fun _ _ _ h => h) (by kernel_rfl) (by assumption) ?_ ?_
      rotate_left
      · (intro w hSw; (try dsimp only at hSw); go_simp; try with_reducible rfl)
      simp only [Act.put, List.setIfInBounds_toArray, List.set_cons_zero, List.set_cons_succ]
      refine take_at (i := 22) (v := ?_) rfl (by kernel_rfl) (by kernel_rfl) (by kernel_rfl) (fun _ _ _ h => h) (by kernel_rfl) (by assumption) ?_ ?_
      rotate_left
      · (intro w hSw; (try dsimp only at hSw); go_simp; try with_reducible rfl)
      simp only [Act.put, List.setIfInBounds_toArray, List.set_cons_zero, List.set_cons_succ]
      refine do_at (i := 17) rfl (by kernel_rfl) (by kernel_rfl) (fun K hK => ?_)
      go_wp2_with fail
      refine (level_any u0 _ R (i : Int) ((i : Int) + 1) (HR3.out.row.below (HX.out.trans ((HX5.out.trans (HU0.out.mono HX5.out.size)).mono HX.out.size))) HRF.out.2.1 (by rw [← HN.out]; omega)).mono ?_
      rintro e w6 ⟨rfl, b6⟩
      have HX6 := Lib.hid (HU0.out.trans (b6.mono HU0.out.size))
      clear b6
      rw [HLV.out]
      go_wp2_with fail
      refine hK.out _ _ ?_ (fun hHeld => ?_)
      · exact HS.out _ HX6.out
      clear hK K
      try simp only [Act.put, List.setIfInBounds_toArray, List.set_cons_zero, List.set_cons_succ]
      refine take_at (i := 23) (v := ?_) rfl (by kernel_rfl) (by kernel_rfl) (by kernel_rfl) (fun _ _ _ h => h) (by kernel_rfl) (by assumption) ?_ ?_
      rotate_left
      · (intro w hSw; (try dsimp only at hSw); go_simp; try with_reducible rfl)
      simp only [Act.put, List.setIfInBounds_toArray, List.set_cons_zero, List.set_cons_succ]
      refine take_at (i := 24) (v := ?_) rfl (by kernel_rfl) (by kernel_rfl) (by kernel_rfl) (fun _ _ _ h => h) (by kernel_rfl) (by assumption) ?_ ?_
      rotate_left
      · (intro w hSw; (try dsimp only at hSw); go_simp; try with_reducible rfl)
      simp only [Act.put, List.setIfInBounds_toArray, List.set_cons_zero, List.set_cons_succ]
      refine wpAnyH_done (by kernel_rfl) ?_ _
      have HX7 := Lib.hid (HX.out.trans ((HX5.out.trans (HX6.out.mono HX5.out.size)).mono HX.out.size))
      clear hHeld HS hq HX HX5 HX6 HU0 HAT HBT HY5
      go_wp2
      go_roundg (n - (i + 1))
      case rel => exact ⟨i + 1, by go_num, by omega, Nat.le_refl _, HX7⟩
      case measure => omega
    · have HB4 := Lib.hid (HB3.out.trans (HX.out.mono HB3.out.size))
      have HR4 := Lib.hid (HR3.out.below HX.out)
      have HU4 := Lib.hid (HU3.out.below HX.out)
      have HA4 := Lib.hid (HA3.out.below HX.out)
      clear HX HB3 HR3 HU3 HA3
      go_wp2_with fail
      refine (raiseAll_any wr _ R 0 HR4.out.row (by rw [← HN.out]; omega) HRF.out.2.1 (.inl rfl)).mono ?_
      rintro e v1 ⟨qv, rfl, r5, b5⟩
      rw [raise_low HRF.out.2.1] at r5
      obtain ⟨qa, qc, rfl⟩ := r5.shape
      rw [← HN.out] at r5 ⊢
      have HQ5 := Lib.hid r5.row
      have HB5 := Lib.hid (HB4.out.trans (b5.mono HB4.out.size))
      have HR5 := Lib.hid (HR4.out.below b5)
      have HU5 := Lib.hid (HU4.out.below b5)
      have HA5 := Lib.hid (HA4.out.below b5)
      clear r5 b5 HB4 HR4 HU4 HA4
      go_wp2_with fail
      refine (rsame_any v1 _ _ R R HQ5.out HR5.out.row (by rw [← HN.out]; omega)).mono ?_
      rintro e v2 ⟨rfl, b5⟩
      rw [show decide (R = R) = true from decide_eq_true rfl]
      have HB6 := Lib.hid (HB5.out.trans (b5.mono HB5.out.size))
      have HR6 := Lib.hid (HR5.out.below b5)
      have HU6 := Lib.hid (HU5.out.below b5)
      have HA6 := Lib.hid (HA5.out.below b5)
      clear b5 HQ5 HB5 HR5 HU5 HA5
      by_cases h0 : 0 < n
      · have d0 : (0 : Int) < (n : Int) := by omega
        have d1 : decide ((0 : Int) < (n : Int)) = true := decide_eq_true d0
        go_wp2_with fail
        refine (level_any v2 _ (raiseM R 1) 0 99 HU6.out (HRF.out.2.1.raise (.inr rfl)) (by rw [len_raise, ← HN.out]; omega)).mono ?_
        rintro e v3 ⟨rfl, b5⟩
        rw [level_up HRF.out.2.1 (by rw [← HN.out]; exact h0) (by rw [← HN.out]; omega)]
        have HB7 := Lib.hid (HB6.out.trans (b5.mono HB6.out.size))
        have HR7 := Lib.hid (HR6.out.below b5)
        have HA7 := Lib.hid (HA6.out.below b5)
        clear b5 HU6 HB6 HR6 HA6 h0
        go_wp2_with fail
        refine (level_any v3 _ R 3 3 HR7.out.row HRF.out.2.1 (by rw [← HN.out]; omega)).mono ?_
        rintro e v4 ⟨rfl, b5⟩
        rw [level_none]
        have HB8 := Lib.hid (HB7.out.trans (b5.mono HB7.out.size))
        have HR8 := Lib.hid (HR7.out.below b5)
        have HA8 := Lib.hid (HA7.out.below b5)
        clear b5 HB7 HR7 HA7
        obtain ⟨v5, hv5⟩ : ∃ x, x = v4.setCell ⟨s, 0, none⟩ (.int .u8 11) := ⟨_, rfl⟩
        have bt : But s v4 v5 := by rw [hv5]; exact But.set _ _ _ _
        obtain ⟨a2, ha2⟩ : ∃ x : Ac, x = { a with what := 11 } := ⟨_, rfl⟩
        have HA9 := Lib.hid (show AcAt v5 s a2 by rw [hv5, ha2]; exact HA8.out.1.what 11)
        have HR9 := Lib.hid (HR8.out.but bt HS1.out)
        have HB9 := Lib.hid (HB8.out.trans (bt.below (C := W.heap.size) HSZ.out.1 HB8.out.size))
        have HE := Lib.hid (show doesM a2 R = markM R (atA a R.length) 769 (celD a.cell).l by rw [ha2]; exact does_mark a R)
        have HOK2 := Lib.hid (show a2.ok by rw [ha2]; exact ⟨show 11 < 256 by decide, HOK.out.2⟩)
        have s0 := HA8.out.1.2.1
        have sf := HA8.out.2
        clear bt ha2 HB8 HR8
        go_upto_region 15 with (fail)
        rw [← hv5]
        clear hv5 s0 sf HA8
        obtain ⟨_, q0, q1, q2, q3, q4, q5, q6, q7, q8⟩ := HA9.out
        go_wp2_with fail
        refine ((show RowOk v5 _ R from ⟨HR9.out.row, HRF.out.1, HRF.out.2.1, by have := HRF.out.2.2; omega⟩).act a2 HOK2.out).mono ?_
        rintro e v6 ⟨nx, rfl, r6, b6⟩
        rw [HE.out] at r6
        obtain ⟨M, hM⟩ : ∃ M, M = markM R (atA a R.length) 769 (celD a.cell).l := ⟨_, rfl⟩
        rw [← hM] at r6
        have HML := Lib.hid (show n = M.length by rw [hM, len_mark]; exact HN.out)
        have HMS := Lib.hid (show ∀ j, j < R.length → (gc R j).l ≤ (gc M j).l ∧ (gc M j).ru = (gc R j).ru ∧ (gc M j).k = (gc R j).k ∧ (gc M j).a = (gc R j).a from fun j hj => by rw [hM]; exact mark_same _ _ _ hj)
        obtain ⟨na, nc, rfl⟩ := r6.1.shape
        have r7 := r6.1
        rw [← HML.out] at r7 ⊢
        have HN6 := Lib.hid r7
        have HR10 := Lib.hid (HR9.out.row.below b6)
        have HB10 := Lib.hid (HB9.out.trans (b6.mono HB9.out.size))
        clear r6 r7 b6 hM HR9 HB9 HE q0 q1 q2 q3 q4 q5 q6 q7 q8
        go_wp2
        go_loopg [10] n (fun G i wr => ∃ k : Nat, i = .int .i64 k ∧ k ≤ n ∧ n - k ≤ G ∧ Hid (Below v6.heap.size v6 wr))
        case atStart => exact ⟨0, rfl, Nat.zero_le _, Nat.sub_le _ _, Lib.hid (Below.refl _ _)⟩
        case round =>
          obtain ⟨j, rfl, hjn, hgj, HY⟩ := hrel
          by_cases hlt2 : j < n
          · obtain ⟨g, o, cp, e, _, hg, hC⟩ := (HR10.out.below HY.out).open (by rw [← HN.out]; omega)
            injection e with e1 e2 e3
            subst e1 e3
            clear e2
            obtain ⟨h, q, cq, e, _, hh, hD⟩ := (HN6.out.below HY.out).open (by rw [← HML.out]; omega)
            injection e with e1 e2 e3
            subst e1 e3
            clear e2
            have hjR : j < R.length := by rw [← HN.out]; exact hlt2
            have hat := hC j hjR
            have hbt := hD j (by rw [← HML.out]; exact hlt2)
            obtain ⟨m1, m2, m3, m4⟩ := HMS.out j hjR
            obtain ⟨c, hc⟩ : ∃ c, c = gc R j := ⟨_, rfl⟩
            obtain ⟨x, hx⟩ : ∃ x, x = (gc M j).l := ⟨_, rfl⟩
            rw [← hc] at hat m1 m2 m3 m4
            rw [← hx] at m1
            have HAT := Lib.hid hat
            have HBT := Lib.hid hbt
            have HG := Lib.hid hg
            have HH := Lib.hid hh
            have HX := Lib.hid hx
            have HM4 := Lib.hid (show (gc M j).ru = c.ru ∧ (gc M j).k = c.k ∧ (gc M j).a = c.a from ⟨m2, m3, m4⟩)
            have d5 : ¬ x < c.l := by omega
            have d6 : decide (x < c.l) = false := decide_eq_false d5
            have hq := fun w => eqAttN 9997 w c.a c.a
            rw [eqA_self] at hq
            have HS := Lib.hid (show ∀ V, Below wr.heap.size wr V → (fun w' => w'.cell? ⟨h, q + j * 14, none⟩ = some (.int .i32 c.ru) ∧ w'.cell? ⟨h, q + j * 14 + 3, none⟩ = some (.int .u8 c.k) ∧ w'.cell? ⟨h, q + j * 14 + 4, none⟩ = some (.int .u8 c.a.fg.k) ∧ w'.cell? ⟨h, q + j * 14 + 5, none⟩ = some (.int .u8 c.a.fg.r) ∧ w'.cell? ⟨h, q + j * 14 + 6, none⟩ = some (.int .u8 c.a.fg.g) ∧ w'.cell? ⟨h, q + j * 14 + 7, none⟩ = some (.int .u8 c.a.fg.b) ∧ w'.cell? ⟨h, q + j * 14 + 8, none⟩ = some (.int .u8 c.a.bg.k) ∧ w'.cell? ⟨h, q + j * 14 + 9, none⟩ = some (.int .u8 c.a.bg.r) ∧ w'.cell? ⟨h, q + j * 14 + 10, none⟩ = some (.int .u8 c.a.bg.g) ∧ w'.cell? ⟨h, q + j * 14 + 11, none⟩ = some (.int .u8 c.a.bg.b) ∧ w'.cell? ⟨h, q + j * 14 + 12, none⟩ = some (.int .u16 (c.a.fl : Nat)) ∧ w'.cell? ⟨h, q + j * 14 + 13, none⟩ = some (.int .u8 x) ∧ w'.cell? ⟨g, o + j * 14, none⟩ = some (.int .i32 c.ru) ∧ w'.cell? ⟨g, o + j * 14 + 3, none⟩ = some (.int .u8 c.k) ∧ w'.cell? ⟨g, o + j * 14 + 4, none⟩ = some (.int .u8 c.a.fg.k) ∧ w'.cell? ⟨g, o + j * 14 + 5, none⟩ = some (.int .u8 c.a.fg.r) ∧ w'.cell? ⟨g, o + j * 14 + 6, none⟩ = some (.int .u8 c.a.fg.g) ∧ w'.cell? ⟨g, o + j * 14 + 7, none⟩ = some (.int .u8 c.a.fg.b) ∧ w'.cell? ⟨g, o + j * 14 + 8, none⟩ = some (.int .u8 c.a.bg.k) ∧ w'.cell? ⟨g, o + j * 14 + 9, none⟩ = some (.int .u8 c.a.bg.r) ∧ w'.cell? ⟨g, o + j * 14 + 10, none⟩ = some (.int .u8 c.a.bg.g) ∧ w'.cell? ⟨g, o + j * 14 + 11, none⟩ = some (.int .u8 c.a.bg.b) ∧ w'.cell? ⟨g, o + j * 14 + 12, none⟩ = some (.int .u16 (c.a.fl : Nat)) ∧ w'.cell? ⟨g, o + j * 14 + 13, none⟩ = some (.int .u8 c.l)) V from fun V hb => by
              have h1 := HAT.out.same (hb.block g HG.out)
              have h2 := HBT.out.same (hb.block h HH.out)
              obtain ⟨a0, a1, a2, a3, a4, a5, a6, a7, a8, a9, a10, a11, a12, a13⟩ := h1
              obtain ⟨b0, b1, b2, b3, b4, b5, b6, b7, b8, b9, b10, b11, b12, b13⟩ := h2
              rw [HM4.out.1] at b0
              rw [HM4.out.2.1] at b3
              rw [HM4.out.2.2] at b4 b5 b6 b7 b8 b9 b10 b11 b12
              rw [← HX.out] at b13
              exact ⟨b0, b3, b4, b5, b6, b7, b8, b9, b10, b11, b12, b13, a0, a3, a4, a5, a6, a7, a8, a9, a10, a11, a12, a13⟩)
            dsimp only at HS
            clear hC hD hat hbt hg hh hx hc m1 m2 m3 m4 hjR
            go_upto_region 21 with (fail)
            refine wp_region_held_drew (S := fun w' => w'.cell? ⟨h, q + j * 14, none⟩ = some (.int .i32 c.ru) ∧ w'.cell? ⟨h, q + j * 14 + 3, none⟩ = some (.int .u8 c.k) ∧ w'.cell? ⟨h, q + j * 14 + 4, none⟩ = some (.int .u8 c.a.fg.k) ∧ w'.cell? ⟨h, q + j * 14 + 5, none⟩ = some (.int .u8 c.a.fg.r) ∧ w'.cell? ⟨h, q + j * 14 + 6, none⟩ = some (.int .u8 c.a.fg.g) ∧ w'.cell? ⟨h, q + j * 14 + 7, none⟩ = some (.int .u8 c.a.fg.b) ∧ w'.cell? ⟨h, q + j * 14 + 8, none⟩ = some (.int .u8 c.a.bg.k) ∧ w'.cell? ⟨h, q + j * 14 + 9, none⟩ = some (.int .u8 c.a.bg.r) ∧ w'.cell? ⟨h, q + j * 14 + 10, none⟩ = some (.int .u8 c.a.bg.g) ∧ w'.cell? ⟨h, q + j * 14 + 11, none⟩ = some (.int .u8 c.a.bg.b) ∧ w'.cell? ⟨h, q + j * 14 + 12, none⟩ = some (.int .u16 (c.a.fl : Nat)) ∧ w'.cell? ⟨h, q + j * 14 + 13, none⟩ = some (.int .u8 x) ∧ w'.cell? ⟨g, o + j * 14, none⟩ = some (.int .i32 c.ru) ∧ w'.cell? ⟨g, o + j * 14 + 3, none⟩ = some (.int .u8 c.k) ∧ w'.cell? ⟨g, o + j * 14 + 4, none⟩ = some (.int .u8 c.a.fg.k) ∧ w'.cell? ⟨g, o + j * 14 + 5, none⟩ = some (.int .u8 c.a.fg.r) ∧ w'.cell? ⟨g, o + j * 14 + 6, none⟩ = some (.int .u8 c.a.fg.g) ∧ w'.cell? ⟨g, o + j * 14 + 7, none⟩ = some (.int .u8 c.a.fg.b) ∧ w'.cell? ⟨g, o + j * 14 + 8, none⟩ = some (.int .u8 c.a.bg.k) ∧ w'.cell? ⟨g, o + j * 14 + 9, none⟩ = some (.int .u8 c.a.bg.r) ∧ w'.cell? ⟨g, o + j * 14 + 10, none⟩ = some (.int .u8 c.a.bg.g) ∧ w'.cell? ⟨g, o + j * 14 + 11, none⟩ = some (.int .u8 c.a.bg.b) ∧ w'.cell? ⟨g, o + j * 14 + 12, none⟩ = some (.int .u16 (c.a.fl : Nat)) ∧ w'.cell? ⟨g, o + j * 14 + 13, none⟩ = some (.int .u8 c.l)) (by kernel_rfl) ?_ (fun hHeld => ?_)
            · exact HS.out _ ⟨rfl, rfl, rfl, Nat.le_refl _, fun _ _ => rfl⟩
            obtain ⟨u0, hu0⟩ : ∃ y, y = wr.drew := ⟨_, rfl⟩
            have bd : Below wr.heap.size wr u0 := by rw [hu0]; exact ⟨rfl, rfl, rfl, Nat.le_refl _, fun _ _ => rfl⟩
            have HY2 := Lib.hid (HY.out.trans (bd.mono HY.out.size))
            replace hHeld := HS.out _ bd
            rw [← hu0]
            clear hu0 bd HY
            refine take_at (i := 0) (v := ?_) rfl (by kernel_rfl) (by kernel_rfl) (by kernel_rfl) (fun _ _ _ h => h) (by kernel_rfl) (by assumption) ?_ ?_
            rotate_left
            · (intro w hSw; (try dsimp only at hSw); go_simp; try with_reducible rfl)
            simp only [Act.put, List.setIfInBounds_toArray, List.set_cons_zero, List.set_cons_succ]
            refine take_at (i := 1) (v := ?_) rfl (by kernel_rfl) (by kernel_rfl) (by kernel_rfl) (fun _ _ _ h => h) (by kernel_rfl) (by assumption) ?_ ?_
            rotate_left
            · (intro w hSw; (try dsimp only at hSw); go_simp; try with_reducible rfl)
            simp only [Act.put, List.setIfInBounds_toArray, List.set_cons_zero, List.set_cons_succ]
            refine take_at (i := 2) (v := ?_) rfl (by kernel_rfl) (by kernel_rfl) (by kernel_rfl) (fun _ _ _ h => h) (by kernel_rfl) (by assumption) ?_ ?_
            rotate_left
            · (intro w hSw; (try dsimp only at hSw); go_simp; try with_reducible rfl)
            simp only [Act.put, List.setIfInBounds_toArray, List.set_cons_zero, List.set_cons_succ]
            refine take_at (i := 3) (v := ?_) rfl (by kernel_rfl) (by kernel_rfl) (by kernel_rfl) (fun _ _ _ h => h) (by kernel_rfl) (by assumption) ?_ ?_
            rotate_left
            · (intro w hSw; (try dsimp only at hSw); go_simp; try with_reducible rfl)
            simp only [Act.put, List.setIfInBounds_toArray, List.set_cons_zero, List.set_cons_succ]
            refine take_at (i := 4) (v := ?_) rfl (by kernel_rfl) (by kernel_rfl) (by kernel_rfl) (fun _ _ _ h => h) (by kernel_rfl) (by assumption) ?_ ?_
            rotate_left
            · (intro w hSw; (try dsimp only at hSw); go_simp; try with_reducible rfl)
            simp only [Act.put, List.setIfInBounds_toArray, List.set_cons_zero, List.set_cons_succ]
            refine take_at (i := 5) (v := ?_) rfl (by kernel_rfl) (by kernel_rfl) (by kernel_rfl) (fun _ _ _ h => h) (by kernel_rfl) (by assumption) ?_ ?_
            rotate_left
            · (intro w hSw; (try dsimp only at hSw); go_simp; try with_reducible rfl)
            simp only [Act.put, List.setIfInBounds_toArray, List.set_cons_zero, List.set_cons_succ]
            refine take_at (i := 6) (v := ?_) rfl (by kernel_rfl) (by kernel_rfl) (by kernel_rfl) (fun _ _ _ h => h) (by kernel_rfl) (by assumption) ?_ ?_
            rotate_left
            · (intro w hSw; (try dsimp only at hSw); go_simp; try with_reducible rfl)
            simp only [Act.put, List.setIfInBounds_toArray, List.set_cons_zero, List.set_cons_succ]
            refine take_at (i := 7) (v := ?_) rfl (by kernel_rfl) (by kernel_rfl) (by kernel_rfl) (fun _ _ _ h => h) (by kernel_rfl) (by assumption) ?_ ?_
            rotate_left
            · (intro w hSw; (try dsimp only at hSw); go_simp; try with_reducible rfl)
            simp only [Act.put, List.setIfInBounds_toArray, List.set_cons_zero, List.set_cons_succ]
            refine take_at (i := 8) (v := ?_) rfl (by kernel_rfl) (by kernel_rfl) (by kernel_rfl) (fun _ _ _ h => h) (by kernel_rfl) (by assumption) ?_ ?_
            rotate_left
            · (intro w hSw; (try dsimp only at hSw); go_simp; try with_reducible rfl)
            simp only [Act.put, List.setIfInBounds_toArray, List.set_cons_zero, List.set_cons_succ]
            refine take_at (i := 9) (v := ?_) rfl (by kernel_rfl) (by kernel_rfl) (by kernel_rfl) (fun _ _ _ h => h) (by kernel_rfl) (by assumption) ?_ ?_
            rotate_left
            · (intro w hSw; (try dsimp only at hSw); go_simp; try with_reducible rfl)
            simp only [Act.put, List.setIfInBounds_toArray, List.set_cons_zero, List.set_cons_succ]
            refine take_at (i := 10) (v := ?_) rfl (by kernel_rfl) (by kernel_rfl) (by kernel_rfl) (fun _ _ _ h => h) (by kernel_rfl) (by assumption) ?_ ?_
            rotate_left
            · (intro w hSw; (try dsimp only at hSw); go_simp; try with_reducible rfl)
            simp only [Act.put, List.setIfInBounds_toArray, List.set_cons_zero, List.set_cons_succ]
            refine take_at (i := 11) (v := ?_) rfl (by kernel_rfl) (by kernel_rfl) (by kernel_rfl) (fun _ _ _ h => h) (by kernel_rfl) (by assumption) ?_ ?_
            rotate_left
            · (intro w hSw; (try dsimp only at hSw); go_simp; try with_reducible rfl)
            simp only [Act.put, List.setIfInBounds_toArray, List.set_cons_zero, List.set_cons_succ]
            refine take_at (i := 12) (v := ?_) rfl (by kernel_rfl) (by kernel_rfl) (by kernel_rfl) (fun _ _ _ h => h) (by kernel_rfl) (by assumption) ?_ ?_
            rotate_left
            · (intro w hSw; (try dsimp only at hSw); go_simp; try with_reducible rfl)
            simp only [Act.put, List.setIfInBounds_toArray, List.set_cons_zero, List.set_cons_succ]
            refine take_at (i := 13) (v := ?_) rfl (by kernel_rfl) (by kernel_rfl) (by kernel_rfl) (fun _ _ _ h => h) (by kernel_rfl) (by assumption) ?_ ?_
            rotate_left
            · (intro w hSw; (try dsimp only at hSw); go_simp; try with_reducible rfl)
            simp only [Act.put, List.setIfInBounds_toArray, List.set_cons_zero, List.set_cons_succ]
            refine take_at (i := 14) (v := ?_) rfl (by kernel_rfl) (by kernel_rfl) (by kernel_rfl) (fun _ _ _ h => h) (by kernel_rfl) (by assumption) ?_ ?_
            rotate_left
            · (intro w hSw; (try dsimp only at hSw); go_simp; try with_reducible rfl)
            simp only [Act.put, List.setIfInBounds_toArray, List.set_cons_zero, List.set_cons_succ]
            refine take_at (i := 15) (v := ?_) rfl (by kernel_rfl) (by kernel_rfl) (by kernel_rfl) (fun _ _ _ h => h) (by kernel_rfl) (by assumption) ?_ ?_
            rotate_left
            · (intro w hSw; (try dsimp only at hSw); go_simp; try with_reducible rfl)
            simp only [Act.put, List.setIfInBounds_toArray, List.set_cons_zero, List.set_cons_succ]
            refine take_at (i := 16) (v := ?_) rfl (by kernel_rfl) (by kernel_rfl) (by kernel_rfl) (fun _ _ _ h => h) (by kernel_rfl) (by assumption) ?_ ?_
            rotate_left
            · (intro w hSw; (try dsimp only at hSw); go_simp; try with_reducible rfl)
            simp only [Act.put, List.setIfInBounds_toArray, List.set_cons_zero, List.set_cons_succ]
            refine take_at (i := 17) (v := ?_) rfl (by kernel_rfl) (by kernel_rfl) (by kernel_rfl) (fun _ _ _ h => h) (by kernel_rfl) (by assumption) ?_ ?_
            rotate_left
            · (intro w hSw; (try dsimp only at hSw); go_simp; try with_reducible rfl)
            simp only [Act.put, List.setIfInBounds_toArray, List.set_cons_zero, List.set_cons_succ]
            refine take_at (i := 18) (v := ?_) rfl (by kernel_rfl) (by kernel_rfl) (by kernel_rfl) (fun _ _ _ h => h) (by kernel_rfl) (by assumption) ?_ ?_
            rotate_left
            · (intro w hSw; (try dsimp only at hSw); go_simp; try with_reducible rfl)
            simp only [Act.put, List.setIfInBounds_toArray, List.set_cons_zero, List.set_cons_succ]
            refine take_at (i := 19) (v := ?_) rfl (by kernel_rfl) (by kernel_rfl) (by kernel_rfl) (fun _ _ _ h => h) (by kernel_rfl) (by assumption) ?_ ?_
            rotate_left
            · (intro w hSw; (try dsimp only at hSw); go_simp; try with_reducible rfl)
            simp only [Act.put, List.setIfInBounds_toArray, List.set_cons_zero, List.set_cons_succ]
            refine take_at (i := 20) (v := ?_) rfl (by kernel_rfl) (by kernel_rfl) (by kernel_rfl) (fun _ _ _ h => h) (by kernel_rfl) (by assumption) ?_ ?_
            rotate_left
            · (intro w hSw; (try dsimp only at hSw); go_simp; try with_reducible rfl)
            simp only [Act.put, List.setIfInBounds_toArray, List.set_cons_zero, List.set_cons_succ]
            refine take_at (i := 21) (v := ?_) rfl (by kernel_rfl) (by kernel_rfl) (by kernel_rfl) (fun _ _ _ h => h) (by kernel_rfl) (by assumption) ?_ ?_
            rotate_left
            · (intro w hSw; (try dsimp only at hSw); go_simp; try with_reducible rfl)
            simp only [Act.put, List.setIfInBounds_toArray, List.set_cons_zero, List.set_cons_succ]
            refine take_at (i := 22) (v := ?_) rfl (by kernel_rfl) (by kernel_rfl) (by kernel_rfl) (fun _ _ _ h => h) (by kernel_rfl) (by assumption) ?_ ?_
            rotate_left
            · (intro w hSw; (try dsimp only at hSw); go_simp; try with_reducible rfl)
            simp only [Act.put, List.setIfInBounds_toArray, List.set_cons_zero, List.set_cons_succ]
            refine take_at (i := 23) (v := ?_) rfl (by kernel_rfl) (by kernel_rfl) (by kernel_rfl) (fun _ _ _ h => h) (by kernel_rfl) (by assumption) ?_ ?_
            rotate_left
            · (intro w hSw; (try dsimp only at hSw); go_simp; try with_reducible rfl)
            simp only [Act.put, List.setIfInBounds_toArray, List.set_cons_zero, List.set_cons_succ]
            refine take_at (i := 24) (v := ?_) rfl (by kernel_rfl) (by kernel_rfl) (by kernel_rfl) (fun _ _ _ h => h) (by kernel_rfl) (by assumption) ?_ ?_
            rotate_left
            · (intro w hSw; (try dsimp only at hSw); go_simp; try with_reducible rfl)
            simp only [Act.put, List.setIfInBounds_toArray, List.set_cons_zero, List.set_cons_succ]
            refine take_at (i := 25) (v := ?_) rfl (by kernel_rfl) (by kernel_rfl) (by kernel_rfl) (fun _ _ _ h => h) (by kernel_rfl) (by assumption) ?_ ?_
            rotate_left
            · (intro w hSw; (try dsimp only at hSw); go_simp; try with_reducible rfl)
            simp only [Act.put, List.setIfInBounds_toArray, List.set_cons_zero, List.set_cons_succ]
            refine take_at (i := 26) (v := ?_) rfl (by kernel_rfl) (by kernel_rfl) (by kernel_rfl) (fun _ _ _ h => h) (by kernel_rfl) (by assumption) ?_ ?_
            rotate_left
            · (intro w hSw; (try dsimp only at hSw); go_simp; try with_reducible rfl)
            simp only [Act.put, List.setIfInBounds_toArray, List.set_cons_zero, List.set_cons_succ]
            refine take_at (i := 27) (v := ?_) rfl (by kernel_rfl) (by kernel_rfl) (by kernel_rfl) (fun _ _ _ h => h) (by kernel_rfl) (by assumption) ?_ ?_
            rotate_left
            · (intro w hSw; (try dsimp only at hSw); go_simp; try with_reducible rfl)
            simp only [Act.put, List.setIfInBounds_toArray, List.set_cons_zero, List.set_cons_succ]
            refine take_at (i := 28) (v := ?_) rfl (by kernel_rfl) (by kernel_rfl) (by kernel_rfl) (fun _ _ _ h => h) (by kernel_rfl) (by assumption) ?_ ?_
            rotate_left
            · (intro w hSw; (try dsimp only at hSw); go_simp; try with_reducible rfl)
            simp only [Act.put, List.setIfInBounds_toArray, List.set_cons_zero, List.set_cons_succ]
            refine take_at (i := 29) (v := ?_) rfl (by kernel_rfl) (by kernel_rfl) (by kernel_rfl) (fun _ _ _ h => h) (by kernel_rfl) (by assumption) ?_ ?_
            rotate_left
            · (intro w hSw; (try dsimp only at hSw); go_simp; try with_reducible rfl)
            simp only [Act.put, List.setIfInBounds_toArray, List.set_cons_zero, List.set_cons_succ]
            refine take_at (i := 30) (v := ?_) rfl (by kernel_rfl) (by kernel_rfl) (by kernel_rfl) (fun _ _ _ h => h) (by kernel_rfl) (by assumption) ?_ ?_
            rotate_left
            · (intro w hSw; (try dsimp only at hSw); go_simp; try with_reducible rfl)
            simp only [Act.put, List.setIfInBounds_toArray, List.set_cons_zero, List.set_cons_succ]
            refine take_at (i := 31) (v := ?_) rfl (by kernel_rfl) (by kernel_rfl) (by kernel_rfl) (fun _ _ _ h => h) (by kernel_rfl) (by assumption) ?_ ?_
            rotate_left
            · (intro w hSw; (try dsimp only at hSw); go_simp; try with_reducible rfl)
            simp only [Act.put, List.setIfInBounds_toArray, List.set_cons_zero, List.set_cons_succ]
            refine take_at (i := 32) (v := ?_) rfl (by kernel_rfl) (by kernel_rfl) (by kernel_rfl) (fun _ _ _ h => h) (by kernel_rfl) (by assumption) ?_ ?_
            rotate_left
            · (intro w hSw; (try dsimp only at hSw); go_simp; try with_reducible rfl)
            simp only [Act.put, List.setIfInBounds_toArray, List.set_cons_zero, List.set_cons_succ]
            refine take_at (i := 33) (v := ?_) rfl (by kernel_rfl) (by kernel_rfl) (by kernel_rfl) (fun _ _ _ h => h) (by kernel_rfl) (by assumption) ?_ ?_
            rotate_left
            · (intro w hSw; (try dsimp only at hSw); go_simp; try with_reducible rfl)
            simp only [Act.put, List.setIfInBounds_toArray, List.set_cons_zero, List.set_cons_succ]
            refine take_at (i := 34) (v := ?_) rfl (by kernel_rfl) (by kernel_rfl) (by kernel_rfl) (fun _ _ _ h => h) (by kernel_rfl) (by assumption) ?_ ?_
            rotate_left
            · (intro w hSw; (try dsimp only at hSw); go_simp; try with_reducible rfl)
            simp only [Act.put, List.setIfInBounds_toArray, List.set_cons_zero, List.set_cons_succ]
            refine take_at (i := 35) (v := ?_) rfl (by kernel_rfl) (by kernel_rfl) (by kernel_rfl) (fun _ _ _ h => h) (by kernel_rfl) (by assumption) ?_ ?_
            rotate_left
            · (intro w hSw; (try dsimp only at hSw); go_simp; try with_reducible rfl)
            simp only [Act.put, List.setIfInBounds_toArray, List.set_cons_zero, List.set_cons_succ]
            refine take_at (i := 36) (v := ?_) rfl (by kernel_rfl) (by kernel_rfl) (by kernel_rfl) (fun _ _ _ h => h) (by kernel_rfl) (by assumption) ?_ ?_
            rotate_left
            · (intro w hSw; (try dsimp only at hSw); go_simp; try with_reducible rfl)
            simp only [Act.put, List.setIfInBounds_toArray, List.set_cons_zero, List.set_cons_succ]
            refine take_at (i := 37) (v := ?_) rfl (by kernel_rfl) (by kernel_rfl) (by kernel_rfl) (fun _ _ _ h => h) (by kernel_rfl) (by assumption) ?_ ?_
            rotate_left
            · (intro w hSw; (try dsimp only at hSw); go_simp; try with_reducible rfl)
            simp only [Act.put, List.setIfInBounds_toArray, List.set_cons_zero, List.set_cons_succ]
            refine take_at (i := 38) (v := ?_) rfl (by kernel_rfl) (by kernel_rfl) (by kernel_rfl) (fun _ _ _ h => h) (by kernel_rfl) (by assumption) ?_ ?_
            rotate_left
            · (intro w hSw; (try dsimp only at hSw); go_simp; try with_reducible rfl)
            simp only [Act.put, List.setIfInBounds_toArray, List.set_cons_zero, List.set_cons_succ]
            refine take_at (i := 39) (v := ?_) rfl (by kernel_rfl) (by kernel_rfl) (by kernel_rfl) (fun _ _ _ h => h) (by kernel_rfl) (by assumption) ?_ ?_
            rotate_left
            · (intro w hSw; (try dsimp only at hSw); go_simp; try with_reducible rfl)
            simp only [Act.put, List.setIfInBounds_toArray, List.set_cons_zero, List.set_cons_succ]
            refine take_at (i := 40) (v := ?_) rfl (by kernel_rfl) (by kernel_rfl) (by kernel_rfl) (fun _ _ _ h => h) (by kernel_rfl) (by assumption) ?_ ?_
            rotate_left
            · (intro w hSw; (try dsimp only at hSw); go_simp; try with_reducible rfl)
            simp only [Act.put, List.setIfInBounds_toArray, List.set_cons_zero, List.set_cons_succ]
            refine take_at (i := 41) (v := ?_) rfl (by kernel_rfl) (by kernel_rfl) (by kernel_rfl) (fun _ _ _ h => h) (by kernel_rfl) (by assumption) ?_ ?_
            rotate_left
            · (intro w hSw; (try dsimp only at hSw); go_simp; try with_reducible rfl)
            simp only [Act.put, List.setIfInBounds_toArray, List.set_cons_zero, List.set_cons_succ]
            refine take_at (i := 42) (v := ?_) rfl (by kernel_rfl) (by kernel_rfl) (by kernel_rfl) (fun _ _ _ h => h) (by kernel_rfl) (by assumption) ?_ ?_
            rotate_left
            · (intro w hSw; (try dsimp only at hSw); go_simp; try with_reducible rfl)
            simp only [Act.put, List.setIfInBounds_toArray, List.set_cons_zero, List.set_cons_succ]
            refine take_at (i := 43) (v := ?_) rfl (by kernel_rfl) (by kernel_rfl) (by kernel_rfl) (fun _ _ _ h => h) (by kernel_rfl) (by assumption) ?_ ?_
            rotate_left
            · (intro w hSw; (try dsimp only at hSw); go_simp; try with_reducible rfl)
            simp only [Act.put, List.setIfInBounds_toArray, List.set_cons_zero, List.set_cons_succ]
            refine take_at (i := 44) (v := ?_) rfl (by kernel_rfl) (by kernel_rfl) (by kernel_rfl) (fun _ _ _ h => h) (by kernel_rfl) (by assumption) ?_ ?_
            rotate_left
            · (intro w hSw; (try dsimp only at hSw); go_simp; try with_reducible rfl)
            simp only [Act.put, List.setIfInBounds_toArray, List.set_cons_zero, List.set_cons_succ]
            refine take_at (i := 45) (v := ?_) rfl (by kernel_rfl) (by kernel_rfl) (by kernel_rfl) (fun _ _ _ h => h) (by kernel_rfl) (by assumption) ?_ ?_
            rotate_left
            · (intro w hSw; (try dsimp only at hSw); go_simp; try with_reducible rfl)
            simp only [Act.put, List.setIfInBounds_toArray, List.set_cons_zero, List.set_cons_succ]
            refine take_at (i := 46) (v := ?_) rfl (by kernel_rfl) (by kernel_rfl) (by kernel_rfl) (fun _ _ _ h => h) (by kernel_rfl) (by assumption) ?_ ?_
            rotate_left
            · (intro w hSw; (try dsimp only at hSw); go_simp; try with_reducible rfl)
            simp only [Act.put, List.setIfInBounds_toArray, List.set_cons_zero, List.set_cons_succ]
            refine take_at (i := 47) (v := ?_) rfl (by kernel_rfl) (by kernel_rfl) (by kernel_rfl) (fun _ _ _ h => h) (by kernel_rfl) (by assumption) ?_ ?_
            rotate_left
            · (intro w hSw; (try dsimp only at hSw); go_simp; try with_reducible rfl)
            simp only [Act.put, List.setIfInBounds_toArray, List.set_cons_zero, List.set_cons_succ]
            refine take_at (i := 48) (v := ?_) rfl (by kernel_rfl) (by kernel_rfl) (by kernel_rfl) (fun _ _ _ h => h) (by kernel_rfl) (by assumption) ?_ ?_
            rotate_left
            · (intro w hSw; (try dsimp only at hSw); go_simp; try with_reducible rfl)
            simp only [Act.put, List.setIfInBounds_toArray, List.set_cons_zero, List.set_cons_succ]
            refine take_at (i := 49) (v := ?_) rfl (by kernel_rfl) (by kernel_rfl) (by kernel_rfl) (fun _ _ _ h => h) (by kernel_rfl) (by assumption) ?_ ?_
            rotate_left
            · (intro w hSw; (try dsimp only at hSw); go_simp; try with_reducible rfl)
            simp only [Act.put, List.setIfInBounds_toArray, List.set_cons_zero, List.set_cons_succ]
            refine wpAnyH_done (by kernel_rfl) ?_ _
            clear hHeld HS hq HAT HBT
            go_wp2
            go_roundg (n - (j + 1))
            case rel => exact ⟨j + 1, by go_num, by omega, Nat.le_refl _, HY2⟩
            case measure => omega
          · have HBF := Lib.hid (HB10.out.trans (HY.out.mono HB10.out.size))
            clear HY
            go_wp2
            go_ret
            exact ⟨rfl, HBF.out⟩
      · have d0 : ¬ (0 : Int) < (n : Int) := by omega
        have d1 : decide ((0 : Int) < (n : Int)) = false := decide_eq_false d0
        go_wp2_with fail
        refine (level_any v2 _ R 3 3 HR6.out.row HRF.out.2.1 (by rw [← HN.out]; omega)).mono ?_
        rintro e v4 ⟨rfl, b5⟩
        rw [level_none]
        have HB8 := Lib.hid (HB6.out.trans (b5.mono HB6.out.size))
        have HR8 := Lib.hid (HR6.out.below b5)
        have HA8 := Lib.hid (HA6.out.below b5)
        clear b5 HB6 HR6 HA6 HU6 h0
        obtain ⟨v5, hv5⟩ : ∃ x, x = v4.setCell ⟨s, 0, none⟩ (.int .u8 11) := ⟨_, rfl⟩
        have bt : But s v4 v5 := by rw [hv5]; exact But.set _ _ _ _
        obtain ⟨a2, ha2⟩ : ∃ x : Ac, x = { a with what := 11 } := ⟨_, rfl⟩
        have HA9 := Lib.hid (show AcAt v5 s a2 by rw [hv5, ha2]; exact HA8.out.1.what 11)
        have HR9 := Lib.hid (HR8.out.but bt HS1.out)
        have HB9 := Lib.hid (HB8.out.trans (bt.below (C := W.heap.size) HSZ.out.1 HB8.out.size))
        have HE := Lib.hid (show doesM a2 R = markM R (atA a R.length) 769 (celD a.cell).l by rw [ha2]; exact does_mark a R)
        have HOK2 := Lib.hid (show a2.ok by rw [ha2]; exact ⟨show 11 < 256 by decide, HOK.out.2⟩)
        have s0 := HA8.out.1.2.1
        have sf := HA8.out.2
        clear bt ha2 HB8 HR8
        go_upto_region 15 with (fail)
        rw [← hv5]
        clear hv5 s0 sf HA8
        obtain ⟨_, q0, q1, q2, q3, q4, q5, q6, q7, q8⟩ := HA9.out
        go_wp2_with fail
        refine ((show RowOk v5 _ R from ⟨HR9.out.row, HRF.out.1, HRF.out.2.1, by have := HRF.out.2.2; omega⟩).act a2 HOK2.out).mono ?_
        rintro e v6 ⟨nx, rfl, r6, b6⟩
        rw [HE.out] at r6
        obtain ⟨M, hM⟩ : ∃ M, M = markM R (atA a R.length) 769 (celD a.cell).l := ⟨_, rfl⟩
        rw [← hM] at r6
        have HML := Lib.hid (show n = M.length by rw [hM, len_mark]; exact HN.out)
        have HMS := Lib.hid (show ∀ j, j < R.length → (gc R j).l ≤ (gc M j).l ∧ (gc M j).ru = (gc R j).ru ∧ (gc M j).k = (gc R j).k ∧ (gc M j).a = (gc R j).a from fun j hj => by rw [hM]; exact mark_same _ _ _ hj)
        obtain ⟨na, nc, rfl⟩ := r6.1.shape
        have r7 := r6.1
        rw [← HML.out] at r7 ⊢
        have HN6 := Lib.hid r7
        have HR10 := Lib.hid (HR9.out.row.below b6)
        have HB10 := Lib.hid (HB9.out.trans (b6.mono HB9.out.size))
        clear r6 r7 b6 hM HR9 HB9 HE q0 q1 q2 q3 q4 q5 q6 q7 q8
        go_wp2
        go_loopg [10] n (fun G i wr => ∃ k : Nat, i = .int .i64 k ∧ k ≤ n ∧ n - k ≤ G ∧ Hid (Below v6.heap.size v6 wr))
        case atStart => exact ⟨0, rfl, Nat.zero_le _, Nat.sub_le _ _, Lib.hid (Below.refl _ _)⟩
        case round =>
          obtain ⟨j, rfl, hjn, hgj, HY⟩ := hrel
          by_cases hlt2 : j < n
          · obtain ⟨g, o, cp, e, _, hg, hC⟩ := (HR10.out.below HY.out).open (by rw [← HN.out]; omega)
            injection e with e1 e2 e3
            subst e1 e3
            clear e2
            obtain ⟨h, q, cq, e, _, hh, hD⟩ := (HN6.out.below HY.out).open (by rw [← HML.out]; omega)
            injection e with e1 e2 e3
            subst e1 e3
            clear e2
            have hjR : j < R.length := by rw [← HN.out]; exact hlt2
            have hat := hC j hjR
            have hbt := hD j (by rw [← HML.out]; exact hlt2)
            obtain ⟨m1, m2, m3, m4⟩ := HMS.out j hjR
            obtain ⟨c, hc⟩ : ∃ c, c = gc R j := ⟨_, rfl⟩
            obtain ⟨x, hx⟩ : ∃ x, x = (gc M j).l := ⟨_, rfl⟩
            rw [← hc] at hat m1 m2 m3 m4
            rw [← hx] at m1
            have HAT := Lib.hid hat
            have HBT := Lib.hid hbt
            have HG := Lib.hid hg
            have HH := Lib.hid hh
            have HX := Lib.hid hx
            have HM4 := Lib.hid (show (gc M j).ru = c.ru ∧ (gc M j).k = c.k ∧ (gc M j).a = c.a from ⟨m2, m3, m4⟩)
            have d5 : ¬ x < c.l := by omega
            have d6 : decide (x < c.l) = false := decide_eq_false d5
            have hq := fun w => eqAttN 9997 w c.a c.a
            rw [eqA_self] at hq
            have HS := Lib.hid (show ∀ V, Below wr.heap.size wr V → (fun w' => w'.cell? ⟨h, q + j * 14, none⟩ = some (.int .i32 c.ru) ∧ w'.cell? ⟨h, q + j * 14 + 3, none⟩ = some (.int .u8 c.k) ∧ w'.cell? ⟨h, q + j * 14 + 4, none⟩ = some (.int .u8 c.a.fg.k) ∧ w'.cell? ⟨h, q + j * 14 + 5, none⟩ = some (.int .u8 c.a.fg.r) ∧ w'.cell? ⟨h, q + j * 14 + 6, none⟩ = some (.int .u8 c.a.fg.g) ∧ w'.cell? ⟨h, q + j * 14 + 7, none⟩ = some (.int .u8 c.a.fg.b) ∧ w'.cell? ⟨h, q + j * 14 + 8, none⟩ = some (.int .u8 c.a.bg.k) ∧ w'.cell? ⟨h, q + j * 14 + 9, none⟩ = some (.int .u8 c.a.bg.r) ∧ w'.cell? ⟨h, q + j * 14 + 10, none⟩ = some (.int .u8 c.a.bg.g) ∧ w'.cell? ⟨h, q + j * 14 + 11, none⟩ = some (.int .u8 c.a.bg.b) ∧ w'.cell? ⟨h, q + j * 14 + 12, none⟩ = some (.int .u16 (c.a.fl : Nat)) ∧ w'.cell? ⟨h, q + j * 14 + 13, none⟩ = some (.int .u8 x) ∧ w'.cell? ⟨g, o + j * 14, none⟩ = some (.int .i32 c.ru) ∧ w'.cell? ⟨g, o + j * 14 + 3, none⟩ = some (.int .u8 c.k) ∧ w'.cell? ⟨g, o + j * 14 + 4, none⟩ = some (.int .u8 c.a.fg.k) ∧ w'.cell? ⟨g, o + j * 14 + 5, none⟩ = some (.int .u8 c.a.fg.r) ∧ w'.cell? ⟨g, o + j * 14 + 6, none⟩ = some (.int .u8 c.a.fg.g) ∧ w'.cell? ⟨g, o + j * 14 + 7, none⟩ = some (.int .u8 c.a.fg.b) ∧ w'.cell? ⟨g, o + j * 14 + 8, none⟩ = some (.int .u8 c.a.bg.k) ∧ w'.cell? ⟨g, o + j * 14 + 9, none⟩ = some (.int .u8 c.a.bg.r) ∧ w'.cell? ⟨g, o + j * 14 + 10, none⟩ = some (.int .u8 c.a.bg.g) ∧ w'.cell? ⟨g, o + j * 14 + 11, none⟩ = some (.int .u8 c.a.bg.b) ∧ w'.cell? ⟨g, o + j * 14 + 12, none⟩ = some (.int .u16 (c.a.fl : Nat)) ∧ w'.cell? ⟨g, o + j * 14 + 13, none⟩ = some (.int .u8 c.l)) V from fun V hb => by
              have h1 := HAT.out.same (hb.block g HG.out)
              have h2 := HBT.out.same (hb.block h HH.out)
              obtain ⟨a0, a1, a2, a3, a4, a5, a6, a7, a8, a9, a10, a11, a12, a13⟩ := h1
              obtain ⟨b0, b1, b2, b3, b4, b5, b6, b7, b8, b9, b10, b11, b12, b13⟩ := h2
              rw [HM4.out.1] at b0
              rw [HM4.out.2.1] at b3
              rw [HM4.out.2.2] at b4 b5 b6 b7 b8 b9 b10 b11 b12
              rw [← HX.out] at b13
              exact ⟨b0, b3, b4, b5, b6, b7, b8, b9, b10, b11, b12, b13, a0, a3, a4, a5, a6, a7, a8, a9, a10, a11, a12, a13⟩)
            dsimp only at HS
            clear hC hD hat hbt hg hh hx hc m1 m2 m3 m4 hjR
            go_upto_region 21 with (fail)
            refine wp_region_held_drew (S := fun w' => w'.cell? ⟨h, q + j * 14, none⟩ = some (.int .i32 c.ru) ∧ w'.cell? ⟨h, q + j * 14 + 3, none⟩ = some (.int .u8 c.k) ∧ w'.cell? ⟨h, q + j * 14 + 4, none⟩ = some (.int .u8 c.a.fg.k) ∧ w'.cell? ⟨h, q + j * 14 + 5, none⟩ = some (.int .u8 c.a.fg.r) ∧ w'.cell? ⟨h, q + j * 14 + 6, none⟩ = some (.int .u8 c.a.fg.g) ∧ w'.cell? ⟨h, q + j * 14 + 7, none⟩ = some (.int .u8 c.a.fg.b) ∧ w'.cell? ⟨h, q + j * 14 + 8, none⟩ = some (.int .u8 c.a.bg.k) ∧ w'.cell? ⟨h, q + j * 14 + 9, none⟩ = some (.int .u8 c.a.bg.r) ∧ w'.cell? ⟨h, q + j * 14 + 10, none⟩ = some (.int .u8 c.a.bg.g) ∧ w'.cell? ⟨h, q + j * 14 + 11, none⟩ = some (.int .u8 c.a.bg.b) ∧ w'.cell? ⟨h, q + j * 14 + 12, none⟩ = some (.int .u16 (c.a.fl : Nat)) ∧ w'.cell? ⟨h, q + j * 14 + 13, none⟩ = some (.int .u8 x) ∧ w'.cell? ⟨g, o + j * 14, none⟩ = some (.int .i32 c.ru) ∧ w'.cell? ⟨g, o + j * 14 + 3, none⟩ = some (.int .u8 c.k) ∧ w'.cell? ⟨g, o + j * 14 + 4, none⟩ = some (.int .u8 c.a.fg.k) ∧ w'.cell? ⟨g, o + j * 14 + 5, none⟩ = some (.int .u8 c.a.fg.r) ∧ w'.cell? ⟨g, o + j * 14 + 6, none⟩ = some (.int .u8 c.a.fg.g) ∧ w'.cell? ⟨g, o + j * 14 + 7, none⟩ = some (.int .u8 c.a.fg.b) ∧ w'.cell? ⟨g, o + j * 14 + 8, none⟩ = some (.int .u8 c.a.bg.k) ∧ w'.cell? ⟨g, o + j * 14 + 9, none⟩ = some (.int .u8 c.a.bg.r) ∧ w'.cell? ⟨g, o + j * 14 + 10, none⟩ = some (.int .u8 c.a.bg.g) ∧ w'.cell? ⟨g, o + j * 14 + 11, none⟩ = some (.int .u8 c.a.bg.b) ∧ w'.cell? ⟨g, o + j * 14 + 12, none⟩ = some (.int .u16 (c.a.fl : Nat)) ∧ w'.cell? ⟨g, o + j * 14 + 13, none⟩ = some (.int .u8 c.l)) (by kernel_rfl) ?_ (fun hHeld => ?_)
            · exact HS.out _ ⟨rfl, rfl, rfl, Nat.le_refl _, fun _ _ => rfl⟩
            obtain ⟨u0, hu0⟩ : ∃ y, y = wr.drew := ⟨_, rfl⟩
            have bd : Below wr.heap.size wr u0 := by rw [hu0]; exact ⟨rfl, rfl, rfl, Nat.le_refl _, fun _ _ => rfl⟩
            have HY2 := Lib.hid (HY.out.trans (bd.mono HY.out.size))
            replace hHeld := HS.out _ bd
            rw [← hu0]
            clear hu0 bd HY
            refine take_at (i := 0) (v := ?_) rfl (by kernel_rfl) (by kernel_rfl) (by kernel_rfl) (fun _ _ _ h => h) (by kernel_rfl) (by assumption) ?_ ?_
            rotate_left
            · (intro w hSw; (try dsimp only at hSw); go_simp; try with_reducible rfl)
            simp only [Act.put, List.setIfInBounds_toArray, List.set_cons_zero, List.set_cons_succ]
            refine take_at (i := 1) (v := ?_) rfl (by kernel_rfl) (by kernel_rfl) (by kernel_rfl) (fun _ _ _ h => h) (by kernel_rfl) (by assumption) ?_ ?_
            rotate_left
            · (intro w hSw; (try dsimp only at hSw); go_simp; try with_reducible rfl)
            simp only [Act.put, List.setIfInBounds_toArray, List.set_cons_zero, List.set_cons_succ]
            refine take_at (i := 2) (v := ?_) rfl (by kernel_rfl) (by kernel_rfl) (by kernel_rfl) (fun _ _ _ h => h) (by kernel_rfl) (by assumption) ?_ ?_
            rotate_left
            · (intro w hSw; (try dsimp only at hSw); go_simp; try with_reducible rfl)
            simp only [Act.put, List.setIfInBounds_toArray, List.set_cons_zero, List.set_cons_succ]
            refine take_at (i := 3) (v := ?_) rfl (by kernel_rfl) (by kernel_rfl) (by kernel_rfl) (fun _ _ _ h => h) (by kernel_rfl) (by assumption) ?_ ?_
            rotate_left
            · (intro w hSw; (try dsimp only at hSw); go_simp; try with_reducible rfl)
            simp only [Act.put, List.setIfInBounds_toArray, List.set_cons_zero, List.set_cons_succ]
            refine take_at (i := 4) (v := ?_) rfl (by kernel_rfl) (by kernel_rfl) (by kernel_rfl) (fun _ _ _ h => h) (by kernel_rfl) (by assumption) ?_ ?_
            rotate_left
            · (intro w hSw; (try dsimp only at hSw); go_simp; try with_reducible rfl)
            simp only [Act.put, List.setIfInBounds_toArray, List.set_cons_zero, List.set_cons_succ]
            refine take_at (i := 5) (v := ?_) rfl (by kernel_rfl) (by kernel_rfl) (by kernel_rfl) (fun _ _ _ h => h) (by kernel_rfl) (by assumption) ?_ ?_
            rotate_left
            · (intro w hSw; (try dsimp only at hSw); go_simp; try with_reducible rfl)
            simp only [Act.put, List.setIfInBounds_toArray, List.set_cons_zero, List.set_cons_succ]
            refine take_at (i := 6) (v := ?_) rfl (by kernel_rfl) (by kernel_rfl) (by kernel_rfl) (fun _ _ _ h => h) (by kernel_rfl) (by assumption) ?_ ?_
            rotate_left
            · (intro w hSw; (try dsimp only at hSw); go_simp; try with_reducible rfl)
            simp only [Act.put, List.setIfInBounds_toArray, List.set_cons_zero, List.set_cons_succ]
            refine take_at (i := 7) (v := ?_) rfl (by kernel_rfl) (by kernel_rfl) (by kernel_rfl) (fun _ _ _ h => h) (by kernel_rfl) (by assumption) ?_ ?_
            rotate_left
            · (intro w hSw; (try dsimp only at hSw); go_simp; try with_reducible rfl)
            simp only [Act.put, List.setIfInBounds_toArray, List.set_cons_zero, List.set_cons_succ]
            refine take_at (i := 8) (v := ?_) rfl (by kernel_rfl) (by kernel_rfl) (by kernel_rfl) (fun _ _ _ h => h) (by kernel_rfl) (by assumption) ?_ ?_
            rotate_left
            · (intro w hSw; (try dsimp only at hSw); go_simp; try with_reducible rfl)
            simp only [Act.put, List.setIfInBounds_toArray, List.set_cons_zero, List.set_cons_succ]
            refine take_at (i := 9) (v := ?_) rfl (by kernel_rfl) (by kernel_rfl) (by kernel_rfl) (fun _ _ _ h => h) (by kernel_rfl) (by assumption) ?_ ?_
            rotate_left
            · (intro w hSw; (try dsimp only at hSw); go_simp; try with_reducible rfl)
            simp only [Act.put, List.setIfInBounds_toArray, List.set_cons_zero, List.set_cons_succ]
            refine take_at (i := 10) (v := ?_) rfl (by kernel_rfl) (by kernel_rfl) (by kernel_rfl) (fun _ _ _ h => h) (by kernel_rfl) (by assumption) ?_ ?_
            rotate_left
            · (intro w hSw; (try dsimp only at hSw); go_simp; try with_reducible rfl)
            simp only [Act.put, List.setIfInBounds_toArray, List.set_cons_zero, List.set_cons_succ]
            refine take_at (i := 11) (v := ?_) rfl (by kernel_rfl) (by kernel_rfl) (by kernel_rfl) (fun _ _ _ h => h) (by kernel_rfl) (by assumption) ?_ ?_
            rotate_left
            · (intro w hSw; (try dsimp only at hSw); go_simp; try with_reducible rfl)
            simp only [Act.put, List.setIfInBounds_toArray, List.set_cons_zero, List.set_cons_succ]
            refine take_at (i := 12) (v := ?_) rfl (by kernel_rfl) (by kernel_rfl) (by kernel_rfl) (fun _ _ _ h => h) (by kernel_rfl) (by assumption) ?_ ?_
            rotate_left
            · (intro w hSw; (try dsimp only at hSw); go_simp; try with_reducible rfl)
            simp only [Act.put, List.setIfInBounds_toArray, List.set_cons_zero, List.set_cons_succ]
            refine take_at (i := 13) (v := ?_) rfl (by kernel_rfl) (by kernel_rfl) (by kernel_rfl) (fun _ _ _ h => h) (by kernel_rfl) (by assumption) ?_ ?_
            rotate_left
            · (intro w hSw; (try dsimp only at hSw); go_simp; try with_reducible rfl)
            simp only [Act.put, List.setIfInBounds_toArray, List.set_cons_zero, List.set_cons_succ]
            refine take_at (i := 14) (v := ?_) rfl (by kernel_rfl) (by kernel_rfl) (by kernel_rfl) (fun _ _ _ h => h) (by kernel_rfl) (by assumption) ?_ ?_
            rotate_left
            · (intro w hSw; (try dsimp only at hSw); go_simp; try with_reducible rfl)
            simp only [Act.put, List.setIfInBounds_toArray, List.set_cons_zero, List.set_cons_succ]
            refine take_at (i := 15) (v := ?_) rfl (by kernel_rfl) (by kernel_rfl) (by kernel_rfl) (fun _ _ _ h => h) (by kernel_rfl) (by assumption) ?_ ?_
            rotate_left
            · (intro w hSw; (try dsimp only at hSw); go_simp; try with_reducible rfl)
            simp only [Act.put, List.setIfInBounds_toArray, List.set_cons_zero, List.set_cons_succ]
            refine take_at (i := 16) (v := ?_) rfl (by kernel_rfl) (by kernel_rfl) (by kernel_rfl) (fun _ _ _ h => h) (by kernel_rfl) (by assumption) ?_ ?_
            rotate_left
            · (intro w hSw; (try dsimp only at hSw); go_simp; try with_reducible rfl)
            simp only [Act.put, List.setIfInBounds_toArray, List.set_cons_zero, List.set_cons_succ]
            refine take_at (i := 17) (v := ?_) rfl (by kernel_rfl) (by kernel_rfl) (by kernel_rfl) (fun _ _ _ h => h) (by kernel_rfl) (by assumption) ?_ ?_
            rotate_left
            · (intro w hSw; (try dsimp only at hSw); go_simp; try with_reducible rfl)
            simp only [Act.put, List.setIfInBounds_toArray, List.set_cons_zero, List.set_cons_succ]
            refine take_at (i := 18) (v := ?_) rfl (by kernel_rfl) (by kernel_rfl) (by kernel_rfl) (fun _ _ _ h => h) (by kernel_rfl) (by assumption) ?_ ?_
            rotate_left
            · (intro w hSw; (try dsimp only at hSw); go_simp; try with_reducible rfl)
            simp only [Act.put, List.setIfInBounds_toArray, List.set_cons_zero, List.set_cons_succ]
            refine take_at (i := 19) (v := ?_) rfl (by kernel_rfl) (by kernel_rfl) (by kernel_rfl) (fun _ _ _ h => h) (by kernel_rfl) (by assumption) ?_ ?_
            rotate_left
            · (intro w hSw; (try dsimp only at hSw); go_simp; try with_reducible rfl)
            simp only [Act.put, List.setIfInBounds_toArray, List.set_cons_zero, List.set_cons_succ]
            refine take_at (i := 20) (v := ?_) rfl (by kernel_rfl) (by kernel_rfl) (by kernel_rfl) (fun _ _ _ h => h) (by kernel_rfl) (by assumption) ?_ ?_
            rotate_left
            · (intro w hSw; (try dsimp only at hSw); go_simp; try with_reducible rfl)
            simp only [Act.put, List.setIfInBounds_toArray, List.set_cons_zero, List.set_cons_succ]
            refine take_at (i := 21) (v := ?_) rfl (by kernel_rfl) (by kernel_rfl) (by kernel_rfl) (fun _ _ _ h => h) (by kernel_rfl) (by assumption) ?_ ?_
            rotate_left
            · (intro w hSw; (try dsimp only at hSw); go_simp; try with_reducible rfl)
            simp only [Act.put, List.setIfInBounds_toArray, List.set_cons_zero, List.set_cons_succ]
            refine take_at (i := 22) (v := ?_) rfl (by kernel_rfl) (by kernel_rfl) (by kernel_rfl) (fun _ _ _ h => h) (by kernel_rfl) (by assumption) ?_ ?_
            rotate_left
            · (intro w hSw; (try dsimp only at hSw); go_simp; try with_reducible rfl)
            simp only [Act.put, List.setIfInBounds_toArray, List.set_cons_zero, List.set_cons_succ]
            refine take_at (i := 23) (v := ?_) rfl (by kernel_rfl) (by kernel_rfl) (by kernel_rfl) (fun _ _ _ h => h) (by kernel_rfl) (by assumption) ?_ ?_
            rotate_left
            · (intro w hSw; (try dsimp only at hSw); go_simp; try with_reducible rfl)
            simp only [Act.put, List.setIfInBounds_toArray, List.set_cons_zero, List.set_cons_succ]
            refine take_at (i := 24) (v := ?_) rfl (by kernel_rfl) (by kernel_rfl) (by kernel_rfl) (fun _ _ _ h => h) (by kernel_rfl) (by assumption) ?_ ?_
            rotate_left
            · (intro w hSw; (try dsimp only at hSw); go_simp; try with_reducible rfl)
            simp only [Act.put, List.setIfInBounds_toArray, List.set_cons_zero, List.set_cons_succ]
            refine take_at (i := 25) (v := ?_) rfl (by kernel_rfl) (by kernel_rfl) (by kernel_rfl) (fun _ _ _ h => h) (by kernel_rfl) (by assumption) ?_ ?_
            rotate_left
            · (intro w hSw; (try dsimp only at hSw); go_simp; try with_reducible rfl)
            simp only [Act.put, List.setIfInBounds_toArray, List.set_cons_zero, List.set_cons_succ]
            refine take_at (i := 26) (v := ?_) rfl (by kernel_rfl) (by kernel_rfl) (by kernel_rfl) (fun _ _ _ h => h) (by kernel_rfl) (by assumption) ?_ ?_
            rotate_left
            · (intro w hSw; (try dsimp only at hSw); go_simp; try with_reducible rfl)
            simp only [Act.put, List.setIfInBounds_toArray, List.set_cons_zero, List.set_cons_succ]
            refine take_at (i := 27) (v := ?_) rfl (by kernel_rfl) (by kernel_rfl) (by kernel_rfl) (fun _ _ _ h => h) (by kernel_rfl) (by assumption) ?_ ?_
            rotate_left
            · (intro w hSw; (try dsimp only at hSw); go_simp; try with_reducible rfl)
            simp only [Act.put, List.setIfInBounds_toArray, List.set_cons_zero, List.set_cons_succ]
            refine take_at (i := 28) (v := ?_) rfl (by kernel_rfl) (by kernel_rfl) (by kernel_rfl) (fun _ _ _ h => h) (by kernel_rfl) (by assumption) ?_ ?_
            rotate_left
            · (intro w hSw; (try dsimp only at hSw); go_simp; try with_reducible rfl)
            simp only [Act.put, List.setIfInBounds_toArray, List.set_cons_zero, List.set_cons_succ]
            refine take_at (i := 29) (v := ?_) rfl (by kernel_rfl) (by kernel_rfl) (by kernel_rfl) (fun _ _ _ h => h) (by kernel_rfl) (by assumption) ?_ ?_
            rotate_left
            · (intro w hSw; (try dsimp only at hSw); go_simp; try with_reducible rfl)
            simp only [Act.put, List.setIfInBounds_toArray, List.set_cons_zero, List.set_cons_succ]
            refine take_at (i := 30) (v := ?_) rfl (by kernel_rfl) (by kernel_rfl) (by kernel_rfl) (fun _ _ _ h => h) (by kernel_rfl) (by assumption) ?_ ?_
            rotate_left
            · (intro w hSw; (try dsimp only at hSw); go_simp; try with_reducible rfl)
            simp only [Act.put, List.setIfInBounds_toArray, List.set_cons_zero, List.set_cons_succ]
            refine take_at (i := 31) (v := ?_) rfl (by kernel_rfl) (by kernel_rfl) (by kernel_rfl) (fun _ _ _ h => h) (by kernel_rfl) (by assumption) ?_ ?_
            rotate_left
            · (intro w hSw; (try dsimp only at hSw); go_simp; try with_reducible rfl)
            simp only [Act.put, List.setIfInBounds_toArray, List.set_cons_zero, List.set_cons_succ]
            refine take_at (i := 32) (v := ?_) rfl (by kernel_rfl) (by kernel_rfl) (by kernel_rfl) (fun _ _ _ h => h) (by kernel_rfl) (by assumption) ?_ ?_
            rotate_left
            · (intro w hSw; (try dsimp only at hSw); go_simp; try with_reducible rfl)
            simp only [Act.put, List.setIfInBounds_toArray, List.set_cons_zero, List.set_cons_succ]
            refine take_at (i := 33) (v := ?_) rfl (by kernel_rfl) (by kernel_rfl) (by kernel_rfl) (fun _ _ _ h => h) (by kernel_rfl) (by assumption) ?_ ?_
            rotate_left
            · (intro w hSw; (try dsimp only at hSw); go_simp; try with_reducible rfl)
            simp only [Act.put, List.setIfInBounds_toArray, List.set_cons_zero, List.set_cons_succ]
            refine take_at (i := 34) (v := ?_) rfl (by kernel_rfl) (by kernel_rfl) (by kernel_rfl) (fun _ _ _ h => h) (by kernel_rfl) (by assumption) ?_ ?_
            rotate_left
            · (intro w hSw; (try dsimp only at hSw); go_simp; try with_reducible rfl)
            simp only [Act.put, List.setIfInBounds_toArray, List.set_cons_zero, List.set_cons_succ]
            refine take_at (i := 35) (v := ?_) rfl (by kernel_rfl) (by kernel_rfl) (by kernel_rfl) (fun _ _ _ h => h) (by kernel_rfl) (by assumption) ?_ ?_
            rotate_left
            · (intro w hSw; (try dsimp only at hSw); go_simp; try with_reducible rfl)
            simp only [Act.put, List.setIfInBounds_toArray, List.set_cons_zero, List.set_cons_succ]
            refine take_at (i := 36) (v := ?_) rfl (by kernel_rfl) (by kernel_rfl) (by kernel_rfl) (fun _ _ _ h => h) (by kernel_rfl) (by assumption) ?_ ?_
            rotate_left
            · (intro w hSw; (try dsimp only at hSw); go_simp; try with_reducible rfl)
            simp only [Act.put, List.setIfInBounds_toArray, List.set_cons_zero, List.set_cons_succ]
            refine take_at (i := 37) (v := ?_) rfl (by kernel_rfl) (by kernel_rfl) (by kernel_rfl) (fun _ _ _ h => h) (by kernel_rfl) (by assumption) ?_ ?_
            rotate_left
            · (intro w hSw; (try dsimp only at hSw); go_simp; try with_reducible rfl)
            simp only [Act.put, List.setIfInBounds_toArray, List.set_cons_zero, List.set_cons_succ]
            refine take_at (i := 38) (v := ?_) rfl (by kernel_rfl) (by kernel_rfl) (by kernel_rfl) (fun _ _ _ h => h) (by kernel_rfl) (by assumption) ?_ ?_
            rotate_left
            · (intro w hSw; (try dsimp only at hSw); go_simp; try with_reducible rfl)
            simp only [Act.put, List.setIfInBounds_toArray, List.set_cons_zero, List.set_cons_succ]
            refine take_at (i := 39) (v := ?_) rfl (by kernel_rfl) (by kernel_rfl) (by kernel_rfl) (fun _ _ _ h => h) (by kernel_rfl) (by assumption) ?_ ?_
            rotate_left
            · (intro w hSw; (try dsimp only at hSw); go_simp; try with_reducible rfl)
            simp only [Act.put, List.setIfInBounds_toArray, List.set_cons_zero, List.set_cons_succ]
            refine take_at (i := 40) (v := ?_) rfl (by kernel_rfl) (by kernel_rfl) (by kernel_rfl) (fun _ _ _ h => h) (by kernel_rfl) (by assumption) ?_ ?_
            rotate_left
            · (intro w hSw; (try dsimp only at hSw); go_simp; try with_reducible rfl)
            simp only [Act.put, List.setIfInBounds_toArray, List.set_cons_zero, List.set_cons_succ]
            refine take_at (i := 41) (v := ?_) rfl (by kernel_rfl) (by kernel_rfl) (by kernel_rfl) (fun _ _ _ h => h) (by kernel_rfl) (by assumption) ?_ ?_
            rotate_left
            · (intro w hSw; (try dsimp only at hSw); go_simp; try with_reducible rfl)
            simp only [Act.put, List.setIfInBounds_toArray, List.set_cons_zero, List.set_cons_succ]
            refine take_at (i := 42) (v := ?_) rfl (by kernel_rfl) (by kernel_rfl) (by kernel_rfl) (fun _ _ _ h => h) (by kernel_rfl) (by assumption) ?_ ?_
            rotate_left
            · (intro w hSw; (try dsimp only at hSw); go_simp; try with_reducible rfl)
            simp only [Act.put, List.setIfInBounds_toArray, List.set_cons_zero, List.set_cons_succ]
            refine take_at (i := 43) (v := ?_) rfl (by kernel_rfl) (by kernel_rfl) (by kernel_rfl) (fun _ _ _ h => h) (by kernel_rfl) (by assumption) ?_ ?_
            rotate_left
            · (intro w hSw; (try dsimp only at hSw); go_simp; try with_reducible rfl)
            simp only [Act.put, List.setIfInBounds_toArray, List.set_cons_zero, List.set_cons_succ]
            refine take_at (i := 44) (v := ?_) rfl (by kernel_rfl) (by kernel_rfl) (by kernel_rfl) (fun _ _ _ h => h) (by kernel_rfl) (by assumption) ?_ ?_
            rotate_left
            · (intro w hSw; (try dsimp only at hSw); go_simp; try with_reducible rfl)
            simp only [Act.put, List.setIfInBounds_toArray, List.set_cons_zero, List.set_cons_succ]
            refine take_at (i := 45) (v := ?_) rfl (by kernel_rfl) (by kernel_rfl) (by kernel_rfl) (fun _ _ _ h => h) (by kernel_rfl) (by assumption) ?_ ?_
            rotate_left
            · (intro w hSw; (try dsimp only at hSw); go_simp; try with_reducible rfl)
            simp only [Act.put, List.setIfInBounds_toArray, List.set_cons_zero, List.set_cons_succ]
            refine take_at (i := 46) (v := ?_) rfl (by kernel_rfl) (by kernel_rfl) (by kernel_rfl) (fun _ _ _ h => h) (by kernel_rfl) (by assumption) ?_ ?_
            rotate_left
            · (intro w hSw; (try dsimp only at hSw); go_simp; try with_reducible rfl)
            simp only [Act.put, List.setIfInBounds_toArray, List.set_cons_zero, List.set_cons_succ]
            refine take_at (i := 47) (v := ?_) rfl (by kernel_rfl) (by kernel_rfl) (by kernel_rfl) (fun _ _ _ h => h) (by kernel_rfl) (by assumption) ?_ ?_
            rotate_left
            · (intro w hSw; (try dsimp only at hSw); go_simp; try with_reducible rfl)
            simp only [Act.put, List.setIfInBounds_toArray, List.set_cons_zero, List.set_cons_succ]
            refine take_at (i := 48) (v := ?_) rfl (by kernel_rfl) (by kernel_rfl) (by kernel_rfl) (fun _ _ _ h => h) (by kernel_rfl) (by assumption) ?_ ?_
            rotate_left
            · (intro w hSw; (try dsimp only at hSw); go_simp; try with_reducible rfl)
            simp only [Act.put, List.setIfInBounds_toArray, List.set_cons_zero, List.set_cons_succ]
            refine take_at (i := 49) (v := ?_) rfl (by kernel_rfl) (by kernel_rfl) (by kernel_rfl) (fun _ _ _ h => h) (by kernel_rfl) (by assumption) ?_ ?_
            rotate_left
            · (intro w hSw; (try dsimp only at hSw); go_simp; try with_reducible rfl)
            simp only [Act.put, List.setIfInBounds_toArray, List.set_cons_zero, List.set_cons_succ]
            refine wpAnyH_done (by kernel_rfl) ?_ _
            clear hHeld HS hq HAT HBT
            go_wp2
            go_roundg (n - (j + 1))
            case rel => exact ⟨j + 1, by go_num, by omega, Nat.le_refl _, HY2⟩
            case measure => omega
          · have HBF := Lib.hid (HB10.out.trans (HY.out.mono HB10.out.size))
            clear HY
            go_wp2
            go_ret
            exact ⟨rfl, HBF.out⟩
theorem rowRaises_walk {H : Type} (enc : TypeId × Value → H) (base : Nat) (W : World)
    (v0 : Value) (d0 : DataW H) (p0 : List MemPlace) (ok0 : Value.okWide Try.prog W .any base 24 v0) (k0 : DataW.Trod enc Try.prog W 0 (fun _ => true) true 24 v0 d0 p0)
    (v1 : Value) (d1 : DataW H) (p1 : List MemPlace) (ok1 : Value.okWide Try.prog W .any base 32 v1) (k1 : DataW.Trod enc Try.prog W 0 (fun _ => true) true 32 v1 d1 p1) :
    Calls Try.prog 6 #[v0, v1] W fun e w' => e = .returned (.bool true) ∧ Below W.heap.size W w' := by
  obtain ⟨cols, u, L, rfl, hc, hL⟩ := open_line enc base W ok0 k0
  obtain ⟨a, rfl, ha⟩ := open_ac enc base W ok1 k1
  exact raise_core W cols u L a hc hL ha
end Go.Proofs.Ythildghpgajgoaa.Lab
