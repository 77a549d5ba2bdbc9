/- The reference's steps: Blank, Region. -/
import Derived.Test.YtdeahnphcfcfpaaGreatRpWide
import Derived.Test.YtdeahnphcfcfpaaGreatGgGood
namespace Go.Proofs.YtdeahnphcfcfpaaGreat.Lab
open Go Go.RowKit

structure St where
  what : Nat
  row : Nat
  col : Nat
  n : Nat
  m : Nat
  cell : Dc
  odd : Bool
def St.ok (s : St) : Prop := s.what < 256 ∧ s.row < 256 ∧ s.col < 256 ∧ s.n < 256 ∧ s.m < 256 ∧ s.cell.ok
def stL (s : St) : List Value := [.int .u8 (s.what : Nat), .int .u8 (s.row : Nat), .int .u8 (s.col : Nat), .int .u8 (s.n : Nat), .int .u8 (s.m : Nat), .int .u8 (s.cell.ru : Nat), .int .u8 (s.cell.ms : Nat), .int .u8 (s.cell.at1 : Nat), .bool s.cell.wide, .bool s.cell.high, .bool s.odd]
abbrev stV (s : St) : Value := .agg #[.int .u8 (s.what : Nat), .int .u8 (s.row : Nat), .int .u8 (s.col : Nat), .int .u8 (s.n : Nat), .int .u8 (s.m : Nat), .int .u8 (s.cell.ru : Nat), .int .u8 (s.cell.ms : Nat), .int .u8 (s.cell.at1 : Nat), .bool s.cell.wide, .bool s.cell.high, .bool s.odd]
def blS (s : St) : Cel := blankM (celD s.cell).a (celD s.cell).l
set_option maxHeartbeats 4000000 in
set_option maxRecDepth 100000 in
theorem sblank_any (w : World) (s : St) (hs : s.ok) : Calls Tryz.prog 30 #[stV s] w fun e w' => e = .returned (celV (blS s)) ∧ Below w.heap.size w w' := by
  obtain ⟨w0, hw0⟩ : ∃ W0, W0 = (w.alloc (.cells #[.int .u8 (s.what : Nat), .int .u8 (s.row : Nat), .int .u8 (s.col : Nat), .int .u8 (s.n : Nat), .int .u8 (s.m : Nat), .int .u8 (s.cell.ru : Nat), .int .u8 (s.cell.ms : Nat), .int .u8 (s.cell.at1 : Nat), .bool s.cell.wide, .bool s.cell.high, .bool s.odd] 40)).alloc (.cells #[.int .i32 0, .int .i32 0, .int .i32 0, .int .u8 0, .int .u8 0, .int .u8 0, .int .u8 0, .int .u8 0, .int .u8 0, .int .u8 0, .int .u8 0, .int .u8 0, .int .u16 0, .int .u8 0] 55) := ⟨_, rfl⟩
  obtain ⟨b1, hb1⟩ : ∃ b, b = w.heap.size := ⟨_, rfl⟩
  obtain ⟨b2, hb2⟩ : ∃ b, b = w.heap.size + 1 := ⟨_, rfl⟩
  have B0 : Below w.heap.size w w0 := by rw [hw0]; exact ((Below.refl _ _).alloc (Nat.le_refl _) _).alloc (by simp) _
  have h1 : Lie w0 b1 [.int .u8 (s.what : Nat), .int .u8 (s.row : Nat), .int .u8 (s.col : Nat), .int .u8 (s.n : Nat), .int .u8 (s.m : Nat), .int .u8 (s.cell.ru : Nat), .int .u8 (s.cell.ms : Nat), .int .u8 (s.cell.at1 : Nat), .bool s.cell.wide, .bool s.cell.high, .bool s.odd] := by rw [hw0]; exact (Lie.new w _ _ b1 hb1).below ((Below.refl _ _).alloc (Nat.le_refl _) _)
  have HZ := Lib.hid (show BAt w0 b2 Cel.z by rw [hw0, hb2]; exact BAt.newAt _ _ (by simp) Cel.z _)
  have y0 := h1.at 0 rfl
  have y1 := h1.at 1 rfl
  have y2 := h1.at 2 rfl
  have y3 := h1.at 3 rfl
  have y4 := h1.at 4 rfl
  have y5 := h1.at 5 rfl
  have y6 := h1.at 6 rfl
  have y7 := h1.at 7 rfl
  have y8 := h1.at 8 rfl
  have y9 := h1.at 9 rfl
  have y10 := h1.at 10 rfl
  have HB0 := Lib.hid B0
  have HSZ := Lib.hid (show b2 = w.heap.size + 1 from hb2)
  have HD := Lib.hid hs.2.2.2.2.2
  clear B0 h1 hs
  go_enter Tryz.func30, Tryz.ntmps30
  go_upto_region 1 with (fail)
  rw [← hw0, ← hb2, ← hb1]
  clear hw0 hb2 hb1
  go_wp2_with fail
  refine (rcell_any w0 s.cell HD.out).mono ?_
  rintro e w1 ⟨rfl, bb⟩
  obtain ⟨x, hx⟩ : ∃ x, x = celD s.cell := ⟨_, rfl⟩
  rw [← hx]
  have HX := Lib.hid (show blS s = blankM x.a x.l by rw [hx]; rfl)
  obtain ⟨w2, hw2⟩ : ∃ X, X = w1.alloc (.cells #[.int .i32 x.ru, .int .i32 x.m0, .int .i32 x.m1, .int .u8 x.k, .int .u8 x.a.fg.k, .int .u8 x.a.fg.r, .int .u8 x.a.fg.g, .int .u8 x.a.fg.b, .int .u8 x.a.bg.k, .int .u8 x.a.bg.r, .int .u8 x.a.bg.g, .int .u8 x.a.bg.b, .int .u16 (x.a.fl : Nat), .int .u8 x.l] 55) := ⟨_, rfl⟩
  obtain ⟨b3, hb3⟩ : ∃ b, b = w1.heap.size := ⟨_, rfl⟩
  have b2' : Below w0.heap.size w0 w2 := by rw [hw2]; exact bb.alloc bb.size _
  have h3 : Lie w2 b3 [.int .i32 x.ru, .int .i32 x.m0, .int .i32 x.m1, .int .u8 x.k, .int .u8 x.a.fg.k, .int .u8 x.a.fg.r, .int .u8 x.a.fg.g, .int .u8 x.a.fg.b, .int .u8 x.a.bg.k, .int .u8 x.a.bg.r, .int .u8 x.a.bg.g, .int .u8 x.a.bg.b, .int .u16 (x.a.fl : Nat), .int .u8 x.l] := by rw [hw2]; exact Lie.new w1 _ _ b3 hb3
  have k0 := h3.at 0 rfl
  have k1 := h3.at 1 rfl
  have k2 := h3.at 2 rfl
  have k3 := h3.at 3 rfl
  have k4 := h3.at 4 rfl
  have k5 := h3.at 5 rfl
  have k6 := h3.at 6 rfl
  have k7 := h3.at 7 rfl
  have k8 := h3.at 8 rfl
  have k9 := h3.at 9 rfl
  have k10 := h3.at 10 rfl
  have k11 := h3.at 11 rfl
  have k12 := h3.at 12 rfl
  have k13 := h3.at 13 rfl
  have HZ2 := Lib.hid (HZ.out.below b2')
  have HB2 := Lib.hid (HB0.out.trans (b2'.mono HB0.out.size))
  have HD3 := Lib.hid h3
  clear bb b2' h3 hx y0 y1 y2 y3 y4 y5 y6 y7 y8 y9 y10 HZ
  go_upto_region 2 with (fail)
  rw [← hw2, ← hb3]
  clear hw2 hb3
  go_wp2_with fail
  refine (rblank10_any w2 x.a x.l).mono ?_
  rintro e w3 ⟨rfl, b3'⟩
  obtain ⟨y, hy⟩ : ∃ y, y = blankM x.a x.l := ⟨_, rfl⟩
  rw [← hy]
  have HY := Lib.hid (show blS s = y by rw [HX.out, hy])
  have HZ3 := Lib.hid (HZ2.out.below b3')
  obtain ⟨wq, hwq⟩ : ∃ wq, wq = put14 w3 b2 0 y := ⟨_, rfl⟩
  have Z := Lib.hid (show BAt wq b2 y by rw [hwq]; exact HZ3.out.put y)
  have HBQ := Lib.hid (show Below w.heap.size w wq by rw [hwq]; exact (HB2.out.trans (b3'.mono HB2.out.size)).trans ((put14_but w3 b2 0 y).below (C := w.heap.size) (by have := HSZ.out; omega) (Nat.le_trans HB2.out.size b3'.size)))
  obtain ⟨_, ⟨z0, z1, z2, z3, z4, z5, z6, z7, z8, z9, z10, z11, z12, z13⟩, zf⟩ := HZ3.out
  dsimp only at z0 z1 z2 z3 z4 z5 z6 z7 z8 z9 z10 z11 z12 z13
  simp only [put14, Nat.zero_add] at hwq
  clear b3' hy k0 k1 k2 k3 k4 k5 k6 k7 k8 k9 k10 k11 k12 k13 HX
  go_wp2
  rw [← hwq]
  clear hwq z0 z1 z2 z3 z4 z5 z6 z7 z8 z9 z10 z11 z12 z13 zf
  obtain ⟨_, ⟨q0, q1, q2, q3, q4, q5, q6, q7, q8, q9, q10, q11, q12, q13⟩, _⟩ := Z.out
  rw [HY.out]
  exact bodyPost_ret (v := celV y) (by simp [results, Tryz.results30, go_sem, q0, q1, q2, q3, q4, q5, q6, q7, q8, q9, q10, q11, q12, q13]) rfl ⟨rfl, HBQ.out⟩
def regT (s : St) (n : Nat) : Int := if s.odd then (s.row : Int) - 2 else ((s.row % n : Nat) : Int)
def regBt (s : St) (n : Nat) : Int := if s.odd then (s.m : Int) - 2 else ((s.row % n + s.m % (n - s.row % n) : Nat) : Int)
def regN (s : St) : Int := if s.odd then (s.n : Int) - 3 else ((s.n % 9 : Nat) : Int)
set_option maxHeartbeats 4000000 in
set_option maxRecDepth 100000 in
theorem sregion_any (w : World) (s : St) (n : Nat) (hs : s.ok) (h0 : 0 < n) (hn : n ≤ 600) : Calls Tryz.prog 29 #[stV s, .int .i64 (n : Nat)] w fun e w' => e = .returned (.tuple #[.int .i64 (regT s n), .int .i64 (regBt s n), .int .i64 (regN s)]) ∧ Below w.heap.size w w' := by
  obtain ⟨w0, hw0⟩ : ∃ W0, W0 = w.alloc (.cells #[.int .u8 (s.what : Nat), .int .u8 (s.row : Nat), .int .u8 (s.col : Nat), .int .u8 (s.n : Nat), .int .u8 (s.m : Nat), .int .u8 (s.cell.ru : Nat), .int .u8 (s.cell.ms : Nat), .int .u8 (s.cell.at1 : Nat), .bool s.cell.wide, .bool s.cell.high, .bool s.odd] 40) := ⟨_, rfl⟩
  obtain ⟨b1, hb1⟩ : ∃ b, b = w.heap.size := ⟨_, rfl⟩
  have B0 : Below w.heap.size w w0 := by rw [hw0]; exact (Below.refl _ _).alloc (Nat.le_refl _) _
  have h1 : Lie w0 b1 [.int .u8 (s.what : Nat), .int .u8 (s.row : Nat), .int .u8 (s.col : Nat), .int .u8 (s.n : Nat), .int .u8 (s.m : Nat), .int .u8 (s.cell.ru : Nat), .int .u8 (s.cell.ms : Nat), .int .u8 (s.cell.at1 : Nat), .bool s.cell.wide, .bool s.cell.high, .bool s.odd] := by rw [hw0]; exact Lie.new w _ _ b1 hb1
  have y0 := h1.at 0 rfl
  have y1 := h1.at 1 rfl
  have y2 := h1.at 2 rfl
  have y3 := h1.at 3 rfl
  have y4 := h1.at 4 rfl
  have y5 := h1.at 5 rfl
  have y6 := h1.at 6 rfl
  have y7 := h1.at 7 rfl
  have y8 := h1.at 8 rfl
  have y9 := h1.at 9 rfl
  have y10 := h1.at 10 rfl
  have HB0 := Lib.hid B0
  obtain ⟨x0, h0x⟩ : ∃ x, x = s.what := ⟨_, rfl⟩
  obtain ⟨t, ht⟩ : ∃ t, t = s.row % n := ⟨_, rfl⟩
  obtain ⟨k, hk⟩ : ∃ k, k = s.m % (n - t) := ⟨_, rfl⟩
  have htn : t < n := by rw [ht]; exact Nat.mod_lt _ h0
  have hkn : k < n - t := by rw [hk]; exact Nat.mod_lt _ (by omega)
  have r1 : Int.tmod (s.row : Int) (n : Int) = (t : Int) := by rw [ht]; rfl
  have r1' : (s.row : Int) % (n : Int) = (t : Int) := by rw [ht]; rfl
  have r2 : IntKind.i64.wrap ((n : Int) - (t : Int)) = ((n - t : Nat) : Int) := by rw [IntKind.wrap_i64]; omega
  have r3 : Int.tmod (s.m : Int) ((n - t : Nat) : Int) = (k : Int) := by rw [hk]; rfl
  have r3' : (s.m : Int) % ((n - t : Nat) : Int) = (k : Int) := by rw [hk]; rfl
  have r4 : IntKind.i64.wrap ((t : Int) + (k : Int)) = ((t + k : Nat) : Int) := by rw [IntKind.wrap_i64]; omega
  have n1 : ¬ n = 0 := by omega
  have n2 : ¬ n - t = 0 := by omega
  have n1' : ¬ (n : Int) = 0 := by omega
  have n2' : ¬ ((n - t : Nat) : Int) = 0 := by omega
  have s1 : IntKind.i64.wrap (s.row : Int) = (s.row : Int) := by rw [IntKind.wrap_i64]; have := hs; unfold St.ok at this; omega
  have s2 : IntKind.i64.wrap (s.m : Int) = (s.m : Int) := by rw [IntKind.wrap_i64]; have := hs; unfold St.ok at this; omega
  have s3 : IntKind.i64.wrap (s.n : Int) = (s.n : Int) := by rw [IntKind.wrap_i64]; have := hs; unfold St.ok at this; omega
  obtain ⟨sr, hsr⟩ : ∃ q : Int, q = (s.row : Int) - 2 := ⟨_, rfl⟩
  obtain ⟨sm, hsm⟩ : ∃ q : Int, q = (s.m : Int) - 2 := ⟨_, rfl⟩
  obtain ⟨sn, hsn⟩ : ∃ q : Int, q = (s.n : Int) - 3 := ⟨_, rfl⟩
  have s4 : IntKind.i64.wrap ((s.row : Int) - 2) = sr := by rw [IntKind.wrap_i64, hsr]; have := hs; unfold St.ok at this; omega
  have s5 : IntKind.i64.wrap ((s.m : Int) - 2) = sm := by rw [IntKind.wrap_i64, hsm]; have := hs; unfold St.ok at this; omega
  have s6 : IntKind.i64.wrap ((s.n : Int) - 3) = sn := by rw [IntKind.wrap_i64, hsn]; have := hs; unfold St.ok at this; omega
  obtain ⟨n9, hn9⟩ : ∃ q, q = s.n % 9 := ⟨_, rfl⟩
  have s7 : Int.tmod (s.n : Int) 9 = (n9 : Int) := by rw [hn9]; rfl
  have s7' : (s.n : Int) % 9 = (n9 : Int) := by rw [hn9]; rfl
  have s8 : IntKind.u8.wrap (n9 : Int) = (n9 : Int) := by rw [IntKind.wrap_u8]; omega
  have s9 : IntKind.i64.wrap (n9 : Int) = (n9 : Int) := by rw [IntKind.wrap_i64]; omega
  have HE := Lib.hid (show regT s n = (if s.odd then sr else (t : Int)) ∧ regBt s n = (if s.odd then sm else ((t + k : Nat) : Int)) ∧ regN s = (if s.odd then sn else (n9 : Int)) by unfold regT regBt regN; rw [hsr, hsm, hsn, hn9, hk, ht]; exact ⟨rfl, rfl, rfl⟩)
  clear B0 h1 hs h0 hn ht hk htn hkn hsr hsm hsn hn9 h0x
  cases ho : s.odd
  · rw [ho] at hw0 y10 HE
    go_enter Tryz.func29, Tryz.ntmps29
    go_upto_region 1 with (fail)
    rw [← hw0, ← hb1]
    clear hw0 hb1
    go_wp2
    go_quiet (fail)
    go_wp2
    exact bodyPost_ret (v := .tuple #[.int .i64 (t : Nat), .int .i64 ((t + k : Nat) : Int), .int .i64 (n9 : Nat)]) (by simp [results, Tryz.results29, go_sem]) rfl ⟨by rw [HE.out.1, HE.out.2.1, HE.out.2.2]; rfl, HB0.out.trans ⟨rfl, rfl, rfl, Nat.le_refl _, fun _ _ => rfl⟩⟩
  · rw [ho] at hw0 y10 HE
    go_enter Tryz.func29, Tryz.ntmps29
    go_upto_region 1 with (fail)
    rw [← hw0, ← hb1]
    clear hw0 hb1
    go_wp2
    go_quiet (fail)
    go_wp2
    exact bodyPost_ret (v := .tuple #[.int .i64 sr, .int .i64 sm, .int .i64 sn]) (by simp [results, Tryz.results29, go_sem]) rfl ⟨by rw [HE.out.1, HE.out.2.1, HE.out.2.2]; rfl, HB0.out.trans ⟨rfl, rfl, rfl, Nat.le_refl _, fun _ _ => rfl⟩⟩
end Go.Proofs.YtdeahnphcfcfpaaGreat.Lab
