/- What is done: an act's numbers, its rectangle, place, cell. The cell of an act. -/
import Derived.Test.YtlaafmjiiiaceaaDoorRcBroken
import Derived.Test.YtlaafmjiiiaceaaDoorRcGrid
import Derived.Test.YtlaafmjiiiaceaaDoorRoDra
set_option linter.unusedVariables false
namespace Go.Proofs.YtlaafmjiiiaceaaDoor.Lab
open Go Go.RowKit

def smallM (n : Int) : Int := if n.tmod 16 = 15 then n else n.tmod 14 % 14 - 2
theorem tmod_bd (n : Int) (k : Int) (hk : 0 < k) : -k < n.tmod k ∧ n.tmod k < k := by
  have h1 := Int.emod_nonneg n (by omega : k ≠ 0)
  have h2 := Int.emod_lt_of_pos n hk
  rw [Int.tmod_eq_emod]
  split <;> omega
theorem small_ok {n : Int} (h : I64 n) : I64 (smallM n) := by
  have h1 := Int.emod_nonneg (n.tmod 14) (by decide : (14 : Int) ≠ 0)
  have h2 := Int.emod_lt_of_pos (n.tmod 14) (by decide : (0 : Int) < 14)
  unfold smallM I64
  unfold I64 at h
  split <;> omega
theorem small_any (w : World) (n : Int) (h : I64 n) : Calls Tryd.prog 36 #[.int .i64 n] w fun e w' => e = .returned (.int .i64 (smallM n)) ∧ w = w' := by
  have b1 := tmod_bd n 16 (by decide)
  have b2 := tmod_bd n 14 (by decide)
  have h1 := Int.emod_nonneg (n.tmod 14) (by decide : (14 : Int) ≠ 0)
  have h2 := Int.emod_lt_of_pos (n.tmod 14) (by decide : (0 : Int) < 14)
  obtain ⟨s, hs⟩ : ∃ s, s = smallM n := ⟨_, rfl⟩
  have HS := Lib.hid hs
  rw [← hs]
  have u1 : IntKind.i64.wrap (n.tmod 16) = n.tmod 16 := by rw [IntKind.wrap_i64]; omega
  have u2 : IntKind.i64.wrap (n.tmod 14) = n.tmod 14 := by rw [IntKind.wrap_i64]; omega
  have u3 : IntKind.i64.wrap (n.tmod 14 + 14) = n.tmod 14 + 14 := by rw [IntKind.wrap_i64]; omega
  clear hs
  by_cases h15 : n.tmod 16 = 15
  · replace HS := Lib.hid (show s = n by rw [HS.out]; exact if_pos h15)
    go_enter Tryd.func36, Tryd.ntmps36
    go_wp2
    go_ret
    exact ⟨by rw [HS.out]; rfl, rfl⟩
  · replace HS := Lib.hid (show s = n.tmod 14 % 14 - 2 by rw [HS.out]; exact if_neg h15)
    go_enter Tryd.func36, Tryd.ntmps36
    go_wp2
    go_ret
    exact ⟨by rw [HS.out]; rfl, rfl⟩
structure Ac where
  what : Nat
  r : R4
  p : Int
  q : Int
  d : Dc
  ru : Nat
structure Ac.ok (a : Ac) : Prop where
  w : a.what < 256
  r : a.r.Ok
  p : I64 a.p
  q : I64 a.q
  d : a.d.ok
  u : a.ru < 256
abbrev acV (a : Ac) : Value := .agg #[.int .u8 (a.what : Nat), .int .i64 a.r.t, .int .i64 a.r.l, .int .i64 a.r.n, .int .i64 a.r.c, .int .i64 a.p, .int .i64 a.q, .int .u8 (a.d.ru : Nat), .int .u8 (a.d.ms : Nat), .int .u8 (a.d.at1 : Nat), .bool a.d.wide, .bool a.d.high, .int .u8 (a.ru : Nat)]
abbrev cells13 (a : Ac) : List Value := [.int .u8 (a.what : Nat), .int .i64 a.r.t, .int .i64 a.r.l, .int .i64 a.r.n, .int .i64 a.r.c, .int .i64 a.p, .int .i64 a.q, .int .u8 (a.d.ru : Nat), .int .u8 (a.d.ms : Nat), .int .u8 (a.d.at1 : Nat), .bool a.d.wide, .bool a.d.high, .int .u8 (a.ru : Nat)]
def rectM (a : Ac) : R4 := ⟨smallM a.r.t, smallM a.r.l, smallM a.r.n, smallM a.r.c⟩
theorem rectM_ok {a : Ac} (h : a.ok) : (rectM a).Ok := ⟨small_ok h.r.t, small_ok h.r.l, small_ok h.r.n, small_ok h.r.c⟩
set_option maxHeartbeats 8000000 in
set_option maxRecDepth 100000 in
theorem rect1_any (w : World) (a : Ac) (ha : a.ok) : Calls Tryd.prog 16 #[acV a] w fun e w' => e = .returned (r4V (rectM a)) ∧ Below w.heap.size w w' := by
  obtain ⟨what, ⟨rt, rl, rn, rc⟩, p, q, ⟨d0, d1, d2, d3, d4⟩, ru⟩ := a
  obtain ⟨b1, hb1⟩ : ∃ b, b = w.heap.size := ⟨_, rfl⟩
  obtain ⟨b2, hb2⟩ : ∃ b, b = w.heap.size + 1 := ⟨_, rfl⟩
  obtain ⟨w0, hw0⟩ : ∃ x, x = (w.alloc (.cells #[.int .u8 (what : Nat), .int .i64 rt, .int .i64 rl, .int .i64 rn, .int .i64 rc, .int .i64 p, .int .i64 q, .int .u8 (d0 : Nat), .int .u8 (d1 : Nat), .int .u8 (d2 : Nat), .bool d3, .bool d4, .int .u8 (ru : Nat)] 36)).alloc (.cells #[.int .i64 0, .int .i64 0, .int .i64 0, .int .i64 0] 30) := ⟨_, rfl⟩
  have HB0 := Lib.hid (show Below w.heap.size w w0 by rw [hw0]; exact ((Below.refl _ _).alloc (Nat.le_refl _) _).alloc (by simp) _)
  have H1 := Lib.hid (show Lie w0 b1 [.int .u8 (what : Nat), .int .i64 rt, .int .i64 rl, .int .i64 rn, .int .i64 rc, .int .i64 p, .int .i64 q, .int .u8 (d0 : Nat), .int .u8 (d1 : Nat), .int .u8 (d2 : Nat), .bool d3, .bool d4, .int .u8 (ru : Nat)] by rw [hw0]; exact (Lie.new w _ _ b1 hb1).below ((Below.refl _ _).alloc (Nat.le_refl _) _))
  have HQ := Lib.hid (show Q4 w0 b2 ⟨0, 0, 0, 0⟩ by rw [hw0]; exact Q4.newAt _ b2 (by rw [hb2]; simp) 0 0 0 0 _)
  have HNE := Lib.hid (show b1 = w.heap.size ∧ b2 = w.heap.size + 1 from ⟨hb1, hb2⟩)
  have hrt : I64 rt := ha.r.t
  have hrl : I64 rl := ha.r.l
  have hrn : I64 rn := ha.r.n
  have hrc : I64 rc := ha.r.c
  have S1 := Lib.hid (fun W => small_any W rt hrt)
  have S2 := Lib.hid (fun W => small_any W rl hrl)
  have S3 := Lib.hid (fun W => small_any W rn hrn)
  have S4 := Lib.hid (fun W => small_any W rc hrc)
  clear hrt hrl hrn hrc ha
  obtain ⟨x0, hx0⟩ : ∃ x, x = smallM rt := ⟨_, rfl⟩
  obtain ⟨x1, hx1⟩ : ∃ x, x = smallM rl := ⟨_, rfl⟩
  obtain ⟨x2, hx2⟩ : ∃ x, x = smallM rn := ⟨_, rfl⟩
  obtain ⟨x3, hx3⟩ : ∃ x, x = smallM rc := ⟨_, rfl⟩
  unfold rectM
  dsimp only
  rw [← hx0, ← hx1, ← hx2, ← hx3]
  rw [← hx0] at S1
  rw [← hx1] at S2
  rw [← hx2] at S3
  rw [← hx3] at S4
  clear hx0 hx1 hx2 hx3
  have KEEP := Lib.hid (show ∀ W, Below w0.heap.size w0 W → (fun wx => wx.cell? ⟨b1, 1, none⟩ = some (.int .i64 rt) ∧ wx.cell? ⟨b1, 2, none⟩ = some (.int .i64 rl) ∧ wx.cell? ⟨b1, 3, none⟩ = some (.int .i64 rn) ∧ wx.cell? ⟨b1, 4, none⟩ = some (.int .i64 rc)) W from fun W kb => by
    have h := H1.out.below kb
    exact ⟨h.at 1 rfl, h.at 2 rfl, h.at 3 rfl, h.at 4 rfl⟩)
  go_enter Tryd.func16, Tryd.ntmps16
  go_upto_region 1 with (fail)
  rw [← hw0, ← hb2, ← hb1]
  clear hw0 hb1 hb2
  refine wp_region_held_drew (S := (fun wx => wx.cell? ⟨b1, 1, none⟩ = some (.int .i64 rt) ∧ wx.cell? ⟨b1, 2, none⟩ = some (.int .i64 rl) ∧ wx.cell? ⟨b1, 3, none⟩ = some (.int .i64 rn) ∧ wx.cell? ⟨b1, 4, none⟩ = some (.int .i64 rc))) (by kernel_rfl) ?_ (fun hHeld => ?_)
  · exact KEEP.out _ ((Below.refl _ _).drew)
  obtain ⟨wd, hwd⟩ : ∃ X, X = w0.drew := ⟨_, rfl⟩
  have HX := Lib.hid (show Below w0.heap.size w0 wd by rw [hwd]; exact (Below.refl _ _).drew)
  replace hHeld := KEEP.out _ HX.out
  rw [← hwd]
  clear hwd
  refine tk 0 rfl (fun w hSw => by (try dsimp only at hSw); go_simp; try with_reducible rfl) ?_
  go_frame
  refine tk 1 rfl (fun w hSw => by (try dsimp only at hSw); go_simp; try with_reducible rfl) ?_
  go_frame
  refine tk 2 rfl (fun w hSw => by (try dsimp only at hSw); go_simp; try with_reducible rfl) ?_
  go_frame
  refine tk 4 rfl (fun w hSw => by (try dsimp only at hSw); go_simp; try with_reducible rfl) ?_
  go_frame
  refine tk 5 rfl (fun w hSw => by (try dsimp only at hSw); go_simp; try with_reducible rfl) ?_
  go_frame
  refine tk 6 rfl (fun w hSw => by (try dsimp only at hSw); go_simp; try with_reducible rfl) ?_
  go_frame
  refine tk 8 rfl (fun w hSw => by (try dsimp only at hSw); go_simp; try with_reducible rfl) ?_
  go_frame
  refine tk 9 rfl (fun w hSw => by (try dsimp only at hSw); go_simp; try with_reducible rfl) ?_
  go_frame
  refine tk 10 rfl (fun w hSw => by (try dsimp only at hSw); go_simp; try with_reducible rfl) ?_
  go_frame
  refine tk 12 rfl (fun w hSw => by (try dsimp only at hSw); go_simp; try with_reducible rfl) ?_
  go_frame
  refine tk 13 rfl (fun w hSw => by (try dsimp only at hSw); go_simp; try with_reducible rfl) ?_
  go_frame
  refine tk 14 rfl (fun w hSw => by (try dsimp only at hSw); go_simp; try with_reducible rfl) ?_
  go_frame
  refine do_at (i := 3) rfl (by kernel_rfl) (by kernel_rfl) (fun K hK => ?_)
  go_simp
  refine (S1.out _).mono ?_
  rintro e w1 ⟨rfl, rfl⟩
  go_wp2_with fail
  refine hK.out _ _ ?_ (fun hHeld => ?_)
  · exact KEEP.out _ HX.out
  clear hK K
  try go_frame
  refine do_at (i := 7) rfl (by kernel_rfl) (by kernel_rfl) (fun K hK => ?_)
  go_simp
  refine (S2.out _).mono ?_
  rintro e w1 ⟨rfl, rfl⟩
  go_wp2_with fail
  refine hK.out _ _ ?_ (fun hHeld => ?_)
  · exact KEEP.out _ HX.out
  clear hK K
  try go_frame
  refine do_at (i := 11) rfl (by kernel_rfl) (by kernel_rfl) (fun K hK => ?_)
  go_simp
  refine (S3.out _).mono ?_
  rintro e w1 ⟨rfl, rfl⟩
  go_wp2_with fail
  refine hK.out _ _ ?_ (fun hHeld => ?_)
  · exact KEEP.out _ HX.out
  clear hK K
  try go_frame
  refine do_at (i := 15) rfl (by kernel_rfl) (by kernel_rfl) (fun K hK => ?_)
  go_simp
  refine (S4.out _).mono ?_
  rintro e w1 ⟨rfl, rfl⟩
  go_wp2_with fail
  refine hK.out _ _ ?_ (fun hHeld => ?_)
  · exact KEEP.out _ HX.out
  clear hK K
  try go_frame
  refine tk 16 rfl (fun w hSw => by (try dsimp only at hSw); go_simp; try with_reducible rfl) ?_
  go_frame
  have QZ := Lib.hid (HQ.out.below HX.out)
  obtain ⟨wq, hwq⟩ : ∃ X, X = put4 wd b2 x0 x1 x2 x3 := ⟨_, rfl⟩
  have Z := Lib.hid (show Q4 wq b2 ⟨x0, x1, x2, x3⟩ by rw [hwq]; exact QZ.out.put _ _ _ _)
  have HE := Lib.hid (show Below w.heap.size w wq by
    rw [hwq]
    exact (HB0.out.trans (HX.out.mono HB0.out.size)).trans ((put4_but wd b2 _ _ _ _).below (C := w.heap.size) (by have := HNE.out; omega) (Nat.le_trans HB0.out.size HX.out.size)))
  have HSQ := Lib.hid (show (fun wx => wx.cell? ⟨b1, 1, none⟩ = some (.int .i64 rt) ∧ wx.cell? ⟨b1, 2, none⟩ = some (.int .i64 rl) ∧ wx.cell? ⟨b1, 3, none⟩ = some (.int .i64 rn) ∧ wx.cell? ⟨b1, 4, none⟩ = some (.int .i64 rc)) wq by
    have h := H1.out.below HX.out
    have hne : b1 ≠ b2 := by have := HNE.out; omega
    rw [hwq]
    exact ⟨(put4_but wd b2 x0 x1 x2 x3).cell (h.at 1 rfl) (by simpa using hne), (put4_but wd b2 x0 x1 x2 x3).cell (h.at 2 rfl) (by simpa using hne), (put4_but wd b2 x0 x1 x2 x3).cell (h.at 3 rfl) (by simpa using hne), (put4_but wd b2 x0 x1 x2 x3).cell (h.at 4 rfl) (by simpa using hne)⟩)
  obtain ⟨s0, ⟨z0, z1, z2, z3⟩, zf⟩ := QZ.out
  have f0 := zf 0
  have f1 := zf 1
  have f2 := zf 2
  have f3 := zf 3
  dsimp only at z0 z1 z2 z3
  unfold put4 at hwq
  refine do_at (i := 17) rfl (by kernel_rfl) (by kernel_rfl) (fun K hK => ?_)
  go_simp
  rw [← hwq]
  clear hwq z0 z1 z2 z3 f0 f1 f2 f3 zf
  refine hK.out _ _ ?_ (fun hHeld => ?_)
  · exact HSQ.out
  clear hK K
  try go_frame
  refine wpAnyH_done (by kernel_rfl) ?_ _
  obtain ⟨_, ⟨k0, k1, k2, k3⟩, _⟩ := Z.out
  dsimp only at k0 k1 k2 k3
  clear hHeld
  go_wp2
  exact bodyPost_ret (v := .agg #[.int .i64 x0, .int .i64 x1, .int .i64 x2, .int .i64 x3]) (by simp [results, Tryd.results16, go_sem, k0, k1, k2, k3]) rfl ⟨rfl, HE.out⟩
set_option maxHeartbeats 8000000 in
set_option maxRecDepth 100000 in
theorem to_any (w : World) (a : Ac) (ha : a.ok) : Calls Tryd.prog 20 #[acV a] w fun e w' => e = .returned (.agg #[.int .i64 (smallM a.p), .int .i64 (smallM a.q)]) ∧ Below w.heap.size w w' := by
  obtain ⟨what, ⟨rt, rl, rn, rc⟩, p, q, ⟨d0, d1, d2, d3, d4⟩, ru⟩ := a
  obtain ⟨b1, hb1⟩ : ∃ b, b = w.heap.size := ⟨_, rfl⟩
  obtain ⟨b2, hb2⟩ : ∃ b, b = w.heap.size + 1 := ⟨_, rfl⟩
  obtain ⟨w0, hw0⟩ : ∃ x, x = (w.alloc (.cells #[.int .u8 (what : Nat), .int .i64 rt, .int .i64 rl, .int .i64 rn, .int .i64 rc, .int .i64 p, .int .i64 q, .int .u8 (d0 : Nat), .int .u8 (d1 : Nat), .int .u8 (d2 : Nat), .bool d3, .bool d4, .int .u8 (ru : Nat)] 36)).alloc (.cells #[.int .i64 0, .int .i64 0] 32) := ⟨_, rfl⟩
  have HB0 := Lib.hid (show Below w.heap.size w w0 by rw [hw0]; exact ((Below.refl _ _).alloc (Nat.le_refl _) _).alloc (by simp) _)
  have H1 := Lib.hid (show Lie w0 b1 [.int .u8 (what : Nat), .int .i64 rt, .int .i64 rl, .int .i64 rn, .int .i64 rc, .int .i64 p, .int .i64 q, .int .u8 (d0 : Nat), .int .u8 (d1 : Nat), .int .u8 (d2 : Nat), .bool d3, .bool d4, .int .u8 (ru : Nat)] by rw [hw0]; exact (Lie.new w _ _ b1 hb1).below ((Below.refl _ _).alloc (Nat.le_refl _) _))
  have hh2 : w0.heap[b2]? = some (.cells #[.int .i64 0, .int .i64 0] 32 (0, 0)) := by
    have := heap_alloc_new (w.alloc (.cells #[.int .u8 (what : Nat), .int .i64 rt, .int .i64 rl, .int .i64 rn, .int .i64 rc, .int .i64 p, .int .i64 q, .int .u8 (d0 : Nat), .int .u8 (d1 : Nat), .int .u8 (d2 : Nat), .bool d3, .bool d4, .int .u8 (ru : Nat)] 36)) (.cells #[.int .i64 0, .int .i64 0] 32)
    rw [hw0, hb2]
    rw [World.size_alloc] at this
    exact this
  have H2 := Lib.hid hh2
  have HNE := Lib.hid (show b1 = w.heap.size ∧ b2 = w.heap.size + 1 from ⟨hb1, hb2⟩)
  have hp : I64 p := ha.p
  have hq : I64 q := ha.q
  have S1 := Lib.hid (fun W => small_any W p hp)
  have S2 := Lib.hid (fun W => small_any W q hq)
  clear hp hq ha hh2
  obtain ⟨x0, hx0⟩ : ∃ x, x = smallM p := ⟨_, rfl⟩
  obtain ⟨x1, hx1⟩ : ∃ x, x = smallM q := ⟨_, rfl⟩
  dsimp only
  rw [← hx0, ← hx1]
  rw [← hx0] at S1
  rw [← hx1] at S2
  clear hx0 hx1
  have KEEP := Lib.hid (show ∀ W, Below w0.heap.size w0 W → (fun wx => wx.cell? ⟨b1, 5, none⟩ = some (.int .i64 p) ∧ wx.cell? ⟨b1, 6, none⟩ = some (.int .i64 q)) W from fun W kb => by
    have h := H1.out.below kb
    exact ⟨h.at 5 rfl, h.at 6 rfl⟩)
  go_enter Tryd.func20, Tryd.ntmps20
  go_upto_region 1 with (fail)
  rw [← hw0, ← hb2, ← hb1]
  clear hw0 hb1 hb2
  refine wp_region_held_drew (S := (fun wx => wx.cell? ⟨b1, 5, none⟩ = some (.int .i64 p) ∧ wx.cell? ⟨b1, 6, none⟩ = some (.int .i64 q))) (by kernel_rfl) ?_ (fun hHeld => ?_)
  · exact KEEP.out _ ((Below.refl _ _).drew)
  obtain ⟨wd, hwd⟩ : ∃ X, X = w0.drew := ⟨_, rfl⟩
  have HX := Lib.hid (show Below w0.heap.size w0 wd by rw [hwd]; exact (Below.refl _ _).drew)
  replace hHeld := KEEP.out _ HX.out
  rw [← hwd]
  clear hwd
  refine tk 0 rfl (fun w hSw => by (try dsimp only at hSw); go_simp; try with_reducible rfl) ?_
  go_frame
  refine tk 1 rfl (fun w hSw => by (try dsimp only at hSw); go_simp; try with_reducible rfl) ?_
  go_frame
  refine tk 2 rfl (fun w hSw => by (try dsimp only at hSw); go_simp; try with_reducible rfl) ?_
  go_frame
  refine tk 4 rfl (fun w hSw => by (try dsimp only at hSw); go_simp; try with_reducible rfl) ?_
  go_frame
  refine tk 5 rfl (fun w hSw => by (try dsimp only at hSw); go_simp; try with_reducible rfl) ?_
  go_frame
  refine tk 6 rfl (fun w hSw => by (try dsimp only at hSw); go_simp; try with_reducible rfl) ?_
  go_frame
  refine do_at (i := 3) rfl (by kernel_rfl) (by kernel_rfl) (fun K hK => ?_)
  go_simp
  refine (S1.out _).mono ?_
  rintro e w1 ⟨rfl, rfl⟩
  go_wp2_with fail
  refine hK.out _ _ ?_ (fun hHeld => ?_)
  · exact KEEP.out _ HX.out
  clear hK K
  try go_frame
  refine do_at (i := 7) rfl (by kernel_rfl) (by kernel_rfl) (fun K hK => ?_)
  go_simp
  refine (S2.out _).mono ?_
  rintro e w1 ⟨rfl, rfl⟩
  go_wp2_with fail
  refine hK.out _ _ ?_ (fun hHeld => ?_)
  · exact KEEP.out _ HX.out
  clear hK K
  try go_frame
  refine tk 8 rfl (fun w hSw => by (try dsimp only at hSw); go_simp; try with_reducible rfl) ?_
  go_frame
  have hz := (HX.out.block b2 (Array.getElem?_eq_some_iff.1 H2.out).1).trans H2.out
  have z0 : wd.cell? ⟨b2, 0, none⟩ = some (.int .i64 0) := by rw [cell_of_row wd b2 0 _ _ _ hz]; simp
  have z1 : wd.cell? ⟨b2, 1, none⟩ = some (.int .i64 0) := by rw [cell_of_row wd b2 1 _ _ _ hz]; simp
  have f0 : wd.frozen? ⟨b2, 0, none⟩ = false := frozen_of_row wd b2 0 _ _ hz
  have f1 : wd.frozen? ⟨b2, 1, none⟩ = false := frozen_of_row wd b2 1 _ _ hz
  obtain ⟨wq, hwq⟩ : ∃ X, X = (wd.setCell ⟨b2, 0, none⟩ (.int .i64 x0)).setCell ⟨b2, 1, none⟩ (.int .i64 x1) := ⟨_, rfl⟩
  have hbut : But b2 wd wq := by rw [hwq]; exact (But.set wd b2 0 _).trans (But.set _ b2 1 _)
  have Z := Lib.hid (show wq.cell? ⟨b2, 0, none⟩ = some (.int .i64 x0) ∧ wq.cell? ⟨b2, 1, none⟩ = some (.int .i64 x1) by
    rw [hwq]
    constructor <;> simp [World.cell?_setCell_other, World.cell?_setCell_same', z0, z1])
  have HE := Lib.hid (show Below w.heap.size w wq from (HB0.out.trans (HX.out.mono HB0.out.size)).trans (hbut.below (C := w.heap.size) (by have := HNE.out; omega) (Nat.le_trans HB0.out.size HX.out.size)))
  have HSQ := Lib.hid (show (fun wx => wx.cell? ⟨b1, 5, none⟩ = some (.int .i64 p) ∧ wx.cell? ⟨b1, 6, none⟩ = some (.int .i64 q)) wq by
    have h := H1.out.below HX.out
    have hne : b1 ≠ b2 := by have := HNE.out; omega
    exact ⟨hbut.cell (h.at 5 rfl) (by simpa using hne), hbut.cell (h.at 6 rfl) (by simpa using hne)⟩)
  clear hz hbut
  refine do_at (i := 9) rfl (by kernel_rfl) (by kernel_rfl) (fun K hK => ?_)
  go_simp
  rw [← hwq]
  clear hwq z0 z1 f0 f1
  refine hK.out _ _ ?_ (fun hHeld => ?_)
  · exact HSQ.out
  clear hK K
  try go_frame
  refine wpAnyH_done (by kernel_rfl) ?_ _
  obtain ⟨k0, k1⟩ := Z.out
  clear hHeld
  go_wp2
  exact bodyPost_ret (v := .agg #[.int .i64 x0, .int .i64 x1]) (by simp [results, Tryd.results20, go_sem, k0, k1]) rfl ⟨rfl, HE.out⟩

theorem BAt.setRu {w : World} {b : Nat} {c : Cel} (h : BAt w b c) (x : Int) : BAt (w.setCell ⟨b, 0, none⟩ (.int .i32 x)) b { c with ru := x } := by
  obtain ⟨h0, ⟨a0, a1, a2, a3, a4, a5, a6, a7, a8, a9, a10, a11, a12, a13⟩, hf⟩ := h
  refine ⟨by simp; exact h0, ⟨?_, ?_, ?_, ?_, ?_, ?_, ?_, ?_, ?_, ?_, ?_, ?_, ?_, ?_⟩, fun i => by simp [hf i]⟩ <;> simp [World.cell?_setCell_other, World.cell?_setCell_same', a0, a1, a2, a3, a4, a5, a6, a7, a8, a9, a10, a11, a12, a13]
theorem BAt.past2 {w w' : World} {b : Nat} {c : Cel} (h : BAt w b c) (k : Below w.heap.size w w') : BAt w' b c := h.below k
def nth4 (k : Nat) : Int := if k = 0 then 0 else if k = 1 then 7 else if k = 2 then 20013 else 769
def cellM (a : Ac) : Cel := if a.ru % 8 = 7 then { celD a.d with ru := nth4 (a.ru / 8 % 4) } else celD a.d
set_option maxHeartbeats 8000000 in
set_option maxRecDepth 100000 in
theorem cell12_any (w : World) (a : Ac) (ha : a.ok) : Calls Tryd.prog 30 #[acV a] w fun e w' => e = .returned (celV (cellM a)) ∧ Below w.heap.size w w' := by
  obtain ⟨b1, hb1⟩ : ∃ b, b = w.heap.size := ⟨_, rfl⟩
  obtain ⟨b2, hb2⟩ : ∃ b, b = w.heap.size + 1 := ⟨_, rfl⟩
  obtain ⟨w0, hw0⟩ : ∃ x, x = (w.alloc (.cells #[.int .u8 (a.what : Nat), .int .i64 a.r.t, .int .i64 a.r.l, .int .i64 a.r.n, .int .i64 a.r.c, .int .i64 a.p, .int .i64 a.q, .int .u8 (a.d.ru : Nat), .int .u8 (a.d.ms : Nat), .int .u8 (a.d.at1 : Nat), .bool a.d.wide, .bool a.d.high, .int .u8 (a.ru : Nat)] 36)).alloc (.cells #[.int .i32 0, .int .i32 0, .int .i32 0, .int .u8 0, .int .u8 0, .int .u8 0, .int .u8 0, .int .u8 0, .int .u8 0, .int .u8 0, .int .u8 0, .int .u8 0, .int .u16 0, .int .u8 0] 62) := ⟨_, rfl⟩
  have HB0 := Lib.hid (show Below w.heap.size w w0 by rw [hw0]; exact ((Below.refl _ _).alloc (Nat.le_refl _) _).alloc (by simp) _)
  have H1 := Lib.hid (show Lie w0 b1 (cells13 a) by rw [hw0]; exact (Lie.new w _ _ b1 hb1).below ((Below.refl _ _).alloc (Nat.le_refl _) _))
  have HZ := Lib.hid (show BAt w0 b2 Cel.z by rw [hw0]; exact BAt.newAt _ b2 (by rw [hb2]; simp) Cel.z _)
  have HNE := Lib.hid (show b1 = w.heap.size ∧ b2 = w.heap.size + 1 ∧ w0.heap.size = w.heap.size + 2 by rw [hw0]; exact ⟨hb1, hb2, by simp⟩)
  have HC := Lib.hid (fun W => rcell_any W a.d ha.d)
  have HRU := Lib.hid (show a.ru < 256 from ha.u)
  obtain ⟨k, hk⟩ : ∃ k, k = a.ru % 8 := ⟨_, rfl⟩
  obtain ⟨j, hj⟩ : ∃ j, j = a.ru / 8 % 4 := ⟨_, rfl⟩
  obtain ⟨C, hC⟩ : ∃ C, C = cellM a := ⟨_, rfl⟩
  have HCM := Lib.hid (show C = if k = 7 then { celD a.d with ru := nth4 j } else celD a.d by rw [hC, hk, hj]; rfl)
  have HKJ := Lib.hid (show k < 8 ∧ j < 4 ∧ k = a.ru % 8 ∧ j = a.ru / 8 % 4 by omega)
  rw [← hC]
  clear ha hk hj hC
  have H13 := Lib.hid (show ∀ W, Below w0.heap.size w0 W → W.cell? ⟨b1, 12, none⟩ = some (.int .u8 (a.ru : Nat)) from fun W kb => (H1.out.below kb).at 12 rfl)
  have a7 := H1.out.at 7 rfl
  have a8 := H1.out.at 8 rfl
  have a9 := H1.out.at 9 rfl
  have a10 := H1.out.at 10 rfl
  have a11 := H1.out.at 11 rfl
  go_enter Tryd.func30, Tryd.ntmps30
  go_upto_region 1 with (fail)
  rw [← hw0, ← hb2, ← hb1]
  clear hw0 hb1 hb2
  go_wp2_with fail
  refine (HC.out _).mono ?_
  rintro e w1 ⟨rfl, bw1⟩
  obtain ⟨b3, hb3⟩ : ∃ b, b = w1.heap.size := ⟨_, rfl⟩
  obtain ⟨D, hD⟩ : ∃ D, D = celD a.d := ⟨_, rfl⟩
  rw [← hD] at HCM ⊢
  obtain ⟨w3, hw3⟩ : ∃ x, x = w1.alloc (.cells #[.int .i32 D.ru, .int .i32 D.m0, .int .i32 D.m1, .int .u8 D.k, .int .u8 D.a.fg.k, .int .u8 D.a.fg.r, .int .u8 D.a.fg.g, .int .u8 D.a.fg.b, .int .u8 D.a.bg.k, .int .u8 D.a.bg.r, .int .u8 D.a.bg.g, .int .u8 D.a.bg.b, .int .u16 (D.a.fl : Nat), .int .u8 D.l] 62) := ⟨_, rfl⟩
  have H3 := Lib.hid (show BAt w3 b3 D by rw [hw3]; exact BAt.newAt _ b3 hb3 D _)
  have HB3 := Lib.hid (show Below w0.heap.size w0 w3 by rw [hw3]; exact bw1.alloc bw1.size _)
  have HN3 := Lib.hid (show w0.heap.size ≤ b3 by rw [hb3]; exact bw1.size)
  have c12 := H13.out w3 HB3.out
  have HRV := Lib.hid HRU.out
  clear bw1 a7 a8 a9 a10 a11 hD HC
  go_upto_region 2 with (fail)
  rw [← hw3, ← hb3]
  clear hw3 hb3
  have u1 : ((a.ru : Nat) : Int).tmod 8 = (k : Int) := by have := HKJ.out; rw [this.2.2.1]; rfl
  have u2 : ((a.ru : Nat) : Int) % 8 = (k : Int) := by have := HKJ.out; rw [this.2.2.1]; rfl
  have u3 : IntKind.u8.wrap (k : Int) = (k : Int) := by have := HKJ.out; rw [IntKind.wrap_u8]; omega
  by_cases h7 : k = 7
  · subst h7
    obtain ⟨q, hq⟩ : ∃ q, q = a.ru / 8 := ⟨_, rfl⟩
    have HQJ := Lib.hid (show q < 32 ∧ j = q % 4 by have h := HKJ.out; have := HRU.out; rw [hq]; exact ⟨by omega, h.2.2.2⟩)
    have v1 : ((a.ru : Nat) : Int).tdiv 8 = (q : Int) := by rw [hq]; rfl
    have v2 : ((a.ru : Nat) : Int) / 8 = (q : Int) := by rw [hq]; rfl
    have v3 : IntKind.u8.wrap (q : Int) = (q : Int) := by have := HQJ.out; rw [IntKind.wrap_u8]; omega
    have v4 : ((q : Nat) : Int).tmod 4 = (j : Int) := by rw [HQJ.out.2]; rfl
    have v5 : ((q : Nat) : Int) % 4 = (j : Int) := by rw [HQJ.out.2]; rfl
    have v6 : IntKind.u8.wrap (j : Int) = (j : Int) := by have := HKJ.out; rw [IntKind.wrap_u8]; omega
    clear hq
    obtain ⟨b4, hb4⟩ : ∃ b, b = w3.heap.size := ⟨_, rfl⟩
    obtain ⟨w4, hw4⟩ : ∃ x, x = w3.alloc (.cells #[.int .i32 0, .int .i32 7, .int .i32 20013, .int .i32 769] 21) := ⟨_, rfl⟩
    have H4 := Lib.hid (show Lie w4 b4 [.int .i32 0, .int .i32 7, .int .i32 20013, .int .i32 769] by rw [hw4]; exact Lie.new w3 _ _ b4 hb4)
    have HB4 := Lib.hid (show Below w3.heap.size w3 w4 by rw [hw4]; exact (Below.refl _ _).alloc (Nat.le_refl _) _)
    have H34 := Lib.hid (H3.out.past2 HB4.out)
    have d12 := (H13.out w4 (HB3.out.trans (HB4.out.mono HB3.out.size)))
    obtain ⟨_, ⟨y0, _⟩, yf⟩ := H34.out
    have yf0 := yf 0
    have h4 : j < 4 := HKJ.out.2.1
    have x4 : w4.cell? ⟨b4, j, none⟩ = some (.int .i32 (nth4 j)) := H4.out.at j (by
      match j, h4 with
      | 0, _ => rfl
      | 1, _ => rfl
      | 2, _ => rfl
      | 3, _ => rfl)
    obtain ⟨w5, hw5⟩ : ∃ x, x = w4.setCell ⟨b3, 0, none⟩ (.int .i32 (nth4 j)) := ⟨_, rfl⟩
    have H5 := Lib.hid (show BAt w5 b3 { D with ru := nth4 j } by rw [hw5]; exact H34.out.setRu _)
    have HBT := Lib.hid (show But b3 w4 w5 by rw [hw5]; exact But.set w4 b3 0 _)
    have HBW := Lib.hid (show Below w.heap.size w w5 from ((HB0.out.trans (HB3.out.mono HB0.out.size)).trans (HB4.out.mono (Nat.le_trans HB0.out.size HB3.out.size))).trans (HBT.out.below (C := w.heap.size) (by have := HN3.out; have := HB0.out.size; omega) (Nat.le_trans (Nat.le_trans HB0.out.size HB3.out.size) HB4.out.size)))
    have HZ5 := Lib.hid (show BAt w5 b2 Cel.z from ((HZ.out.below HB3.out).past2 HB4.out).but HBT.out (by have := HNE.out; have := HN3.out; omega))
    obtain ⟨E, hE⟩ : ∃ E : Cel, E = { D with ru := nth4 j } := ⟨_, rfl⟩
    rw [← hE] at H5
    have HCE := Lib.hid (show C = E by rw [HCM.out, hE]; exact if_pos rfl)
    clear hE
    rw [hw4] at d12 y0 yf0
    rw [hw4, hb4] at x4
    clear yf
    go_upto_region 4 with (fail)
    rw [← hw4, ← hw5]
    clear hw4 hw5 hb4 x4 c12 d12 y0 yf0 v1 v2 v3 v4 v5 v6 u1 u2 u3
    obtain ⟨wq, hwq⟩ : ∃ wq, wq = put14 w5 b2 0 E := ⟨_, rfl⟩
    have HZW := Lib.hid (show BAt w5 b2 Cel.z from HZ5.out)
    have Z := Lib.hid (show BAt wq b2 E by rw [hwq]; exact HZW.out.put _)
    have HE := Lib.hid (show Below w.heap.size w wq by rw [hwq]; exact HBW.out.trans ((put14_but w5 b2 0 E).below (C := w.heap.size) (by have := HNE.out; omega) HBW.out.size))
    simp only [put14, Nat.zero_add] at hwq
    obtain ⟨_, ⟨z0, z1, z2, z3, z4, z5, z6, z7, z8, z9, z10, z11, z12, z13⟩, zf⟩ := HZW.out
    obtain ⟨_, ⟨y0, y1, y2, y3, y4, y5, y6, y7, y8, y9, y10, y11, y12, y13⟩, _⟩ := H5.out
    try dsimp only at y0 y1 y2 y3 y4 y5 y6 y7 y8 y9 y10 y11 y12 y13
    dsimp only at z0 z1 z2 z3 z4 z5 z6 z7 z8 z9 z10 z11 z12 z13
    go_wp2
    rw [← hwq]
    clear hwq z0 z1 z2 z3 z4 z5 z6 z7 z8 z9 z10 z11 z12 z13 zf y0 y1 y2 y3 y4 y5 y6 y7 y8 y9 y10 y11 y12 y13
    obtain ⟨_, ⟨k0, k1, k2, k3, k4, k5, k6, k7, k8, k9, k10, k11, k12, k13⟩, _⟩ := Z.out
    have HCX := Lib.hid (show C = E from HCE.out)
    rw [HCX.out]
    exact bodyPost_ret (v := celV E) (by simp [results, Tryd.results30, go_sem, k0, k1, k2, k3, k4, k5, k6, k7, k8, k9, k10, k11, k12, k13]) rfl ⟨rfl, HE.out⟩
  · have hk7 : ((k : Int) == 7) = false := by simp; omega
    obtain ⟨wq, hwq⟩ : ∃ wq, wq = put14 w3 b2 0 D := ⟨_, rfl⟩
    have HZW := Lib.hid (show BAt w3 b2 Cel.z from (HZ.out.below HB3.out))
    have Z := Lib.hid (show BAt wq b2 D by rw [hwq]; exact HZW.out.put _)
    have HE := Lib.hid (show Below w.heap.size w wq by rw [hwq]; exact (HB0.out.trans (HB3.out.mono HB0.out.size)).trans ((put14_but w3 b2 0 D).below (C := w.heap.size) (by have := HNE.out; omega) (HB0.out.trans (HB3.out.mono HB0.out.size)).size))
    simp only [put14, Nat.zero_add] at hwq
    obtain ⟨_, ⟨z0, z1, z2, z3, z4, z5, z6, z7, z8, z9, z10, z11, z12, z13⟩, zf⟩ := HZW.out
    obtain ⟨_, ⟨y0, y1, y2, y3, y4, y5, y6, y7, y8, y9, y10, y11, y12, y13⟩, _⟩ := H3.out
    try dsimp only at y0 y1 y2 y3 y4 y5 y6 y7 y8 y9 y10 y11 y12 y13
    dsimp only at z0 z1 z2 z3 z4 z5 z6 z7 z8 z9 z10 z11 z12 z13
    go_wp2
    rw [← hwq]
    clear hwq z0 z1 z2 z3 z4 z5 z6 z7 z8 z9 z10 z11 z12 z13 zf y0 y1 y2 y3 y4 y5 y6 y7 y8 y9 y10 y11 y12 y13
    obtain ⟨_, ⟨k0, k1, k2, k3, k4, k5, k6, k7, k8, k9, k10, k11, k12, k13⟩, _⟩ := Z.out
    have HCX := Lib.hid (show C = D from HCM.out.trans (if_neg h7))
    rw [HCX.out]
    exact bodyPost_ret (v := celV D) (by simp [results, Tryd.results30, go_sem, k0, k1, k2, k3, k4, k5, k6, k7, k8, k9, k10, k11, k12, k13]) rfl ⟨rfl, HE.out⟩
end Go.Proofs.YtlaafmjiiiaceaaDoor.Lab
