/- The project's At. -/
import Derived.Test.YtdeahnphcfcfpaaGdAcc
import Derived.Test.YtdeahnphcfcfpaaRoDra
namespace Go.Proofs.Ytdeahnphcfcfpaa.Lab
open Go Go.RowKit

set_option maxHeartbeats 4000000 in
set_option maxRecDepth 100000 in
theorem at_yes (w : World) (lo p rb c i j : Nat) (H : List Hd) (h : GAt w lo p rb c H) (hi : i < H.length) (hj : j < (hdAt H 0).R.length) (hij : (hdAt H i).R.length = (hdAt H 0).R.length) :
    Calls Try.prog 14 #[gV p, .agg #[.int .i64 (i : Nat), .int .i64 (j : Nat)]] w fun e w' => e = .returned (.tuple #[celV (gc (hdAt H i).R j), .bool true]) ∧ Below w.heap.size w w' := by
  have h0 : 0 < H.length := by omega
  obtain ⟨w0, hw0⟩ : ∃ x, x = (w.alloc (.cells #[.int .i64 (i : Nat), .int .i64 (j : Nat)] 48)).alloc (.cells #[.int .i32 0, .int .i32 0, .int .i32 0, .int .u8 0, .int .u8 0, .int .u8 0, .int .u8 0, .int .u8 0, .int .u8 0, .int .u8 0, .int .u8 0, .int .u8 0, .int .u16 0, .int .u8 0] 42) := ⟨_, rfl⟩
  obtain ⟨b3, hb3⟩ : ∃ x, x = w.heap.size := ⟨_, rfl⟩
  obtain ⟨b4, hb4⟩ : ∃ x, x = w.heap.size + 1 := ⟨_, rfl⟩
  have B0 : Below w.heap.size w w0 := by rw [hw0]; exact ((Below.refl _ _).alloc (Nat.le_refl _) _).alloc (by simp) _
  have q0 : w0.cell? ⟨b3, 0, none⟩ = some (.int .i64 (i : Nat)) := by rw [hw0, hb3]; simp
  have q1 : w0.cell? ⟨b3, 1, none⟩ = some (.int .i64 (j : Nat)) := by rw [hw0, hb3]; simp
  have HZ0 := Lib.hid (show BAt w0 b4 Cel.z by rw [hw0, hb4]; exact BAt.newAt _ _ (by simp) Cel.z _)
  have HG0 := Lib.hid (h.below B0)
  have HB0 := Lib.hid B0
  have HSZ := Lib.hid (show w0.heap.size = w.heap.size + 2 by rw [hw0]; simp)
  have HLT := Lib.hid h.lt
  have HBB := Lib.hid (show b3 = w.heap.size ∧ b4 = w.heap.size + 1 from ⟨hb3, hb4⟩)
  have Q0 := Lib.hid q0
  have Q1 := Lib.hid q1
  obtain ⟨n, hn⟩ : ∃ n, n = H.length := ⟨_, rfl⟩
  obtain ⟨m, hm⟩ : ∃ m, m = (hdAt H 0).R.length := ⟨_, rfl⟩
  obtain ⟨x, hx⟩ : ∃ x, x = hdAt H i := ⟨_, rfl⟩
  have HRW := Lib.hid (show CRow w0 lo (hdV x) x.R by rw [hx]; exact HG0.out.row hi)
  have HXW := Lib.hid (show x.b < w.heap.size by rw [hx]; exact ((h.row hi).lt _ rfl).2)
  have HRC := Lib.hid (show w0.cell? ⟨rb, i, none⟩ = some (hdV x) by rw [hx]; exact HG0.out.head hi)
  have HPC := Lib.hid (show w0.cell? ⟨p, 0, none⟩ = some (rV rb n c) by rw [hn]; exact HG0.out.cell)
  have C1 := Lib.hid (show Calls Try.prog 22 #[gV p] w0 fun e w' => e = .returned (.tuple #[.int .i64 (n : Nat), .int .i64 (m : Nat)]) ∧ Below w0.heap.size w0 w' by rw [hn, hm]; exact size_any w0 lo p rb c H HG0.out h0)
  have HI := Lib.hid (show isInB (i : Nat) n = true by rw [isInB_nat, hn]; exact decide_eq_true hi)
  have HJ := Lib.hid (show isInB (j : Nat) m = true by rw [isInB_nat, hm]; exact decide_eq_true hj)
  have hin : i < n := by rw [hn]; exact hi
  have hjx : j < x.R.length := by rw [hx, hij]; exact hj
  have HJX := Lib.hid hjx
  obtain ⟨y, hy⟩ : ∃ y, y = gc x.R j := ⟨_, rfl⟩
  rw [← hx, ← hy]
  have HYE := Lib.hid hy
  clear hi hj hij h0 h B0 q0 q1 hn hm hx hy
  go_enter Try.func14, Try.ntmps14
  go_upto_region 1 with (fail)
  rw [← hw0, ← hb4, ← hb3]
  clear hw0 hb3 hb4
  go_wp2_with fail
  refine C1.out.mono ?_
  rintro e w1 ⟨rfl, b1⟩
  have q0 : w1.cell? ⟨b3, 0, none⟩ = some (.int .i64 (i : Nat)) := (b1.cell (p := ⟨b3, 0, none⟩) (by have := HSZ.out; have := HBB.out; simp; omega)).trans Q0.out
  have q1 : w1.cell? ⟨b3, 1, none⟩ = some (.int .i64 (j : Nat)) := (b1.cell (p := ⟨b3, 1, none⟩) (by have := HSZ.out; have := HBB.out; simp; omega)).trans Q1.out
  have HZ := Lib.hid (HZ0.out.below b1)
  have HB1 := Lib.hid (HB0.out.trans (b1.mono HB0.out.size))
  have HR1 := Lib.hid (HRW.out.below b1)
  have hrc1 : w1.cell? ⟨rb, i, none⟩ = some (hdV x) := (b1.cell (p := ⟨rb, i, none⟩) (by have := HSZ.out; have := HLT.out; simp; omega)).trans HRC.out
  have hpc1 : w1.cell? ⟨p, 0, none⟩ = some (rV rb n c) := (b1.cell (p := ⟨p, 0, none⟩) (by have := HSZ.out; have := HLT.out; simp; omega)).trans HPC.out
  clear b1 C1
  go_wp2_with fail
  refine (isIn_any w1 (i : Nat) n).mono ?_
  rintro e w' ⟨rfl, rfl⟩
  rw [HI.out]
  go_wp2_with fail
  refine (isIn_any w1 (j : Nat) m).mono ?_
  rintro e w' ⟨rfl, rfl⟩
  rw [HJ.out]
  have hat := HR1.out.at HJX.out
  rw [← HYE.out] at hat
  obtain ⟨y0, y1, y2, y3, y4, y5, y6, y7, y8, y9, y10, y11, y12, y13⟩ := hat
  go_upto_region 4 with (fail)
  obtain ⟨wq, hwq⟩ : ∃ wq, wq = put14 w1 b4 0 y := ⟨_, rfl⟩
  have Z := Lib.hid (show BAt wq b4 y by rw [hwq]; exact HZ.out.put y)
  have HST := Lib.hid (show (fun wx => wx.cell? ⟨b3, 0, none⟩ = some (.int .i64 (i : Nat)) ∧ wx.cell? ⟨b3, 1, none⟩ = some (.int .i64 (j : Nat)) ∧ wx.cell? ⟨p, 0, none⟩ = some (rV rb n c) ∧ wx.cell? ⟨rb, i, none⟩ = some (hdV x) ∧ wx.cell? ⟨x.b, j * 14, none⟩ = some (.int .i32 y.ru) ∧ wx.cell? ⟨x.b, j * 14 + 1, none⟩ = some (.int .i32 y.m0) ∧ wx.cell? ⟨x.b, j * 14 + 2, none⟩ = some (.int .i32 y.m1) ∧ wx.cell? ⟨x.b, j * 14 + 3, none⟩ = some (.int .u8 y.k) ∧ wx.cell? ⟨x.b, j * 14 + 4, none⟩ = some (.int .u8 y.a.fg.k) ∧ wx.cell? ⟨x.b, j * 14 + 5, none⟩ = some (.int .u8 y.a.fg.r) ∧ wx.cell? ⟨x.b, j * 14 + 6, none⟩ = some (.int .u8 y.a.fg.g) ∧ wx.cell? ⟨x.b, j * 14 + 7, none⟩ = some (.int .u8 y.a.fg.b) ∧ wx.cell? ⟨x.b, j * 14 + 8, none⟩ = some (.int .u8 y.a.bg.k) ∧ wx.cell? ⟨x.b, j * 14 + 9, none⟩ = some (.int .u8 y.a.bg.r) ∧ wx.cell? ⟨x.b, j * 14 + 10, none⟩ = some (.int .u8 y.a.bg.g) ∧ wx.cell? ⟨x.b, j * 14 + 11, none⟩ = some (.int .u8 y.a.bg.b) ∧ wx.cell? ⟨x.b, j * 14 + 12, none⟩ = some (.int .u16 (y.a.fl : Nat)) ∧ wx.cell? ⟨x.b, j * 14 + 13, none⟩ = some (.int .u8 y.l)) w1.drew from ⟨q0, q1, hpc1, hrc1, y0, y1, y2, y3, y4, y5, y6, y7, y8, y9, y10, y11, y12, y13⟩)
  have hbt := put14_but w1 b4 0 y
  have kk : ∀ (b o : Nat) (v : Value), b ≠ b4 → w1.cell? ⟨b, o, none⟩ = some v → wq.cell? ⟨b, o, none⟩ = some v := fun b o v hb hc => by
    rw [hwq]
    exact World.grownBy.cell hbt hc (fun e => hb (by injection e))
  have HKEEP := Lib.hid (show (fun wx => wx.cell? ⟨b3, 0, none⟩ = some (.int .i64 (i : Nat)) ∧ wx.cell? ⟨b3, 1, none⟩ = some (.int .i64 (j : Nat)) ∧ wx.cell? ⟨p, 0, none⟩ = some (rV rb n c) ∧ wx.cell? ⟨rb, i, none⟩ = some (hdV x) ∧ wx.cell? ⟨x.b, j * 14, none⟩ = some (.int .i32 y.ru) ∧ wx.cell? ⟨x.b, j * 14 + 1, none⟩ = some (.int .i32 y.m0) ∧ wx.cell? ⟨x.b, j * 14 + 2, none⟩ = some (.int .i32 y.m1) ∧ wx.cell? ⟨x.b, j * 14 + 3, none⟩ = some (.int .u8 y.k) ∧ wx.cell? ⟨x.b, j * 14 + 4, none⟩ = some (.int .u8 y.a.fg.k) ∧ wx.cell? ⟨x.b, j * 14 + 5, none⟩ = some (.int .u8 y.a.fg.r) ∧ wx.cell? ⟨x.b, j * 14 + 6, none⟩ = some (.int .u8 y.a.fg.g) ∧ wx.cell? ⟨x.b, j * 14 + 7, none⟩ = some (.int .u8 y.a.fg.b) ∧ wx.cell? ⟨x.b, j * 14 + 8, none⟩ = some (.int .u8 y.a.bg.k) ∧ wx.cell? ⟨x.b, j * 14 + 9, none⟩ = some (.int .u8 y.a.bg.r) ∧ wx.cell? ⟨x.b, j * 14 + 10, none⟩ = some (.int .u8 y.a.bg.g) ∧ wx.cell? ⟨x.b, j * 14 + 11, none⟩ = some (.int .u8 y.a.bg.b) ∧ wx.cell? ⟨x.b, j * 14 + 12, none⟩ = some (.int .u16 (y.a.fl : Nat)) ∧ wx.cell? ⟨x.b, j * 14 + 13, none⟩ = some (.int .u8 y.l)) wq from by
    have n1 : b3 ≠ b4 := by have := HBB.out; omega
    have n2 : p ≠ b4 := by have := HBB.out; have := HLT.out; omega
    have n3 : rb ≠ b4 := by have := HBB.out; have := HLT.out; omega
    have n4 : x.b ≠ b4 := by
      have := HXW.out
      have := HBB.out
      omega
    exact ⟨kk _ _ _ n1 q0, kk _ _ _ n1 q1, kk _ _ _ n2 hpc1, kk _ _ _ n3 hrc1, kk _ _ _ n4 y0, kk _ _ _ n4 y1, kk _ _ _ n4 y2, kk _ _ _ n4 y3, kk _ _ _ n4 y4, kk _ _ _ n4 y5, kk _ _ _ n4 y6, kk _ _ _ n4 y7, kk _ _ _ n4 y8, kk _ _ _ n4 y9, kk _ _ _ n4 y10, kk _ _ _ n4 y11, kk _ _ _ n4 y12, kk _ _ _ n4 y13⟩)
  have HBQ := Lib.hid (show Below w.heap.size w wq by rw [hwq]; exact (HB1.out).trans (hbt.below (C := w.heap.size) (by have := HBB.out; omega) HB1.out.size))
  clear kk hbt y0 y1 y2 y3 y4 y5 y6 y7 y8 y9 y10 y11 y12 y13 q0 q1 hpc1 hrc1
  simp only [put14, Nat.zero_add] at hwq
  refine wp_region_held_drew (S := fun wx => wx.cell? ⟨b3, 0, none⟩ = some (.int .i64 (i : Nat)) ∧ wx.cell? ⟨b3, 1, none⟩ = some (.int .i64 (j : Nat)) ∧ wx.cell? ⟨p, 0, none⟩ = some (rV rb n c) ∧ wx.cell? ⟨rb, i, none⟩ = some (hdV x) ∧ wx.cell? ⟨x.b, j * 14, none⟩ = some (.int .i32 y.ru) ∧ wx.cell? ⟨x.b, j * 14 + 1, none⟩ = some (.int .i32 y.m0) ∧ wx.cell? ⟨x.b, j * 14 + 2, none⟩ = some (.int .i32 y.m1) ∧ wx.cell? ⟨x.b, j * 14 + 3, none⟩ = some (.int .u8 y.k) ∧ wx.cell? ⟨x.b, j * 14 + 4, none⟩ = some (.int .u8 y.a.fg.k) ∧ wx.cell? ⟨x.b, j * 14 + 5, none⟩ = some (.int .u8 y.a.fg.r) ∧ wx.cell? ⟨x.b, j * 14 + 6, none⟩ = some (.int .u8 y.a.fg.g) ∧ wx.cell? ⟨x.b, j * 14 + 7, none⟩ = some (.int .u8 y.a.fg.b) ∧ wx.cell? ⟨x.b, j * 14 + 8, none⟩ = some (.int .u8 y.a.bg.k) ∧ wx.cell? ⟨x.b, j * 14 + 9, none⟩ = some (.int .u8 y.a.bg.r) ∧ wx.cell? ⟨x.b, j * 14 + 10, none⟩ = some (.int .u8 y.a.bg.g) ∧ wx.cell? ⟨x.b, j * 14 + 11, none⟩ = some (.int .u8 y.a.bg.b) ∧ wx.cell? ⟨x.b, j * 14 + 12, none⟩ = some (.int .u16 (y.a.fl : Nat)) ∧ wx.cell? ⟨x.b, j * 14 + 13, none⟩ = some (.int .u8 y.l)) (by kernel_rfl) ?_ (fun hHeld => ?_)
  · exact HST.out
  refine tk 0 rfl (fun w hSw => by (try dsimp only at hSw); go_simp; try with_reducible rfl) ?_
  go_frame
  refine tk 1 rfl (fun w hSw => by (try dsimp only at hSw); go_simp; try with_reducible rfl) ?_
  go_frame
  refine tk 2 rfl (fun w hSw => by (try dsimp only at hSw); go_simp; try with_reducible rfl) ?_
  go_frame
  refine tk 3 rfl (fun w hSw => by (try dsimp only at hSw); go_simp; try with_reducible rfl) ?_
  go_frame
  refine tk 4 rfl (fun w hSw => by (try dsimp only at hSw); go_simp; try with_reducible rfl) ?_
  go_frame
  refine tk 5 rfl (fun w hSw => by (try dsimp only at hSw); go_simp; try with_reducible rfl) ?_
  go_frame
  refine tk 6 rfl (fun w hSw => by (try dsimp only at hSw); go_simp; try with_reducible rfl) ?_
  go_frame
  refine tk 7 rfl (fun w hSw => by (try dsimp only at hSw); go_simp; try with_reducible rfl) ?_
  go_frame
  refine tk 8 rfl (fun w hSw => by (try dsimp only at hSw); go_simp; try with_reducible rfl) ?_
  go_frame
  refine tk 9 rfl (fun w hSw => by (try dsimp only at hSw); go_simp; try with_reducible rfl) ?_
  go_frame
  refine tk 10 rfl (fun w hSw => by (try dsimp only at hSw); go_simp; try with_reducible rfl) ?_
  go_frame
  refine tk 11 rfl (fun w hSw => by (try dsimp only at hSw); go_simp; try with_reducible rfl) ?_
  go_frame
  refine do_at (i := 12) rfl (by kernel_rfl) (by kernel_rfl) (fun K hK => ?_)
  obtain ⟨_, ⟨z0, z1, z2, z3, z4, z5, z6, z7, z8, z9, z10, z11, z12, z13⟩, zf⟩ := HZ.out
  dsimp only at z0 z1 z2 z3 z4 z5 z6 z7 z8 z9 z10 z11 z12 z13
  go_simp
  go_wp2_with fail
  rw [← hwq]
  clear hwq z0 z1 z2 z3 z4 z5 z6 z7 z8 z9 z10 z11 z12 z13 zf
  refine hK.out _ _ ?_ (fun hHeld => ?_)
  · exact HKEEP.out
  clear hK K
  try go_frame
  refine tk 13 rfl (fun w hSw => by (try dsimp only at hSw); go_simp; try with_reducible rfl) ?_
  go_frame
  refine wpAnyH_done (by kernel_rfl) ?_ _
  go_wp2
  obtain ⟨_, ⟨k0, k1, k2, k3, k4, k5, k6, k7, k8, k9, k10, k11, k12, k13⟩, _⟩ := Z.out
  exact bodyPost_ret (v := .tuple #[celV y, .bool true]) (by simp [results, Try.results14, go_sem, k0, k1, k2, k3, k4, k5, k6, k7, k8, k9, k10, k11, k12, k13]) rfl ⟨rfl, HBQ.out.drew⟩
end Go.Proofs.Ytdeahnphcfcfpaa.Lab
