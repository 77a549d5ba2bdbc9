/- The project's change: a row of a grid, made another one by a function that is handed in. The project's At where there is no cell, and changeAt. -/
import Derived.Test.YtdeahnphcfcfpaaGdAcc
import Derived.Test.YtdeahnphcfcfpaaGdAt
namespace Go.Proofs.Ytdeahnphcfcfpaa.Lab
open Go Go.RowKit

/-- A function value makes of a row, wherever it lies, another one of the call's own. -/
def Makes (W : World) (f : Nat) (pre post : Array Value) (R R' : Cls) : Prop := ∀ wx v, Below W.heap.size W wx → RowIn wx v R → Calls Try.prog f (pre ++ #[v] ++ post) wx (OwnRes wx R')
theorem Makes.later {W W' : World} {f : Nat} {pre post : Array Value} {R R' : Cls} (h : Makes W f pre post R R') (b : Below W.heap.size W W') : Makes W' f pre post R R' := fun wx v hb hr => h wx v (b.trans (hb.mono b.size)) hr
abbrev fV (f : Nat) (pre post : Array Value) : Value := .func (.func f) pre post
set_option maxHeartbeats 2000000 in
theorem change_yes (w : World) (lo p rb c k f : Nat) (H : List Hd) (pre post : Array Value) (R' : Cls) (h : GAt w lo p rb c H) (hlo : lo ≤ w.heap.size) (hk : k < H.length) (hf : Makes w f pre post (hdAt H k).R R') (eg : ∀ args w, (callFunc f args).run Try.prog w = .ok (.enter f args) w) (hR : 0 < R'.length) :
    Calls Try.prog 68 #[gV p, .int .i64 (k : Nat), fV f pre post] w fun e w' => e = .returned (.tuple #[]) ∧ (∃ x : Hd, x.R = R' ∧ w.heap.size ≤ x.b ∧ GAt w' lo p rb c (H.set k x)) ∧ Buts (· = rb) w w' := by
  have hc := h.head hk
  have hkk := h.cell
  have HR := Lib.hid (h.row hk).row
  have HM := Lib.hid hf
  have HP := Lib.hid hR
  have HG := Lib.hid h
  have HLO := Lib.hid hlo
  obtain ⟨n, hn⟩ : ∃ n, n = H.length := ⟨_, rfl⟩
  obtain ⟨x, hx⟩ : ∃ x, x = hdAt H k := ⟨_, rfl⟩
  rw [← hx] at hc HR HM
  rw [← hn] at hk hkk
  have HB := Lib.hid (show isInB (k : Nat) n = true by rw [isInB_nat]; exact decide_eq_true hk)
  have hk' : (k : Int) < (n : Int) := by omega
  have hfz := h.2.2.frozen rfl k
  have LRB := Lib.hid h.lt.2.1
  clear h hn hx hR hf hlo
  go_enter Try.func68, Try.ntmps68
  go_wp2_with fail
  refine (kept_any w p _ hkk).mono ?_
  rintro e w' ⟨rfl, rfl⟩
  go_wp2_with fail
  refine (isIn_any w (k : Nat) n).mono ?_
  rintro e w' ⟨rfl, rfl⟩
  rw [HB.out]
  go_wp2_with fail
  refine (HM.out w _ (Below.refl _ _) HR.out).mono ?_
  rintro e w1 ⟨v, rfl, own1, b1⟩
  obtain ⟨y, rfl, hyR, hyb, own2⟩ := own1.hd HP.out
  have HY := Lib.hid hyR
  have HYB := Lib.hid hyb
  have HO := Lib.hid own2
  have HBB := Lib.hid b1
  have hc1 : w1.cell? ⟨rb, k, none⟩ = some (hdV x) := (b1.cell (p := ⟨rb, k, none⟩) LRB.out).trans hc
  have hf1 : w1.frozen? ⟨rb, k, none⟩ = false := (b1.frozen (p := ⟨rb, k, none⟩) LRB.out).trans hfz
  clear hyR hyb own1 own2 b1 hc hkk hfz
  go_wp2
  go_end0
  exact ⟨rfl, ⟨y, HY.out, HYB.out, (HG.out.below HBB.out).put k (HO.out.lower HLO.out)⟩, (Buts.of HBB.out).trans (Buts.but (But.set w1 rb k _) rfl)⟩
theorem change_no (w : World) (p n c : Nat) (a : Option Addr) (k : Int) (fv : Value) (h : w.cell? ⟨p, 0, none⟩ = some (.slice a n c)) (hk : isInB k n = false) : Calls Try.prog 68 #[gV p, .int .i64 k, fv] w fun e w' => e = .returned (.tuple #[]) ∧ w = w' := by
  have HB := Lib.hid hk
  clear hk
  go_enter Try.func68, Try.ntmps68
  go_wp2_with fail
  refine (kept_any w p _ h).mono ?_
  rintro e w' ⟨rfl, rfl⟩
  go_wp2_with fail
  refine (isIn_any w k n).mono ?_
  rintro e w' ⟨rfl, rfl⟩
  rw [HB.out]
  go_wp2
  go_end0
  exact ⟨rfl, rfl⟩
theorem change_not (w : World) (pv : Value) (n c : Nat) (a : Option Addr) (k : Int) (fv : Value) (h : Calls Try.prog 47 #[pv] w fun e w' => e = .returned (.slice a n c) ∧ w = w') (hk : isInB k n = false) : Calls Try.prog 68 #[pv, .int .i64 k, fv] w fun e w' => e = .returned (.tuple #[]) ∧ w = w' := by
  have HB := Lib.hid hk
  have HK := Lib.hid h
  clear hk h
  go_enter Try.func68, Try.ntmps68
  go_wp2_with fail
  refine HK.out.mono ?_
  rintro e w' ⟨rfl, rfl⟩
  go_wp2_with fail
  refine (isIn_any w k n).mono ?_
  rintro e w' ⟨rfl, rfl⟩
  rw [HB.out]
  go_wp2
  go_end0
  exact ⟨rfl, rfl⟩

def SizeIs (w : World) (pv : Value) (n m : Nat) : Prop := ∀ w', Below w.heap.size w w' → Calls Try.prog 22 #[pv] w' fun e w'' => e = .returned (.tuple #[.int .i64 (n : Nat), .int .i64 (m : Nat)]) ∧ Below w'.heap.size w' w''
theorem SizeIs.of {w : World} {lo p rb c : Nat} {H : List Hd} (h : GAt w lo p rb c H) (h0 : 0 < H.length) : SizeIs w (gV p) H.length (hdAt H 0).R.length := fun w' b => size_any w' lo p rb c H (h.below b) h0
theorem SizeIs.none (w : World) : SizeIs w (.pointer none) 0 0 := fun w' _ => (size_none w').mono fun _ _ ⟨h1, h2⟩ => ⟨h1, h2 ▸ Below.refl _ _⟩
set_option maxHeartbeats 4000000 in
set_option maxRecDepth 100000 in
theorem at_no (w : World) (pv : Value) (n m : Nat) (r c : Int) (hs : SizeIs w pv n m) (hno : (isInB r n && isInB c m) = false) :
    Calls Try.prog 14 #[pv, .agg #[.int .i64 r, .int .i64 c]] w fun e w' => e = .returned (.tuple #[celV Cel.z, .bool false]) ∧ Below w.heap.size w w' := by
  obtain ⟨w0, hw0⟩ : ∃ x, x = (w.alloc (.cells #[.int .i64 r, .int .i64 c] 48)).alloc (.cells #[.int .i32 0, .int .i32 0, .int .i32 0, .int .u8 0, .int .u8 0, .int .u8 0, .int .u8 0, .int .u8 0, .int .u8 0, .int .u8 0, .int .u8 0, .int .u8 0, .int .u16 0, .int .u8 0] 42) := ⟨_, rfl⟩
  obtain ⟨b3, hb3⟩ : ∃ x, x = w.heap.size := ⟨_, rfl⟩
  obtain ⟨b4, hb4⟩ : ∃ x, x = w.heap.size + 1 := ⟨_, rfl⟩
  have B0 : Below w.heap.size w w0 := by rw [hw0]; exact ((Below.refl _ _).alloc (Nat.le_refl _) _).alloc (by simp) _
  have q0 : w0.cell? ⟨b3, 0, none⟩ = some (.int .i64 r) := by rw [hw0, hb3]; simp
  have q1 : w0.cell? ⟨b3, 1, none⟩ = some (.int .i64 c) := by rw [hw0, hb3]; simp
  have HZ0 := Lib.hid (show BAt w0 b4 Cel.z by rw [hw0, hb4]; exact BAt.newAt _ _ (by simp) Cel.z _)
  have HB0 := Lib.hid B0
  have HSZ := Lib.hid (show w0.heap.size = w.heap.size + 2 by rw [hw0]; simp)
  have HBB := Lib.hid (show b3 = w.heap.size ∧ b4 = w.heap.size + 1 from ⟨hb3, hb4⟩)
  have Q0 := Lib.hid q0
  have Q1 := Lib.hid q1
  have C1 := Lib.hid (hs w0 B0)
  have HNO := Lib.hid hno
  clear B0 q0 q1 hs hno
  go_enter Try.func14, Try.ntmps14
  go_upto_region 1 with (fail)
  rw [← hw0, ← hb4, ← hb3]
  clear hw0 hb3 hb4
  go_wp2_with fail
  refine C1.out.mono ?_
  rintro e w1 ⟨rfl, b1⟩
  have q0 : w1.cell? ⟨b3, 0, none⟩ = some (.int .i64 r) := (b1.cell (p := ⟨b3, 0, none⟩) (by have := HSZ.out; have := HBB.out; simp; omega)).trans Q0.out
  have q1 : w1.cell? ⟨b3, 1, none⟩ = some (.int .i64 c) := (b1.cell (p := ⟨b3, 1, none⟩) (by have := HSZ.out; have := HBB.out; simp; omega)).trans Q1.out
  have HZ := Lib.hid (HZ0.out.below b1)
  have HB1 := Lib.hid (HB0.out.trans (b1.mono HB0.out.size))
  clear b1 C1
  obtain ⟨wq, hwq⟩ : ∃ wq, wq = put14 w1 b4 0 Cel.z := ⟨_, rfl⟩
  have Z := Lib.hid (show BAt wq b4 Cel.z by rw [hwq]; exact HZ.out.put Cel.z)
  have hbt := put14_but w1 b4 0 Cel.z
  have HBQ := Lib.hid (show Below w.heap.size w wq by rw [hwq]; exact (HB1.out).trans (hbt.below (C := w.heap.size) (by have := HBB.out; omega) HB1.out.size))
  clear hbt
  replace hwq : wq = (((((((((((((w1.setCell ⟨b4, 0, none⟩ (.int .i32 0)).setCell ⟨b4, 1, none⟩ (.int .i32 0)).setCell ⟨b4, 2, none⟩ (.int .i32 0)).setCell ⟨b4, 3, none⟩ (.int .u8 0)).setCell ⟨b4, 4, none⟩ (.int .u8 0)).setCell ⟨b4, 5, none⟩ (.int .u8 0)).setCell ⟨b4, 6, none⟩ (.int .u8 0)).setCell ⟨b4, 7, none⟩ (.int .u8 0)).setCell ⟨b4, 8, none⟩ (.int .u8 0)).setCell ⟨b4, 9, none⟩ (.int .u8 0)).setCell ⟨b4, 10, none⟩ (.int .u8 0)).setCell ⟨b4, 11, none⟩ (.int .u8 0)).setCell ⟨b4, 12, none⟩ (.int .u16 0)).setCell ⟨b4, 13, none⟩ (.int .u8 0) := hwq
  obtain ⟨_, ⟨z0, z1, z2, z3, z4, z5, z6, z7, z8, z9, z10, z11, z12, z13⟩, zf⟩ := HZ.out
  dsimp only [Cel.z] at z0 z1 z2 z3 z4 z5 z6 z7 z8 z9 z10 z11 z12 z13
  by_cases hi : isInB r n = true
  · have HI := Lib.hid hi
    have HJ := Lib.hid (show isInB c m = false by have := HNO.out; rw [hi] at this; simpa using this)
    clear hi
    go_wp2_with fail
    refine (isIn_any w1 r n).mono ?_
    rintro e w' ⟨rfl, rfl⟩
    rw [HI.out]
    go_wp2_with fail
    refine (isIn_any w1 c m).mono ?_
    rintro e w' ⟨rfl, rfl⟩
    rw [HJ.out]
    go_wp2
    rw [← hwq]
    clear hwq z0 z1 z2 z3 z4 z5 z6 z7 z8 z9 z10 z11 z12 z13 zf
    obtain ⟨_, ⟨k0, k1, k2, k3, k4, k5, k6, k7, k8, k9, k10, k11, k12, k13⟩, _⟩ := Z.out
    dsimp only [Cel.z] at k0 k1 k2 k3 k4 k5 k6 k7 k8 k9 k10 k11 k12 k13
    exact bodyPost_ret (v := .tuple #[celV Cel.z, .bool false]) (by simp [results, Try.results14, go_sem, Cel.z, k0, k1, k2, k3, k4, k5, k6, k7, k8, k9, k10, k11, k12, k13]) rfl ⟨rfl, HBQ.out⟩
  · have HI := Lib.hid (show isInB r n = false by simpa using hi)
    clear hi
    go_wp2_with fail
    refine (isIn_any w1 r n).mono ?_
    rintro e w' ⟨rfl, rfl⟩
    rw [HI.out]
    go_wp2
    rw [← hwq]
    clear hwq z0 z1 z2 z3 z4 z5 z6 z7 z8 z9 z10 z11 z12 z13 zf
    obtain ⟨_, ⟨k0, k1, k2, k3, k4, k5, k6, k7, k8, k9, k10, k11, k12, k13⟩, _⟩ := Z.out
    dsimp only [Cel.z] at k0 k1 k2 k3 k4 k5 k6 k7 k8 k9 k10 k11 k12 k13
    exact bodyPost_ret (v := .tuple #[celV Cel.z, .bool false]) (by simp [results, Try.results14, go_sem, Cel.z, k0, k1, k2, k3, k4, k5, k6, k7, k8, k9, k10, k11, k12, k13]) rfl ⟨rfl, HBQ.out⟩

set_option maxHeartbeats 4000000 in
set_option maxRecDepth 100000 in
theorem changeAt_no (w : World) (pv fv : Value) (n m : Nat) (r c : Int) (hs : SizeIs w pv n m) (hno : (isInB r n && isInB c m) = false) :
    Calls Try.prog 62 #[pv, .agg #[.int .i64 r, .int .i64 c], fv] w fun e w' => e = .returned (.tuple #[]) ∧ Below w.heap.size w w' := by
  obtain ⟨w0, hw0⟩ : ∃ x, x = w.alloc (.cells #[.int .i64 r, .int .i64 c] 48) := ⟨_, rfl⟩
  obtain ⟨b4, hb4⟩ : ∃ x, x = w.heap.size := ⟨_, rfl⟩
  have B0 : Below w.heap.size w w0 := by rw [hw0]; exact (Below.refl _ _).alloc (Nat.le_refl _) _
  have q0 : w0.cell? ⟨b4, 0, none⟩ = some (.int .i64 r) := by rw [hw0, hb4]; simp
  have q1 : w0.cell? ⟨b4, 1, none⟩ = some (.int .i64 c) := by rw [hw0, hb4]; simp
  have HB0 := Lib.hid B0
  have C1 := Lib.hid (at_no w0 pv n m r c (fun w' b => hs w' (B0.trans (b.mono B0.size))) hno)
  clear B0 hs hno
  go_enter Try.func62, Try.ntmps62
  go_upto_region 1 with (fail)
  rw [← hw0, ← hb4]
  clear hw0 hb4
  go_wp2_with fail
  refine C1.out.mono ?_
  rintro e w1 ⟨rfl, b1⟩
  obtain ⟨w2, hw2⟩ : ∃ x, x = w1.alloc (.cells #[.int .i32 0, .int .i32 0, .int .i32 0, .int .u8 0, .int .u8 0, .int .u8 0, .int .u8 0, .int .u8 0, .int .u8 0, .int .u8 0, .int .u8 0, .int .u8 0, .int .u16 0, .int .u8 0] 42) := ⟨_, rfl⟩
  have HB2 := Lib.hid (show Below w.heap.size w w2 by rw [hw2]; exact (HB0.out.trans (b1.mono HB0.out.size)).alloc (Nat.le_trans HB0.out.size b1.size) _)
  clear b1 C1 q0 q1
  go_wp2
  rw [← hw2]
  go_end0
  exact ⟨rfl, HB2.out⟩
set_option maxHeartbeats 4000000 in
set_option maxRecDepth 100000 in
theorem changeAt_yes (w : World) (lo p rb c i j f : Nat) (H : List Hd) (pre post : Array Value) (R' : Cls) (h : GAt w lo p rb c H) (hlo : lo ≤ w.heap.size) (hi : i < H.length) (hj : j < (hdAt H 0).R.length) (hij : (hdAt H i).R.length = (hdAt H 0).R.length) (hf : Makes w f pre post (hdAt H i).R R') (eg : ∀ args w, (callFunc f args).run Try.prog w = .ok (.enter f args) w) (hR : 0 < R'.length) :
    Calls Try.prog 62 #[gV p, .agg #[.int .i64 (i : Nat), .int .i64 (j : Nat)], fV f pre post] w fun e w' => e = .returned (.tuple #[]) ∧ (∃ x : Hd, x.R = R' ∧ w.heap.size ≤ x.b ∧ GAt w' lo p rb c (H.set i x)) ∧ Buts (· = rb) w w' := by
  obtain ⟨w0, hw0⟩ : ∃ x, x = w.alloc (.cells #[.int .i64 (i : Nat), .int .i64 (j : Nat)] 48) := ⟨_, rfl⟩
  obtain ⟨b4, hb4⟩ : ∃ x, x = w.heap.size := ⟨_, rfl⟩
  have B0 : Below w.heap.size w w0 := by rw [hw0]; exact (Below.refl _ _).alloc (Nat.le_refl _) _
  have q0 : w0.cell? ⟨b4, 0, none⟩ = some (.int .i64 (i : Nat)) := by rw [hw0, hb4]; simp
  have q1 : w0.cell? ⟨b4, 1, none⟩ = some (.int .i64 (j : Nat)) := by rw [hw0, hb4]; simp
  have HB0 := Lib.hid B0
  have Q0 := Lib.hid q0
  have HSB := Lib.hid (show b4 < w0.heap.size by rw [hw0, hb4]; simp)
  have HG0 := Lib.hid (h.below B0)
  obtain ⟨y, hy⟩ : ∃ y, y = gc (hdAt H i).R j := ⟨_, rfl⟩
  have C1 := Lib.hid (show Calls Try.prog 14 #[gV p, .agg #[.int .i64 (i : Nat), .int .i64 (j : Nat)]] w0 fun e w' => e = .returned (.tuple #[celV y, .bool true]) ∧ Below w0.heap.size w0 w' by rw [hy]; exact at_yes w0 lo p rb c i j H (h.below B0) hi hj hij)
  have HM := Lib.hid (hf.later B0)
  have HLO := Lib.hid hlo
  have HI := Lib.hid hi
  have HR := Lib.hid hR
  have HEG := Lib.hid eg
  clear B0 h hlo hj hij hf hR hy eg
  go_enter Try.func62, Try.ntmps62
  go_upto_region 1 with (fail)
  rw [← hw0, ← hb4]
  clear hw0 hb4
  go_wp2_with fail
  refine C1.out.mono ?_
  rintro e w1 ⟨rfl, b1⟩
  obtain ⟨w2, hw2⟩ : ∃ x, x = w1.alloc (.cells #[.int .i32 y.ru, .int .i32 y.m0, .int .i32 y.m1, .int .u8 y.k, .int .u8 y.a.fg.k, .int .u8 y.a.fg.r, .int .u8 y.a.fg.g, .int .u8 y.a.fg.b, .int .u8 y.a.bg.k, .int .u8 y.a.bg.r, .int .u8 y.a.bg.g, .int .u8 y.a.bg.b, .int .u16 (y.a.fl : Nat), .int .u8 y.l] 42) := ⟨_, rfl⟩
  have b2 : Below w0.heap.size w0 w2 := by rw [hw2]; exact b1.alloc b1.size _
  have HB2 := Lib.hid b2
  have q2 : w2.cell? ⟨b4, 0, none⟩ = some (.int .i64 (i : Nat)) := (b2.cell (p := ⟨b4, 0, none⟩) HSB.out).trans Q0.out
  have C2 := Lib.hid (change_yes w2 lo p rb c i f H pre post R' (HG0.out.below b2) (Nat.le_trans HLO.out (Nat.le_trans HB0.out.size b2.size)) HI.out (HM.out.later b2) HEG.out HR.out)
  have q3 := q2
  rw [hw2] at q3
  clear b1 b2 C1 q0 q1
  go_wp2_with (rw [← hw2]; clear hw2; refine C2.out.mono ?_)
  rintro e w3 ⟨rfl, ⟨x, hx1, hx2, hx3⟩, bt⟩
  have HX := Lib.hid hx1
  have HX2 := Lib.hid hx2
  have HX3 := Lib.hid hx3
  have HBT := Lib.hid bt
  clear hx1 hx2 hx3 bt C2 q2 q3
  go_wp2
  go_end0
  exact ⟨rfl, ⟨x, HX.out, Nat.le_trans (Nat.le_trans HB0.out.size HB2.out.size) HX2.out, HX3.out⟩, ((Buts.of HB0.out).trans (Buts.of HB2.out)).trans HBT.out⟩
end Go.Proofs.Ytdeahnphcfcfpaa.Lab
