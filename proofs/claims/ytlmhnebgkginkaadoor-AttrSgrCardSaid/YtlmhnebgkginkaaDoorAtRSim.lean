/- The reference's simple: what its ways have in common. The reference's simple, way by way. The reference's simple: what a number alone makes of an attribute. -/
import Derived.Test.YtlmhnebgkginkaaDoorAtRefA
import Derived.Test.YtlmhnebgkginkaaDoorAtTake
import Derived.Deep.CutBlock
import Derived.Deep.DeepCutAuto
namespace Go.Proofs.YtlmhnebgkginkaaDoor.Lab
open Go Go.RowKit

theorem AtAt.butO {w w' : World} {b B : Nat} {a : At} (h : AtAt w b a) (k : But B w w') (hb : b ≠ B) : AtAt w' b a := h.same k.size (k.block b h.1 (by simp; omega))
/-- What it answers. -/
def SimOut (w : World) (q : At) (e : Ending) (w' : World) : Prop := e = .returned (attV q) ∧ Below w.heap.size w w'
theorem sim_flags0 (a : At) (h : a.fl < 65536) (s : Nat) : ({ a with fl := a.fl ||| s } : At) = a.flags s 0 := by
  unfold At.flags flagsM
  rw [Nat.sub_zero, show (65535 : Nat) = 2 ^ 16 - 1 from rfl, Nat.and_two_pow_sub_one_eq_mod, Nat.mod_eq_of_lt h]
theorem sim_flagsC (a : At) (c : Nat) : ({ a with fl := a.fl &&& (65535 - c) } : At) = a.flags 0 c := by
  unfold At.flags flagsM
  rw [Nat.or_zero]
theorem sim_both (a : At) (s : Nat) (hs : s = 8 ∨ s = 256) : ({ a with fl := a.fl &&& (65535 - 264) ||| s } : At) = a.flags s (264 - s) := by
  unfold At.flags flagsM
  have h : ∀ i, ((65535 - 264 : Nat).testBit i || s.testBit i) = ((65535 - (264 - s) : Nat).testBit i || s.testBit i) := by
    intro i
    have e : (65535 - 264) ||| s = (65535 - (264 - s)) ||| s := by rcases hs with rfl | rfl <;> decide
    rw [← Nat.testBit_or, e, Nat.testBit_or]
  simp only [At.mk.injEq, true_and]
  refine Nat.eq_of_testBit_eq fun i => ?_
  have := h i
  simp only [Nat.testBit_or, Nat.testBit_and]
  cases h1 : a.fl.testBit i <;> cases h2 : s.testBit i <;> simp_all

set_option maxHeartbeats 4000000 in
set_option maxRecDepth 100000 in
theorem rsim_0 (w : World) (a : At) : Calls Tryd.prog 32 #[attV a, .int .i64 0] w (SimOut w (simpleM a 0)) := by
  have HSM := Lib.hid (show simpleM a 0 = At.zero from rfl)
  obtain ⟨w0, hw0⟩ : ∃ w0, w0 = (w.alloc (.cells #[.int .u8 a.fg.k, .int .u8 a.fg.r, .int .u8 a.fg.g, .int .u8 a.fg.b, .int .u8 a.bg.k, .int .u8 a.bg.r, .int .u8 a.bg.g, .int .u8 a.bg.b, .int .u16 (a.fl : Nat)] 26)).alloc (.cells #[.int .u8 0, .int .u8 0, .int .u8 0, .int .u8 0, .int .u8 0, .int .u8 0, .int .u8 0, .int .u8 0, .int .u16 0] 26) := ⟨_, rfl⟩
  have b0 : Below w.heap.size w w0 := by rw [hw0]; exact ((Below.refl _ _).alloc (Nat.le_refl _) _).alloc (by simp) _
  have HA := Lib.hid (show AtAt w0 w.heap.size a by rw [hw0]; exact (AtAt.newAt w _ rfl a _).past _)
  have HZ := Lib.hid (show AtAt w0 (w.heap.size + 1) At.zero by rw [hw0]; exact AtAt.newAt _ _ (by simp) At.zero _)
  have HB := Lib.hid b0
  clear b0
  go_enter Tryd.func32, Tryd.ntmps32
  go_upto_block 0 with (fail)
  rw [← hw0]
  clear hw0
  obtain ⟨wq, hwq⟩ : ∃ wq, wq = putA w0 (w.heap.size + 1) At.zero := ⟨_, rfl⟩
  have Z := Lib.hid (show AtAt wq (w.heap.size + 1) At.zero by rw [hwq]; exact HZ.out.putA _)
  have HBQ := Lib.hid (show Below w.heap.size w wq by rw [hwq]; exact HB.out.trans ((putA_but w0 (w.heap.size + 1) At.zero).below (C := w.heap.size) (by omega) HB.out.size))
  replace hwq : wq = ((((((((w0.setCell ⟨w.heap.size + 1, 0, none⟩ (.int .u8 0)).setCell ⟨w.heap.size + 1, 1, none⟩ (.int .u8 0)).setCell ⟨w.heap.size + 1, 2, none⟩ (.int .u8 0)).setCell ⟨w.heap.size + 1, 3, none⟩ (.int .u8 0)).setCell ⟨w.heap.size + 1, 4, none⟩ (.int .u8 0)).setCell ⟨w.heap.size + 1, 5, none⟩ (.int .u8 0)).setCell ⟨w.heap.size + 1, 6, none⟩ (.int .u8 0)).setCell ⟨w.heap.size + 1, 7, none⟩ (.int .u8 0)).setCell ⟨w.heap.size + 1, 8, none⟩ (.int .u16 0) := hwq
  obtain ⟨_, ⟨z1, z2, z3, z4, z5, z6, z7, z8, z9⟩, zf⟩ := HZ.out
  dsimp only at z1 z2 z3 z4 z5 z6 z7 z8 z9
  go_wp2
  rw [← hwq]
  clear z1 z2 z3 z4 z5 z6 z7 z8 z9 zf hwq
  obtain ⟨_, ⟨k1, k2, k3, k4, k5, k6, k7, k8, k9⟩, _⟩ := Z.out
  dsimp only at k1 k2 k3 k4 k5 k6 k7 k8 k9
  exact bodyPost_ret (v := attV At.zero) (by simp [results, Tryd.results32, go_sem, k1, k2, k3, k4, k5, k6, k7, k8, k9]) rfl ⟨by rw [HSM.out], HBQ.out⟩
set_option maxHeartbeats 4000000 in
set_option maxRecDepth 100000 in
theorem rsim_22 (w : World) (a : At) (ha : a.fl < 65536) : Calls Tryd.prog 32 #[attV a, .int .i64 22] w (SimOut w (simpleM a 22)) := by
  have HSM := Lib.hid (show simpleM a 22 = ({ a with fl := a.fl &&& (65535 - 3) } : At) from by rw [sim_flagsC]; rfl)
  obtain ⟨w0, hw0⟩ : ∃ w0, w0 = (w.alloc (.cells #[.int .u8 a.fg.k, .int .u8 a.fg.r, .int .u8 a.fg.g, .int .u8 a.fg.b, .int .u8 a.bg.k, .int .u8 a.bg.r, .int .u8 a.bg.g, .int .u8 a.bg.b, .int .u16 (a.fl : Nat)] 26)).alloc (.cells #[.int .u8 0, .int .u8 0, .int .u8 0, .int .u8 0, .int .u8 0, .int .u8 0, .int .u8 0, .int .u8 0, .int .u16 0] 26) := ⟨_, rfl⟩
  have b0 : Below w.heap.size w w0 := by rw [hw0]; exact ((Below.refl _ _).alloc (Nat.le_refl _) _).alloc (by simp) _
  have HA := Lib.hid (show AtAt w0 w.heap.size a by rw [hw0]; exact (AtAt.newAt w _ rfl a _).past _)
  have HZ := Lib.hid (show AtAt w0 (w.heap.size + 1) At.zero by rw [hw0]; exact AtAt.newAt _ _ (by simp) At.zero _)
  have HB := Lib.hid b0
  clear b0
  have CF := Lib.hid (show ∀ W, Calls Tryd.prog 39 #[.int .i64 22] W fun e w' => e = .returned (.int .u16 0) ∧ W = w' from fun W => rflag_any 22 W)
  go_enter Tryd.func32, Tryd.ntmps32
  go_upto_block 0 with (fail)
  rw [← hw0]
  clear hw0
  have u1 : bits .andNot .u16 (a.fl : Int) 3 = ((a.fl &&& (65535 - 3) : Nat) : Int) := u16_andN a.fl 3 ha (by decide)
  obtain ⟨g, hg⟩ : ∃ g, g = a.fl &&& (65535 - 3) := ⟨_, rfl⟩
  rw [← hg] at u1
  rw [← hg] at HSM
  clear hg
  go_wp2_with fail
  refine (CF.out _).mono ?_
  rintro e u ⟨rfl, rfl⟩
  obtain ⟨wn, hwn⟩ : ∃ wn, wn = w0.setCell ⟨w.heap.size, 8, none⟩ (.int .u16 (g : Nat)) := ⟨_, rfl⟩
  have HQ := Lib.hid (show AtAt wn w.heap.size ({ a with fl := g } : At) by rw [hwn]; exact HA.out.putFl _)
  have HZn := Lib.hid (show AtAt wn (w.heap.size + 1) At.zero by rw [hwn]; exact HZ.out.butO (But.set w0 w.heap.size 8 _) (by omega))
  have HBn := Lib.hid (show Below w.heap.size w wn by rw [hwn]; exact HB.out.trans ((But.set w0 w.heap.size 8 _).below (C := w.heap.size) (Nat.le_refl _) HB.out.size))
  obtain ⟨_, ⟨y1, y2, y3, y4, y5, y6, y7, y8, y9⟩, yf⟩ := HA.out
  try dsimp only at y1 y2 y3 y4 y5 y6 y7 y8 y9
  go_upto_region 26 with (fail)
  rw [← hwn]
  clear y1 y2 y3 y4 y5 y6 y7 y8 y9 yf hwn
  obtain ⟨q0, hq0⟩ : ∃ q0, q0 = simpleM a 22 := ⟨_, rfl⟩
  have HQ0 := Lib.hid (show AtAt wn w.heap.size q0 by rw [hq0, HSM.out]; exact HQ.out)
  have HQE := Lib.hid hq0
  clear hq0
  obtain ⟨wq, hwq⟩ : ∃ wq, wq = putA wn (w.heap.size + 1) q0 := ⟨_, rfl⟩
  have Z := Lib.hid (show AtAt wq (w.heap.size + 1) q0 by rw [hwq]; exact HZn.out.putA q0)
  have HBQ := Lib.hid (show Below w.heap.size w wq by rw [hwq]; exact HBn.out.trans ((putA_but wn (w.heap.size + 1) q0).below (C := w.heap.size) (by omega) HBn.out.size))
  simp only [putA, putC, Nat.zero_add, Nat.reduceAdd] at hwq
  obtain ⟨_, ⟨a1, a2, a3, a4, a5, a6, a7, a8, a9⟩, _⟩ := HQ0.out
  obtain ⟨_, ⟨z1, z2, z3, z4, z5, z6, z7, z8, z9⟩, zf⟩ := HZn.out
  dsimp only at z1 z2 z3 z4 z5 z6 z7 z8 z9
  go_wp2
  rw [← hwq]
  clear a1 a2 a3 a4 a5 a6 a7 a8 a9 z1 z2 z3 z4 z5 z6 z7 z8 z9 zf hwq
  obtain ⟨_, ⟨k1, k2, k3, k4, k5, k6, k7, k8, k9⟩, _⟩ := Z.out
  exact bodyPost_ret (v := attV q0) (by simp [results, Tryd.results32, go_sem, k1, k2, k3, k4, k5, k6, k7, k8, k9]) rfl ⟨by rw [HQE.out], HBQ.out⟩
set_option maxHeartbeats 4000000 in
set_option maxRecDepth 100000 in
theorem rsim_24 (w : World) (a : At) (ha : a.fl < 65536) : Calls Tryd.prog 32 #[attV a, .int .i64 24] w (SimOut w (simpleM a 24)) := by
  have HSM := Lib.hid (show simpleM a 24 = ({ a with fl := a.fl &&& (65535 - 264) } : At) from by rw [sim_flagsC]; rfl)
  obtain ⟨w0, hw0⟩ : ∃ w0, w0 = (w.alloc (.cells #[.int .u8 a.fg.k, .int .u8 a.fg.r, .int .u8 a.fg.g, .int .u8 a.fg.b, .int .u8 a.bg.k, .int .u8 a.bg.r, .int .u8 a.bg.g, .int .u8 a.bg.b, .int .u16 (a.fl : Nat)] 26)).alloc (.cells #[.int .u8 0, .int .u8 0, .int .u8 0, .int .u8 0, .int .u8 0, .int .u8 0, .int .u8 0, .int .u8 0, .int .u16 0] 26) := ⟨_, rfl⟩
  have b0 : Below w.heap.size w w0 := by rw [hw0]; exact ((Below.refl _ _).alloc (Nat.le_refl _) _).alloc (by simp) _
  have HA := Lib.hid (show AtAt w0 w.heap.size a by rw [hw0]; exact (AtAt.newAt w _ rfl a _).past _)
  have HZ := Lib.hid (show AtAt w0 (w.heap.size + 1) At.zero by rw [hw0]; exact AtAt.newAt _ _ (by simp) At.zero _)
  have HB := Lib.hid b0
  clear b0
  have CF := Lib.hid (show ∀ W, Calls Tryd.prog 39 #[.int .i64 24] W fun e w' => e = .returned (.int .u16 0) ∧ W = w' from fun W => rflag_any 24 W)
  go_enter Tryd.func32, Tryd.ntmps32
  go_upto_block 0 with (fail)
  rw [← hw0]
  clear hw0
  have u1 : bits .andNot .u16 (a.fl : Int) 264 = ((a.fl &&& (65535 - 264) : Nat) : Int) := u16_andN a.fl 264 ha (by decide)
  obtain ⟨g, hg⟩ : ∃ g, g = a.fl &&& (65535 - 264) := ⟨_, rfl⟩
  rw [← hg] at u1
  rw [← hg] at HSM
  clear hg
  go_wp2_with fail
  refine (CF.out _).mono ?_
  rintro e u ⟨rfl, rfl⟩
  obtain ⟨wn, hwn⟩ : ∃ wn, wn = w0.setCell ⟨w.heap.size, 8, none⟩ (.int .u16 (g : Nat)) := ⟨_, rfl⟩
  have HQ := Lib.hid (show AtAt wn w.heap.size ({ a with fl := g } : At) by rw [hwn]; exact HA.out.putFl _)
  have HZn := Lib.hid (show AtAt wn (w.heap.size + 1) At.zero by rw [hwn]; exact HZ.out.butO (But.set w0 w.heap.size 8 _) (by omega))
  have HBn := Lib.hid (show Below w.heap.size w wn by rw [hwn]; exact HB.out.trans ((But.set w0 w.heap.size 8 _).below (C := w.heap.size) (Nat.le_refl _) HB.out.size))
  obtain ⟨_, ⟨y1, y2, y3, y4, y5, y6, y7, y8, y9⟩, yf⟩ := HA.out
  try dsimp only at y1 y2 y3 y4 y5 y6 y7 y8 y9
  go_upto_region 26 with (fail)
  rw [← hwn]
  clear y1 y2 y3 y4 y5 y6 y7 y8 y9 yf hwn
  obtain ⟨q0, hq0⟩ : ∃ q0, q0 = simpleM a 24 := ⟨_, rfl⟩
  have HQ0 := Lib.hid (show AtAt wn w.heap.size q0 by rw [hq0, HSM.out]; exact HQ.out)
  have HQE := Lib.hid hq0
  clear hq0
  obtain ⟨wq, hwq⟩ : ∃ wq, wq = putA wn (w.heap.size + 1) q0 := ⟨_, rfl⟩
  have Z := Lib.hid (show AtAt wq (w.heap.size + 1) q0 by rw [hwq]; exact HZn.out.putA q0)
  have HBQ := Lib.hid (show Below w.heap.size w wq by rw [hwq]; exact HBn.out.trans ((putA_but wn (w.heap.size + 1) q0).below (C := w.heap.size) (by omega) HBn.out.size))
  simp only [putA, putC, Nat.zero_add, Nat.reduceAdd] at hwq
  obtain ⟨_, ⟨a1, a2, a3, a4, a5, a6, a7, a8, a9⟩, _⟩ := HQ0.out
  obtain ⟨_, ⟨z1, z2, z3, z4, z5, z6, z7, z8, z9⟩, zf⟩ := HZn.out
  dsimp only at z1 z2 z3 z4 z5 z6 z7 z8 z9
  go_wp2
  rw [← hwq]
  clear a1 a2 a3 a4 a5 a6 a7 a8 a9 z1 z2 z3 z4 z5 z6 z7 z8 z9 zf hwq
  obtain ⟨_, ⟨k1, k2, k3, k4, k5, k6, k7, k8, k9⟩, _⟩ := Z.out
  exact bodyPost_ret (v := attV q0) (by simp [results, Tryd.results32, go_sem, k1, k2, k3, k4, k5, k6, k7, k8, k9]) rfl ⟨by rw [HQE.out], HBQ.out⟩
set_option maxHeartbeats 4000000 in
set_option maxRecDepth 100000 in
theorem rsim_39 (w : World) (a : At) : Calls Tryd.prog 32 #[attV a, .int .i64 39] w (SimOut w (simpleM a 39)) := by
  have HSM := Lib.hid (show simpleM a 39 = ({ a with fg := Cl.zero } : At) from rfl)
  obtain ⟨w0, hw0⟩ : ∃ w0, w0 = (w.alloc (.cells #[.int .u8 a.fg.k, .int .u8 a.fg.r, .int .u8 a.fg.g, .int .u8 a.fg.b, .int .u8 a.bg.k, .int .u8 a.bg.r, .int .u8 a.bg.g, .int .u8 a.bg.b, .int .u16 (a.fl : Nat)] 26)).alloc (.cells #[.int .u8 0, .int .u8 0, .int .u8 0, .int .u8 0, .int .u8 0, .int .u8 0, .int .u8 0, .int .u8 0, .int .u16 0] 26) := ⟨_, rfl⟩
  have b0 : Below w.heap.size w w0 := by rw [hw0]; exact ((Below.refl _ _).alloc (Nat.le_refl _) _).alloc (by simp) _
  have HA := Lib.hid (show AtAt w0 w.heap.size a by rw [hw0]; exact (AtAt.newAt w _ rfl a _).past _)
  have HZ := Lib.hid (show AtAt w0 (w.heap.size + 1) At.zero by rw [hw0]; exact AtAt.newAt _ _ (by simp) At.zero _)
  have HB := Lib.hid b0
  clear b0
  have CF := Lib.hid (show ∀ W, Calls Tryd.prog 39 #[.int .i64 39] W fun e w' => e = .returned (.int .u16 0) ∧ W = w' from fun W => rflag_any 39 W)
  go_enter Tryd.func32, Tryd.ntmps32
  go_upto_block 0 with (fail)
  rw [← hw0]
  clear hw0
  go_wp2_with fail
  refine (CF.out _).mono ?_
  rintro e u ⟨rfl, rfl⟩
  obtain ⟨wn, hwn⟩ : ∃ wn, wn = putC w0 w.heap.size 0 Cl.zero := ⟨_, rfl⟩
  have HQ := Lib.hid (show AtAt wn w.heap.size ({ a with fg := Cl.zero } : At) by rw [hwn]; exact HA.out.putFg _)
  have HZn := Lib.hid (show AtAt wn (w.heap.size + 1) At.zero by rw [hwn]; exact HZ.out.butO (putC_but w0 w.heap.size 0 _) (by omega))
  have HBn := Lib.hid (show Below w.heap.size w wn by rw [hwn]; exact HB.out.trans ((putC_but w0 w.heap.size 0 _).below (C := w.heap.size) (Nat.le_refl _) HB.out.size))
  simp only [putC, Nat.zero_add] at hwn
  obtain ⟨_, ⟨y1, y2, y3, y4, y5, y6, y7, y8, y9⟩, yf⟩ := HA.out
  try dsimp only at y1 y2 y3 y4 y5 y6 y7 y8 y9
  go_upto_region 26 with (fail)
  rw [← hwn]
  clear y1 y2 y3 y4 y5 y6 y7 y8 y9 yf hwn
  obtain ⟨q0, hq0⟩ : ∃ q0, q0 = simpleM a 39 := ⟨_, rfl⟩
  have HQ0 := Lib.hid (show AtAt wn w.heap.size q0 by rw [hq0, HSM.out]; exact HQ.out)
  have HQE := Lib.hid hq0
  clear hq0
  obtain ⟨wq, hwq⟩ : ∃ wq, wq = putA wn (w.heap.size + 1) q0 := ⟨_, rfl⟩
  have Z := Lib.hid (show AtAt wq (w.heap.size + 1) q0 by rw [hwq]; exact HZn.out.putA q0)
  have HBQ := Lib.hid (show Below w.heap.size w wq by rw [hwq]; exact HBn.out.trans ((putA_but wn (w.heap.size + 1) q0).below (C := w.heap.size) (by omega) HBn.out.size))
  simp only [putA, putC, Nat.zero_add, Nat.reduceAdd] at hwq
  obtain ⟨_, ⟨a1, a2, a3, a4, a5, a6, a7, a8, a9⟩, _⟩ := HQ0.out
  obtain ⟨_, ⟨z1, z2, z3, z4, z5, z6, z7, z8, z9⟩, zf⟩ := HZn.out
  dsimp only at z1 z2 z3 z4 z5 z6 z7 z8 z9
  go_wp2
  rw [← hwq]
  clear a1 a2 a3 a4 a5 a6 a7 a8 a9 z1 z2 z3 z4 z5 z6 z7 z8 z9 zf hwq
  obtain ⟨_, ⟨k1, k2, k3, k4, k5, k6, k7, k8, k9⟩, _⟩ := Z.out
  exact bodyPost_ret (v := attV q0) (by simp [results, Tryd.results32, go_sem, k1, k2, k3, k4, k5, k6, k7, k8, k9]) rfl ⟨by rw [HQE.out], HBQ.out⟩
set_option maxHeartbeats 4000000 in
set_option maxRecDepth 100000 in
theorem rsim_49 (w : World) (a : At) : Calls Tryd.prog 32 #[attV a, .int .i64 49] w (SimOut w (simpleM a 49)) := by
  have HSM := Lib.hid (show simpleM a 49 = ({ a with bg := Cl.zero } : At) from rfl)
  obtain ⟨w0, hw0⟩ : ∃ w0, w0 = (w.alloc (.cells #[.int .u8 a.fg.k, .int .u8 a.fg.r, .int .u8 a.fg.g, .int .u8 a.fg.b, .int .u8 a.bg.k, .int .u8 a.bg.r, .int .u8 a.bg.g, .int .u8 a.bg.b, .int .u16 (a.fl : Nat)] 26)).alloc (.cells #[.int .u8 0, .int .u8 0, .int .u8 0, .int .u8 0, .int .u8 0, .int .u8 0, .int .u8 0, .int .u8 0, .int .u16 0] 26) := ⟨_, rfl⟩
  have b0 : Below w.heap.size w w0 := by rw [hw0]; exact ((Below.refl _ _).alloc (Nat.le_refl _) _).alloc (by simp) _
  have HA := Lib.hid (show AtAt w0 w.heap.size a by rw [hw0]; exact (AtAt.newAt w _ rfl a _).past _)
  have HZ := Lib.hid (show AtAt w0 (w.heap.size + 1) At.zero by rw [hw0]; exact AtAt.newAt _ _ (by simp) At.zero _)
  have HB := Lib.hid b0
  clear b0
  have CF := Lib.hid (show ∀ W, Calls Tryd.prog 39 #[.int .i64 49] W fun e w' => e = .returned (.int .u16 0) ∧ W = w' from fun W => rflag_any 49 W)
  go_enter Tryd.func32, Tryd.ntmps32
  go_upto_block 0 with (fail)
  rw [← hw0]
  clear hw0
  go_wp2_with fail
  refine (CF.out _).mono ?_
  rintro e u ⟨rfl, rfl⟩
  obtain ⟨wn, hwn⟩ : ∃ wn, wn = putC w0 w.heap.size 4 Cl.zero := ⟨_, rfl⟩
  have HQ := Lib.hid (show AtAt wn w.heap.size ({ a with bg := Cl.zero } : At) by rw [hwn]; exact HA.out.putBg _)
  have HZn := Lib.hid (show AtAt wn (w.heap.size + 1) At.zero by rw [hwn]; exact HZ.out.butO (putC_but w0 w.heap.size 4 _) (by omega))
  have HBn := Lib.hid (show Below w.heap.size w wn by rw [hwn]; exact HB.out.trans ((putC_but w0 w.heap.size 4 _).below (C := w.heap.size) (Nat.le_refl _) HB.out.size))
  simp only [putC, Nat.reduceAdd] at hwn
  obtain ⟨_, ⟨y1, y2, y3, y4, y5, y6, y7, y8, y9⟩, yf⟩ := HA.out
  try dsimp only at y1 y2 y3 y4 y5 y6 y7 y8 y9
  go_upto_region 26 with (fail)
  rw [← hwn]
  clear y1 y2 y3 y4 y5 y6 y7 y8 y9 yf hwn
  obtain ⟨q0, hq0⟩ : ∃ q0, q0 = simpleM a 49 := ⟨_, rfl⟩
  have HQ0 := Lib.hid (show AtAt wn w.heap.size q0 by rw [hq0, HSM.out]; exact HQ.out)
  have HQE := Lib.hid hq0
  clear hq0
  obtain ⟨wq, hwq⟩ : ∃ wq, wq = putA wn (w.heap.size + 1) q0 := ⟨_, rfl⟩
  have Z := Lib.hid (show AtAt wq (w.heap.size + 1) q0 by rw [hwq]; exact HZn.out.putA q0)
  have HBQ := Lib.hid (show Below w.heap.size w wq by rw [hwq]; exact HBn.out.trans ((putA_but wn (w.heap.size + 1) q0).below (C := w.heap.size) (by omega) HBn.out.size))
  simp only [putA, putC, Nat.zero_add, Nat.reduceAdd] at hwq
  obtain ⟨_, ⟨a1, a2, a3, a4, a5, a6, a7, a8, a9⟩, _⟩ := HQ0.out
  obtain ⟨_, ⟨z1, z2, z3, z4, z5, z6, z7, z8, z9⟩, zf⟩ := HZn.out
  dsimp only at z1 z2 z3 z4 z5 z6 z7 z8 z9
  go_wp2
  rw [← hwq]
  clear a1 a2 a3 a4 a5 a6 a7 a8 a9 z1 z2 z3 z4 z5 z6 z7 z8 z9 zf hwq
  obtain ⟨_, ⟨k1, k2, k3, k4, k5, k6, k7, k8, k9⟩, _⟩ := Z.out
  exact bodyPost_ret (v := attV q0) (by simp [results, Tryd.results32, go_sem, k1, k2, k3, k4, k5, k6, k7, k8, k9]) rfl ⟨by rw [HQE.out], HBQ.out⟩
set_option maxHeartbeats 4000000 in
set_option maxRecDepth 100000 in
theorem rsim_38 (w : World) (a : At) : Calls Tryd.prog 32 #[attV a, .int .i64 38] w (SimOut w (simpleM a 38)) := by
  have HSM := Lib.hid (show simpleM a 38 = a from rfl)
  obtain ⟨w0, hw0⟩ : ∃ w0, w0 = (w.alloc (.cells #[.int .u8 a.fg.k, .int .u8 a.fg.r, .int .u8 a.fg.g, .int .u8 a.fg.b, .int .u8 a.bg.k, .int .u8 a.bg.r, .int .u8 a.bg.g, .int .u8 a.bg.b, .int .u16 (a.fl : Nat)] 26)).alloc (.cells #[.int .u8 0, .int .u8 0, .int .u8 0, .int .u8 0, .int .u8 0, .int .u8 0, .int .u8 0, .int .u8 0, .int .u16 0] 26) := ⟨_, rfl⟩
  have b0 : Below w.heap.size w w0 := by rw [hw0]; exact ((Below.refl _ _).alloc (Nat.le_refl _) _).alloc (by simp) _
  have HA := Lib.hid (show AtAt w0 w.heap.size a by rw [hw0]; exact (AtAt.newAt w _ rfl a _).past _)
  have HZ := Lib.hid (show AtAt w0 (w.heap.size + 1) At.zero by rw [hw0]; exact AtAt.newAt _ _ (by simp) At.zero _)
  have HB := Lib.hid b0
  clear b0
  have CF := Lib.hid (show ∀ W, Calls Tryd.prog 39 #[.int .i64 38] W fun e w' => e = .returned (.int .u16 0) ∧ W = w' from fun W => rflag_any 38 W)
  go_enter Tryd.func32, Tryd.ntmps32
  go_upto_block 0 with (fail)
  rw [← hw0]
  clear hw0
  go_wp2_with fail
  refine (CF.out _).mono ?_
  rintro e u ⟨rfl, rfl⟩
  go_upto_region 26 with (fail)
  obtain ⟨q0, hq0⟩ : ∃ q0, q0 = simpleM a 38 := ⟨_, rfl⟩
  have HQ0 := Lib.hid (show AtAt w0 w.heap.size q0 by rw [hq0, HSM.out]; exact HA.out)
  have HQE := Lib.hid hq0
  clear hq0
  obtain ⟨wq, hwq⟩ : ∃ wq, wq = putA w0 (w.heap.size + 1) q0 := ⟨_, rfl⟩
  have Z := Lib.hid (show AtAt wq (w.heap.size + 1) q0 by rw [hwq]; exact HZ.out.putA q0)
  have HBQ := Lib.hid (show Below w.heap.size w wq by rw [hwq]; exact HB.out.trans ((putA_but w0 (w.heap.size + 1) q0).below (C := w.heap.size) (by omega) HB.out.size))
  simp only [putA, putC, Nat.zero_add, Nat.reduceAdd] at hwq
  obtain ⟨_, ⟨a1, a2, a3, a4, a5, a6, a7, a8, a9⟩, _⟩ := HQ0.out
  obtain ⟨_, ⟨z1, z2, z3, z4, z5, z6, z7, z8, z9⟩, zf⟩ := HZ.out
  dsimp only at z1 z2 z3 z4 z5 z6 z7 z8 z9
  go_wp2
  rw [← hwq]
  clear a1 a2 a3 a4 a5 a6 a7 a8 a9 z1 z2 z3 z4 z5 z6 z7 z8 z9 zf hwq
  obtain ⟨_, ⟨k1, k2, k3, k4, k5, k6, k7, k8, k9⟩, _⟩ := Z.out
  exact bodyPost_ret (v := attV q0) (by simp [results, Tryd.results32, go_sem, k1, k2, k3, k4, k5, k6, k7, k8, k9]) rfl ⟨by rw [HQE.out], HBQ.out⟩
set_option maxHeartbeats 4000000 in
set_option maxRecDepth 100000 in
theorem rsim_48 (w : World) (a : At) : Calls Tryd.prog 32 #[attV a, .int .i64 48] w (SimOut w (simpleM a 48)) := by
  have HSM := Lib.hid (show simpleM a 48 = a from rfl)
  obtain ⟨w0, hw0⟩ : ∃ w0, w0 = (w.alloc (.cells #[.int .u8 a.fg.k, .int .u8 a.fg.r, .int .u8 a.fg.g, .int .u8 a.fg.b, .int .u8 a.bg.k, .int .u8 a.bg.r, .int .u8 a.bg.g, .int .u8 a.bg.b, .int .u16 (a.fl : Nat)] 26)).alloc (.cells #[.int .u8 0, .int .u8 0, .int .u8 0, .int .u8 0, .int .u8 0, .int .u8 0, .int .u8 0, .int .u8 0, .int .u16 0] 26) := ⟨_, rfl⟩
  have b0 : Below w.heap.size w w0 := by rw [hw0]; exact ((Below.refl _ _).alloc (Nat.le_refl _) _).alloc (by simp) _
  have HA := Lib.hid (show AtAt w0 w.heap.size a by rw [hw0]; exact (AtAt.newAt w _ rfl a _).past _)
  have HZ := Lib.hid (show AtAt w0 (w.heap.size + 1) At.zero by rw [hw0]; exact AtAt.newAt _ _ (by simp) At.zero _)
  have HB := Lib.hid b0
  clear b0
  have CF := Lib.hid (show ∀ W, Calls Tryd.prog 39 #[.int .i64 48] W fun e w' => e = .returned (.int .u16 0) ∧ W = w' from fun W => rflag_any 48 W)
  go_enter Tryd.func32, Tryd.ntmps32
  go_upto_block 0 with (fail)
  rw [← hw0]
  clear hw0
  go_wp2_with fail
  refine (CF.out _).mono ?_
  rintro e u ⟨rfl, rfl⟩
  go_upto_region 26 with (fail)
  obtain ⟨q0, hq0⟩ : ∃ q0, q0 = simpleM a 48 := ⟨_, rfl⟩
  have HQ0 := Lib.hid (show AtAt w0 w.heap.size q0 by rw [hq0, HSM.out]; exact HA.out)
  have HQE := Lib.hid hq0
  clear hq0
  obtain ⟨wq, hwq⟩ : ∃ wq, wq = putA w0 (w.heap.size + 1) q0 := ⟨_, rfl⟩
  have Z := Lib.hid (show AtAt wq (w.heap.size + 1) q0 by rw [hwq]; exact HZ.out.putA q0)
  have HBQ := Lib.hid (show Below w.heap.size w wq by rw [hwq]; exact HB.out.trans ((putA_but w0 (w.heap.size + 1) q0).below (C := w.heap.size) (by omega) HB.out.size))
  simp only [putA, putC, Nat.zero_add, Nat.reduceAdd] at hwq
  obtain ⟨_, ⟨a1, a2, a3, a4, a5, a6, a7, a8, a9⟩, _⟩ := HQ0.out
  obtain ⟨_, ⟨z1, z2, z3, z4, z5, z6, z7, z8, z9⟩, zf⟩ := HZ.out
  dsimp only at z1 z2 z3 z4 z5 z6 z7 z8 z9
  go_wp2
  rw [← hwq]
  clear a1 a2 a3 a4 a5 a6 a7 a8 a9 z1 z2 z3 z4 z5 z6 z7 z8 z9 zf hwq
  obtain ⟨_, ⟨k1, k2, k3, k4, k5, k6, k7, k8, k9⟩, _⟩ := Z.out
  exact bodyPost_ret (v := attV q0) (by simp [results, Tryd.results32, go_sem, k1, k2, k3, k4, k5, k6, k7, k8, k9]) rfl ⟨by rw [HQE.out], HBQ.out⟩

set_option maxHeartbeats 4000000 in
set_option maxRecDepth 100000 in
theorem rsim_4 (w : World) (a : At) (ha : a.fl < 65536) : Calls Tryd.prog 32 #[attV a, .int .i64 4] w (SimOut w (simpleM a 4)) := by
  have HSM := Lib.hid (show simpleM a 4 = ({ a with fl := a.fl &&& (65535 - 264) ||| 8 } : At) from by rw [sim_both a 8 (by decide)]; rfl)
  obtain ⟨w0, hw0⟩ : ∃ w0, w0 = (w.alloc (.cells #[.int .u8 a.fg.k, .int .u8 a.fg.r, .int .u8 a.fg.g, .int .u8 a.fg.b, .int .u8 a.bg.k, .int .u8 a.bg.r, .int .u8 a.bg.g, .int .u8 a.bg.b, .int .u16 (a.fl : Nat)] 26)).alloc (.cells #[.int .u8 0, .int .u8 0, .int .u8 0, .int .u8 0, .int .u8 0, .int .u8 0, .int .u8 0, .int .u8 0, .int .u16 0] 26) := ⟨_, rfl⟩
  have b0 : Below w.heap.size w w0 := by rw [hw0]; exact ((Below.refl _ _).alloc (Nat.le_refl _) _).alloc (by simp) _
  have HA := Lib.hid (show AtAt w0 w.heap.size a by rw [hw0]; exact (AtAt.newAt w _ rfl a _).past _)
  have HZ := Lib.hid (show AtAt w0 (w.heap.size + 1) At.zero by rw [hw0]; exact AtAt.newAt _ _ (by simp) At.zero _)
  have HB := Lib.hid b0
  clear b0
  have CF := Lib.hid (show ∀ W, Calls Tryd.prog 39 #[.int .i64 4] W fun e w' => e = .returned (.int .u16 8) ∧ W = w' from fun W => rflag_any 4 W)
  go_enter Tryd.func32, Tryd.ntmps32
  go_upto_block 0 with (fail)
  rw [← hw0]
  clear hw0
  have u1 : bits .andNot .u16 (a.fl : Int) 264 = ((a.fl &&& (65535 - 264) : Nat) : Int) := u16_andN a.fl 264 ha (by decide)
  obtain ⟨g, hg⟩ : ∃ g, g = a.fl &&& (65535 - 264) := ⟨_, rfl⟩
  rw [← hg] at u1
  have hgl : g < 65536 := by rw [hg]; exact Nat.lt_of_le_of_lt Nat.and_le_left ha
  rw [← hg] at HSM
  clear hg
  have u2 : bits .or .u16 (g : Int) 8 = ((g ||| 8 : Nat) : Int) := u16_orN g 8 hgl (by decide)
  obtain ⟨g2, hg2⟩ : ∃ g2, g2 = g ||| 8 := ⟨_, rfl⟩
  rw [← hg2] at u2 HSM
  clear hg2 hgl
  go_upto_region 5 with (fail)
  refine wp_region_held_drew (S := fun _ => True) (by kernel_rfl) ?_ (fun hHeld => ?_)
  · trivial
  obtain ⟨u0, hu0⟩ : ∃ u0, u0 = w0.drew := ⟨_, rfl⟩
  rw [← hu0]
  have bd : Below w0.heap.size w0 u0 := by rw [hu0]; exact ⟨rfl, rfl, rfl, Nat.le_refl _, fun _ _ => rfl⟩
  replace HA := Lib.hid (HA.out.below bd)
  replace HZ := Lib.hid (HZ.out.below bd)
  replace HB := Lib.hid (HB.out.trans (bd.mono HB.out.size))
  clear bd hu0 hHeld
  have hHeld : (fun _ : World => True) u0 := trivial
  obtain ⟨wn, hwn⟩ : ∃ wn, wn = u0.setCell ⟨w.heap.size, 8, none⟩ (.int .u16 (g2 : Nat)) := ⟨_, rfl⟩
  have HQ := Lib.hid (show AtAt wn w.heap.size ({ a with fl := g2 } : At) by rw [hwn]; exact HA.out.putFl _)
  have HZn := Lib.hid (show AtAt wn (w.heap.size + 1) At.zero by rw [hwn]; exact HZ.out.butO (But.set u0 w.heap.size 8 _) (by omega))
  have HBn := Lib.hid (show Below w.heap.size w wn by rw [hwn]; exact HB.out.trans ((But.set u0 w.heap.size 8 _).below (C := w.heap.size) (Nat.le_refl _) HB.out.size))
  obtain ⟨_, ⟨y1, y2, y3, y4, y5, y6, y7, y8, y9⟩, yf⟩ := HA.out
  try dsimp only at y1 y2 y3 y4 y5 y6 y7 y8 y9
  refine take_at (i := 0) (v := ?_) rfl (by kernel_rfl) (by kernel_rfl) (by kernel_rfl) (fun _ _ _ h => h) (by kernel_rfl) (by assumption) ?_ ?_
  rotate_left
  · (intro w hSw; (try dsimp only at hSw); go_simp; try with_reducible rfl)
  simp only [Act.put, List.setIfInBounds_toArray, List.set_cons_zero, List.set_cons_succ]
  refine take_at (i := 2) (v := ?_) rfl (by kernel_rfl) (by kernel_rfl) (by kernel_rfl) (fun _ _ _ h => h) (by kernel_rfl) (by assumption) ?_ ?_
  rotate_left
  · (intro w hSw; (try dsimp only at hSw); go_simp; try with_reducible rfl)
  simp only [Act.put, List.setIfInBounds_toArray, List.set_cons_zero, List.set_cons_succ]
  refine take_at (i := 4) (v := ?_) rfl (by kernel_rfl) (by kernel_rfl) (by kernel_rfl) (fun _ _ _ h => h) (by kernel_rfl) (by assumption) ?_ ?_
  rotate_left
  · (intro w hSw; (try dsimp only at hSw); go_simp; try with_reducible rfl)
  simp only [Act.put, List.setIfInBounds_toArray, List.set_cons_zero, List.set_cons_succ]
  refine two_at (i := 1) (j := 5) rfl rfl (by kernel_rfl) (by kernel_rfl) (by kernel_rfl) (fun K hK => ?_) (fun K hK => ?_)
  · go_wp2_with fail
    refine hK.out _ _ ?_ (fun hHeld => ?_)
    · trivial
    clear hK K
    try simp only [Act.put, List.setIfInBounds_toArray, List.set_cons_zero, List.set_cons_succ]
    refine take_at (i := 3) (v := ?_) rfl (by kernel_rfl) (by kernel_rfl) (by kernel_rfl) (fun _ _ _ h => h) (by kernel_rfl) (by assumption) ?_ ?_
    rotate_left
    · (intro w hSw; (try dsimp only at hSw); go_simp; try with_reducible rfl)
    simp only [Act.put, List.setIfInBounds_toArray, List.set_cons_zero, List.set_cons_succ]
    refine do_at (i := 5) rfl (by kernel_rfl) (by kernel_rfl) (fun K hK => ?_)
    go_simp
    refine (CF.out _).mono ?_
    rintro e u ⟨rfl, rfl⟩
    go_wp2_with fail
    refine hK.out _ _ ?_ (fun hHeld => ?_)
    · trivial
    clear hK K
    try simp only [Act.put, List.setIfInBounds_toArray, List.set_cons_zero, List.set_cons_succ]
    refine take_at (i := 6) (v := ?_) rfl (by kernel_rfl) (by kernel_rfl) (by kernel_rfl) (fun _ _ _ h => h) (by kernel_rfl) (by assumption) ?_ ?_
    rotate_left
    · (intro w hSw; (try dsimp only at hSw); go_simp; try with_reducible rfl)
    simp only [Act.put, List.setIfInBounds_toArray, List.set_cons_zero, List.set_cons_succ]
    refine take_at (i := 7) (v := ?_) rfl (by kernel_rfl) (by kernel_rfl) (by kernel_rfl) (fun _ _ _ h => h) (by kernel_rfl) (by assumption) ?_ ?_
    rotate_left
    · (intro w hSw; (try dsimp only at hSw); go_simp; try with_reducible rfl)
    simp only [Act.put, List.setIfInBounds_toArray, List.set_cons_zero, List.set_cons_succ]
    refine do_at (i := 8) rfl (by kernel_rfl) (by kernel_rfl) (fun K hK => ?_)
    go_wp2_with fail
    rw [← hwn]
    refine hK.out _ _ ?_ (fun hHeld => ?_)
    · trivial
    clear hK K
    try simp only [Act.put, List.setIfInBounds_toArray, List.set_cons_zero, List.set_cons_succ]
    refine wpAnyH_done (by kernel_rfl) ?_ _
    clear y1 y2 y3 y4 y5 y6 y7 y8 y9 yf hwn
    go_upto_region 26 with (fail)
    obtain ⟨q0, hq0⟩ : ∃ q0, q0 = simpleM a 4 := ⟨_, rfl⟩
    have HQ0 := Lib.hid (show AtAt wn w.heap.size q0 by rw [hq0, HSM.out]; exact HQ.out)
    have HQE := Lib.hid hq0
    clear hq0
    obtain ⟨wq, hwq⟩ : ∃ wq, wq = putA wn (w.heap.size + 1) q0 := ⟨_, rfl⟩
    have Z := Lib.hid (show AtAt wq (w.heap.size + 1) q0 by rw [hwq]; exact HZn.out.putA q0)
    have HBQ := Lib.hid (show Below w.heap.size w wq by rw [hwq]; exact HBn.out.trans ((putA_but wn (w.heap.size + 1) q0).below (C := w.heap.size) (by omega) HBn.out.size))
    simp only [putA, putC, Nat.zero_add, Nat.reduceAdd] at hwq
    obtain ⟨_, ⟨a1, a2, a3, a4, a5, a6, a7, a8, a9⟩, _⟩ := HQ0.out
    obtain ⟨_, ⟨z1, z2, z3, z4, z5, z6, z7, z8, z9⟩, zf⟩ := HZn.out
    dsimp only at z1 z2 z3 z4 z5 z6 z7 z8 z9
    go_wp2
    rw [← hwq]
    clear a1 a2 a3 a4 a5 a6 a7 a8 a9 z1 z2 z3 z4 z5 z6 z7 z8 z9 zf hwq
    obtain ⟨_, ⟨k1, k2, k3, k4, k5, k6, k7, k8, k9⟩, _⟩ := Z.out
    exact bodyPost_ret (v := attV q0) (by simp [results, Tryd.results32, go_sem, k1, k2, k3, k4, k5, k6, k7, k8, k9]) rfl ⟨by rw [HQE.out], HBQ.out⟩
  · go_simp
    refine (CF.out _).mono ?_
    rintro e u ⟨rfl, rfl⟩
    go_wp2_with fail
    refine hK.out _ _ ?_ (fun hHeld => ?_)
    · trivial
    clear hK K
    try simp only [Act.put, List.setIfInBounds_toArray, List.set_cons_zero, List.set_cons_succ]
    refine do_at (i := 1) rfl (by kernel_rfl) (by kernel_rfl) (fun K hK => ?_)
    go_wp2_with fail
    refine hK.out _ _ ?_ (fun hHeld => ?_)
    · trivial
    clear hK K
    try simp only [Act.put, List.setIfInBounds_toArray, List.set_cons_zero, List.set_cons_succ]
    refine take_at (i := 3) (v := ?_) rfl (by kernel_rfl) (by kernel_rfl) (by kernel_rfl) (fun _ _ _ h => h) (by kernel_rfl) (by assumption) ?_ ?_
    rotate_left
    · (intro w hSw; (try dsimp only at hSw); go_simp; try with_reducible rfl)
    simp only [Act.put, List.setIfInBounds_toArray, List.set_cons_zero, List.set_cons_succ]
    refine take_at (i := 6) (v := ?_) rfl (by kernel_rfl) (by kernel_rfl) (by kernel_rfl) (fun _ _ _ h => h) (by kernel_rfl) (by assumption) ?_ ?_
    rotate_left
    · (intro w hSw; (try dsimp only at hSw); go_simp; try with_reducible rfl)
    simp only [Act.put, List.setIfInBounds_toArray, List.set_cons_zero, List.set_cons_succ]
    refine take_at (i := 7) (v := ?_) rfl (by kernel_rfl) (by kernel_rfl) (by kernel_rfl) (fun _ _ _ h => h) (by kernel_rfl) (by assumption) ?_ ?_
    rotate_left
    · (intro w hSw; (try dsimp only at hSw); go_simp; try with_reducible rfl)
    simp only [Act.put, List.setIfInBounds_toArray, List.set_cons_zero, List.set_cons_succ]
    refine do_at (i := 8) rfl (by kernel_rfl) (by kernel_rfl) (fun K hK => ?_)
    go_wp2_with fail
    rw [← hwn]
    refine hK.out _ _ ?_ (fun hHeld => ?_)
    · trivial
    clear hK K
    try simp only [Act.put, List.setIfInBounds_toArray, List.set_cons_zero, List.set_cons_succ]
    refine wpAnyH_done (by kernel_rfl) ?_ _
    clear y1 y2 y3 y4 y5 y6 y7 y8 y9 yf hwn
    go_upto_region 26 with (fail)
    obtain ⟨q0, hq0⟩ : ∃ q0, q0 = simpleM a 4 := ⟨_, rfl⟩
    have HQ0 := Lib.hid (show AtAt wn w.heap.size q0 by rw [hq0, HSM.out]; exact HQ.out)
    have HQE := Lib.hid hq0
    clear hq0
    obtain ⟨wq, hwq⟩ : ∃ wq, wq = putA wn (w.heap.size + 1) q0 := ⟨_, rfl⟩
    have Z := Lib.hid (show AtAt wq (w.heap.size + 1) q0 by rw [hwq]; exact HZn.out.putA q0)
    have HBQ := Lib.hid (show Below w.heap.size w wq by rw [hwq]; exact HBn.out.trans ((putA_but wn (w.heap.size + 1) q0).below (C := w.heap.size) (by omega) HBn.out.size))
    simp only [putA, putC, Nat.zero_add, Nat.reduceAdd] at hwq
    obtain ⟨_, ⟨a1, a2, a3, a4, a5, a6, a7, a8, a9⟩, _⟩ := HQ0.out
    obtain ⟨_, ⟨z1, z2, z3, z4, z5, z6, z7, z8, z9⟩, zf⟩ := HZn.out
    dsimp only at z1 z2 z3 z4 z5 z6 z7 z8 z9
    go_wp2
    rw [← hwq]
    clear a1 a2 a3 a4 a5 a6 a7 a8 a9 z1 z2 z3 z4 z5 z6 z7 z8 z9 zf hwq
    obtain ⟨_, ⟨k1, k2, k3, k4, k5, k6, k7, k8, k9⟩, _⟩ := Z.out
    exact bodyPost_ret (v := attV q0) (by simp [results, Tryd.results32, go_sem, k1, k2, k3, k4, k5, k6, k7, k8, k9]) rfl ⟨by rw [HQE.out], HBQ.out⟩
set_option maxHeartbeats 4000000 in
set_option maxRecDepth 100000 in
theorem rsim_21 (w : World) (a : At) (ha : a.fl < 65536) : Calls Tryd.prog 32 #[attV a, .int .i64 21] w (SimOut w (simpleM a 21)) := by
  have HSM := Lib.hid (show simpleM a 21 = ({ a with fl := a.fl &&& (65535 - 264) ||| 256 } : At) from by rw [sim_both a 256 (by decide)]; rfl)
  obtain ⟨w0, hw0⟩ : ∃ w0, w0 = (w.alloc (.cells #[.int .u8 a.fg.k, .int .u8 a.fg.r, .int .u8 a.fg.g, .int .u8 a.fg.b, .int .u8 a.bg.k, .int .u8 a.bg.r, .int .u8 a.bg.g, .int .u8 a.bg.b, .int .u16 (a.fl : Nat)] 26)).alloc (.cells #[.int .u8 0, .int .u8 0, .int .u8 0, .int .u8 0, .int .u8 0, .int .u8 0, .int .u8 0, .int .u8 0, .int .u16 0] 26) := ⟨_, rfl⟩
  have b0 : Below w.heap.size w w0 := by rw [hw0]; exact ((Below.refl _ _).alloc (Nat.le_refl _) _).alloc (by simp) _
  have HA := Lib.hid (show AtAt w0 w.heap.size a by rw [hw0]; exact (AtAt.newAt w _ rfl a _).past _)
  have HZ := Lib.hid (show AtAt w0 (w.heap.size + 1) At.zero by rw [hw0]; exact AtAt.newAt _ _ (by simp) At.zero _)
  have HB := Lib.hid b0
  clear b0
  have CF := Lib.hid (show ∀ W, Calls Tryd.prog 39 #[.int .i64 21] W fun e w' => e = .returned (.int .u16 256) ∧ W = w' from fun W => rflag_any 21 W)
  go_enter Tryd.func32, Tryd.ntmps32
  go_upto_block 0 with (fail)
  rw [← hw0]
  clear hw0
  have u1 : bits .andNot .u16 (a.fl : Int) 264 = ((a.fl &&& (65535 - 264) : Nat) : Int) := u16_andN a.fl 264 ha (by decide)
  obtain ⟨g, hg⟩ : ∃ g, g = a.fl &&& (65535 - 264) := ⟨_, rfl⟩
  rw [← hg] at u1
  have hgl : g < 65536 := by rw [hg]; exact Nat.lt_of_le_of_lt Nat.and_le_left ha
  rw [← hg] at HSM
  clear hg
  have u2 : bits .or .u16 (g : Int) 256 = ((g ||| 256 : Nat) : Int) := u16_orN g 256 hgl (by decide)
  obtain ⟨g2, hg2⟩ : ∃ g2, g2 = g ||| 256 := ⟨_, rfl⟩
  rw [← hg2] at u2 HSM
  clear hg2 hgl
  go_upto_region 5 with (fail)
  refine wp_region_held_drew (S := fun _ => True) (by kernel_rfl) ?_ (fun hHeld => ?_)
  · trivial
  obtain ⟨u0, hu0⟩ : ∃ u0, u0 = w0.drew := ⟨_, rfl⟩
  rw [← hu0]
  have bd : Below w0.heap.size w0 u0 := by rw [hu0]; exact ⟨rfl, rfl, rfl, Nat.le_refl _, fun _ _ => rfl⟩
  replace HA := Lib.hid (HA.out.below bd)
  replace HZ := Lib.hid (HZ.out.below bd)
  replace HB := Lib.hid (HB.out.trans (bd.mono HB.out.size))
  clear bd hu0 hHeld
  have hHeld : (fun _ : World => True) u0 := trivial
  obtain ⟨wn, hwn⟩ : ∃ wn, wn = u0.setCell ⟨w.heap.size, 8, none⟩ (.int .u16 (g2 : Nat)) := ⟨_, rfl⟩
  have HQ := Lib.hid (show AtAt wn w.heap.size ({ a with fl := g2 } : At) by rw [hwn]; exact HA.out.putFl _)
  have HZn := Lib.hid (show AtAt wn (w.heap.size + 1) At.zero by rw [hwn]; exact HZ.out.butO (But.set u0 w.heap.size 8 _) (by omega))
  have HBn := Lib.hid (show Below w.heap.size w wn by rw [hwn]; exact HB.out.trans ((But.set u0 w.heap.size 8 _).below (C := w.heap.size) (Nat.le_refl _) HB.out.size))
  obtain ⟨_, ⟨y1, y2, y3, y4, y5, y6, y7, y8, y9⟩, yf⟩ := HA.out
  try dsimp only at y1 y2 y3 y4 y5 y6 y7 y8 y9
  refine take_at (i := 0) (v := ?_) rfl (by kernel_rfl) (by kernel_rfl) (by kernel_rfl) (fun _ _ _ h => h) (by kernel_rfl) (by assumption) ?_ ?_
  rotate_left
  · (intro w hSw; (try dsimp only at hSw); go_simp; try with_reducible rfl)
  simp only [Act.put, List.setIfInBounds_toArray, List.set_cons_zero, List.set_cons_succ]
  refine take_at (i := 2) (v := ?_) rfl (by kernel_rfl) (by kernel_rfl) (by kernel_rfl) (fun _ _ _ h => h) (by kernel_rfl) (by assumption) ?_ ?_
  rotate_left
  · (intro w hSw; (try dsimp only at hSw); go_simp; try with_reducible rfl)
  simp only [Act.put, List.setIfInBounds_toArray, List.set_cons_zero, List.set_cons_succ]
  refine take_at (i := 4) (v := ?_) rfl (by kernel_rfl) (by kernel_rfl) (by kernel_rfl) (fun _ _ _ h => h) (by kernel_rfl) (by assumption) ?_ ?_
  rotate_left
  · (intro w hSw; (try dsimp only at hSw); go_simp; try with_reducible rfl)
  simp only [Act.put, List.setIfInBounds_toArray, List.set_cons_zero, List.set_cons_succ]
  refine two_at (i := 1) (j := 5) rfl rfl (by kernel_rfl) (by kernel_rfl) (by kernel_rfl) (fun K hK => ?_) (fun K hK => ?_)
  · go_wp2_with fail
    refine hK.out _ _ ?_ (fun hHeld => ?_)
    · trivial
    clear hK K
    try simp only [Act.put, List.setIfInBounds_toArray, List.set_cons_zero, List.set_cons_succ]
    refine take_at (i := 3) (v := ?_) rfl (by kernel_rfl) (by kernel_rfl) (by kernel_rfl) (fun _ _ _ h => h) (by kernel_rfl) (by assumption) ?_ ?_
    rotate_left
    · (intro w hSw; (try dsimp only at hSw); go_simp; try with_reducible rfl)
    simp only [Act.put, List.setIfInBounds_toArray, List.set_cons_zero, List.set_cons_succ]
    refine do_at (i := 5) rfl (by kernel_rfl) (by kernel_rfl) (fun K hK => ?_)
    go_simp
    refine (CF.out _).mono ?_
    rintro e u ⟨rfl, rfl⟩
    go_wp2_with fail
    refine hK.out _ _ ?_ (fun hHeld => ?_)
    · trivial
    clear hK K
    try simp only [Act.put, List.setIfInBounds_toArray, List.set_cons_zero, List.set_cons_succ]
    refine take_at (i := 6) (v := ?_) rfl (by kernel_rfl) (by kernel_rfl) (by kernel_rfl) (fun _ _ _ h => h) (by kernel_rfl) (by assumption) ?_ ?_
    rotate_left
    · (intro w hSw; (try dsimp only at hSw); go_simp; try with_reducible rfl)
    simp only [Act.put, List.setIfInBounds_toArray, List.set_cons_zero, List.set_cons_succ]
    refine take_at (i := 7) (v := ?_) rfl (by kernel_rfl) (by kernel_rfl) (by kernel_rfl) (fun _ _ _ h => h) (by kernel_rfl) (by assumption) ?_ ?_
    rotate_left
    · (intro w hSw; (try dsimp only at hSw); go_simp; try with_reducible rfl)
    simp only [Act.put, List.setIfInBounds_toArray, List.set_cons_zero, List.set_cons_succ]
    refine do_at (i := 8) rfl (by kernel_rfl) (by kernel_rfl) (fun K hK => ?_)
    go_wp2_with fail
    rw [← hwn]
    refine hK.out _ _ ?_ (fun hHeld => ?_)
    · trivial
    clear hK K
    try simp only [Act.put, List.setIfInBounds_toArray, List.set_cons_zero, List.set_cons_succ]
    refine wpAnyH_done (by kernel_rfl) ?_ _
    clear y1 y2 y3 y4 y5 y6 y7 y8 y9 yf hwn
    go_upto_region 26 with (fail)
    obtain ⟨q0, hq0⟩ : ∃ q0, q0 = simpleM a 21 := ⟨_, rfl⟩
    have HQ0 := Lib.hid (show AtAt wn w.heap.size q0 by rw [hq0, HSM.out]; exact HQ.out)
    have HQE := Lib.hid hq0
    clear hq0
    obtain ⟨wq, hwq⟩ : ∃ wq, wq = putA wn (w.heap.size + 1) q0 := ⟨_, rfl⟩
    have Z := Lib.hid (show AtAt wq (w.heap.size + 1) q0 by rw [hwq]; exact HZn.out.putA q0)
    have HBQ := Lib.hid (show Below w.heap.size w wq by rw [hwq]; exact HBn.out.trans ((putA_but wn (w.heap.size + 1) q0).below (C := w.heap.size) (by omega) HBn.out.size))
    simp only [putA, putC, Nat.zero_add, Nat.reduceAdd] at hwq
    obtain ⟨_, ⟨a1, a2, a3, a4, a5, a6, a7, a8, a9⟩, _⟩ := HQ0.out
    obtain ⟨_, ⟨z1, z2, z3, z4, z5, z6, z7, z8, z9⟩, zf⟩ := HZn.out
    dsimp only at z1 z2 z3 z4 z5 z6 z7 z8 z9
    go_wp2
    rw [← hwq]
    clear a1 a2 a3 a4 a5 a6 a7 a8 a9 z1 z2 z3 z4 z5 z6 z7 z8 z9 zf hwq
    obtain ⟨_, ⟨k1, k2, k3, k4, k5, k6, k7, k8, k9⟩, _⟩ := Z.out
    exact bodyPost_ret (v := attV q0) (by simp [results, Tryd.results32, go_sem, k1, k2, k3, k4, k5, k6, k7, k8, k9]) rfl ⟨by rw [HQE.out], HBQ.out⟩
  · go_simp
    refine (CF.out _).mono ?_
    rintro e u ⟨rfl, rfl⟩
    go_wp2_with fail
    refine hK.out _ _ ?_ (fun hHeld => ?_)
    · trivial
    clear hK K
    try simp only [Act.put, List.setIfInBounds_toArray, List.set_cons_zero, List.set_cons_succ]
    refine do_at (i := 1) rfl (by kernel_rfl) (by kernel_rfl) (fun K hK => ?_)
    go_wp2_with fail
    refine hK.out _ _ ?_ (fun hHeld => ?_)
    · trivial
    clear hK K
    try simp only [Act.put, List.setIfInBounds_toArray, List.set_cons_zero, List.set_cons_succ]
    refine take_at (i := 3) (v := ?_) rfl (by kernel_rfl) (by kernel_rfl) (by kernel_rfl) (fun _ _ _ h => h) (by kernel_rfl) (by assumption) ?_ ?_
    rotate_left
    · (intro w hSw; (try dsimp only at hSw); go_simp; try with_reducible rfl)
    simp only [Act.put, List.setIfInBounds_toArray, List.set_cons_zero, List.set_cons_succ]
    refine take_at (i := 6) (v := ?_) rfl (by kernel_rfl) (by kernel_rfl) (by kernel_rfl) (fun _ _ _ h => h) (by kernel_rfl) (by assumption) ?_ ?_
    rotate_left
    · (intro w hSw; (try dsimp only at hSw); go_simp; try with_reducible rfl)
    simp only [Act.put, List.setIfInBounds_toArray, List.set_cons_zero, List.set_cons_succ]
    refine take_at (i := 7) (v := ?_) rfl (by kernel_rfl) (by kernel_rfl) (by kernel_rfl) (fun _ _ _ h => h) (by kernel_rfl) (by assumption) ?_ ?_
    rotate_left
    · (intro w hSw; (try dsimp only at hSw); go_simp; try with_reducible rfl)
    simp only [Act.put, List.setIfInBounds_toArray, List.set_cons_zero, List.set_cons_succ]
    refine do_at (i := 8) rfl (by kernel_rfl) (by kernel_rfl) (fun K hK => ?_)
    go_wp2_with fail
    rw [← hwn]
    refine hK.out _ _ ?_ (fun hHeld => ?_)
    · trivial
    clear hK K
    try simp only [Act.put, List.setIfInBounds_toArray, List.set_cons_zero, List.set_cons_succ]
    refine wpAnyH_done (by kernel_rfl) ?_ _
    clear y1 y2 y3 y4 y5 y6 y7 y8 y9 yf hwn
    go_upto_region 26 with (fail)
    obtain ⟨q0, hq0⟩ : ∃ q0, q0 = simpleM a 21 := ⟨_, rfl⟩
    have HQ0 := Lib.hid (show AtAt wn w.heap.size q0 by rw [hq0, HSM.out]; exact HQ.out)
    have HQE := Lib.hid hq0
    clear hq0
    obtain ⟨wq, hwq⟩ : ∃ wq, wq = putA wn (w.heap.size + 1) q0 := ⟨_, rfl⟩
    have Z := Lib.hid (show AtAt wq (w.heap.size + 1) q0 by rw [hwq]; exact HZn.out.putA q0)
    have HBQ := Lib.hid (show Below w.heap.size w wq by rw [hwq]; exact HBn.out.trans ((putA_but wn (w.heap.size + 1) q0).below (C := w.heap.size) (by omega) HBn.out.size))
    simp only [putA, putC, Nat.zero_add, Nat.reduceAdd] at hwq
    obtain ⟨_, ⟨a1, a2, a3, a4, a5, a6, a7, a8, a9⟩, _⟩ := HQ0.out
    obtain ⟨_, ⟨z1, z2, z3, z4, z5, z6, z7, z8, z9⟩, zf⟩ := HZn.out
    dsimp only at z1 z2 z3 z4 z5 z6 z7 z8 z9
    go_wp2
    rw [← hwq]
    clear a1 a2 a3 a4 a5 a6 a7 a8 a9 z1 z2 z3 z4 z5 z6 z7 z8 z9 zf hwq
    obtain ⟨_, ⟨k1, k2, k3, k4, k5, k6, k7, k8, k9⟩, _⟩ := Z.out
    exact bodyPost_ret (v := attV q0) (by simp [results, Tryd.results32, go_sem, k1, k2, k3, k4, k5, k6, k7, k8, k9]) rfl ⟨by rw [HQE.out], HBQ.out⟩
set_option maxHeartbeats 4000000 in
set_option maxRecDepth 100000 in
theorem rsim_F (w : World) (a : At) (ha : a.fl < 65536) (n : Int) (h0 : (n == 0) = false) (h4 : (n == 4) = false) (h21 : (n == 21) = false) (s : Nat) (hs : flagN n = s) (hz : ((s : Int) != 0) = true) (hl : s < 65536) (hq : simpleM a n = a.flags s 0) : Calls Tryd.prog 32 #[attV a, .int .i64 n] w (SimOut w (simpleM a n)) := by
  have HSM := Lib.hid (show simpleM a n = ({ a with fl := a.fl ||| s } : At) from by rw [sim_flags0 a ha]; exact hq)
  obtain ⟨w0, hw0⟩ : ∃ w0, w0 = (w.alloc (.cells #[.int .u8 a.fg.k, .int .u8 a.fg.r, .int .u8 a.fg.g, .int .u8 a.fg.b, .int .u8 a.bg.k, .int .u8 a.bg.r, .int .u8 a.bg.g, .int .u8 a.bg.b, .int .u16 (a.fl : Nat)] 26)).alloc (.cells #[.int .u8 0, .int .u8 0, .int .u8 0, .int .u8 0, .int .u8 0, .int .u8 0, .int .u8 0, .int .u8 0, .int .u16 0] 26) := ⟨_, rfl⟩
  have b0 : Below w.heap.size w w0 := by rw [hw0]; exact ((Below.refl _ _).alloc (Nat.le_refl _) _).alloc (by simp) _
  have HA := Lib.hid (show AtAt w0 w.heap.size a by rw [hw0]; exact (AtAt.newAt w _ rfl a _).past _)
  have HZ := Lib.hid (show AtAt w0 (w.heap.size + 1) At.zero by rw [hw0]; exact AtAt.newAt _ _ (by simp) At.zero _)
  have HB := Lib.hid b0
  clear b0
  have CF := Lib.hid (show ∀ W, Calls Tryd.prog 39 #[.int .i64 n] W fun e w' => e = .returned (.int .u16 (s : Nat)) ∧ W = w' from fun W => by have := rflag_any n W; rw [hs] at this; exact this)
  clear hq hs
  go_enter Tryd.func32, Tryd.ntmps32
  go_upto_block 0 with (fail)
  rw [← hw0]
  clear hw0
  have u2 : bits .or .u16 (a.fl : Int) (s : Int) = ((a.fl ||| s : Nat) : Int) := u16_orN a.fl s ha hl
  obtain ⟨g2, hg2⟩ : ∃ g2, g2 = a.fl ||| s := ⟨_, rfl⟩
  rw [← hg2] at u2 HSM
  clear hg2 hl
  go_wp2_with fail
  refine (CF.out _).mono ?_
  rintro e u ⟨rfl, rfl⟩
  go_upto_region 7 with (fail)
  refine wp_region_held_drew (S := fun _ => True) (by kernel_rfl) ?_ (fun hHeld => ?_)
  · trivial
  obtain ⟨u0, hu0⟩ : ∃ u0, u0 = w0.drew := ⟨_, rfl⟩
  rw [← hu0]
  have bd : Below w0.heap.size w0 u0 := by rw [hu0]; exact ⟨rfl, rfl, rfl, Nat.le_refl _, fun _ _ => rfl⟩
  replace HA := Lib.hid (HA.out.below bd)
  replace HZ := Lib.hid (HZ.out.below bd)
  replace HB := Lib.hid (HB.out.trans (bd.mono HB.out.size))
  clear bd hu0 hHeld
  have hHeld : (fun _ : World => True) u0 := trivial
  obtain ⟨wn, hwn⟩ : ∃ wn, wn = u0.setCell ⟨w.heap.size, 8, none⟩ (.int .u16 (g2 : Nat)) := ⟨_, rfl⟩
  have HQ := Lib.hid (show AtAt wn w.heap.size ({ a with fl := g2 } : At) by rw [hwn]; exact HA.out.putFl _)
  have HZn := Lib.hid (show AtAt wn (w.heap.size + 1) At.zero by rw [hwn]; exact HZ.out.butO (But.set u0 w.heap.size 8 _) (by omega))
  have HBn := Lib.hid (show Below w.heap.size w wn by rw [hwn]; exact HB.out.trans ((But.set u0 w.heap.size 8 _).below (C := w.heap.size) (Nat.le_refl _) HB.out.size))
  obtain ⟨_, ⟨y1, y2, y3, y4, y5, y6, y7, y8, y9⟩, yf⟩ := HA.out
  try dsimp only at y1 y2 y3 y4 y5 y6 y7 y8 y9
  refine take_at (i := 0) (v := ?_) rfl (by kernel_rfl) (by kernel_rfl) (by kernel_rfl) (fun _ _ _ h => h) (by kernel_rfl) (by assumption) ?_ ?_
  rotate_left
  · (intro w hSw; (try dsimp only at hSw); go_simp; try with_reducible rfl)
  simp only [Act.put, List.setIfInBounds_toArray, List.set_cons_zero, List.set_cons_succ]
  refine take_at (i := 2) (v := ?_) rfl (by kernel_rfl) (by kernel_rfl) (by kernel_rfl) (fun _ _ _ h => h) (by kernel_rfl) (by assumption) ?_ ?_
  rotate_left
  · (intro w hSw; (try dsimp only at hSw); go_simp; try with_reducible rfl)
  simp only [Act.put, List.setIfInBounds_toArray, List.set_cons_zero, List.set_cons_succ]
  refine two_at (i := 1) (j := 3) rfl rfl (by kernel_rfl) (by kernel_rfl) (by kernel_rfl) (fun K hK => ?_) (fun K hK => ?_)
  · go_wp2_with fail
    refine hK.out _ _ ?_ (fun hHeld => ?_)
    · trivial
    clear hK K
    try simp only [Act.put, List.setIfInBounds_toArray, List.set_cons_zero, List.set_cons_succ]
    refine do_at (i := 3) rfl (by kernel_rfl) (by kernel_rfl) (fun K hK => ?_)
    go_simp
    refine (CF.out _).mono ?_
    rintro e u ⟨rfl, rfl⟩
    go_wp2_with fail
    refine hK.out _ _ ?_ (fun hHeld => ?_)
    · trivial
    clear hK K
    try simp only [Act.put, List.setIfInBounds_toArray, List.set_cons_zero, List.set_cons_succ]
    refine take_at (i := 4) (v := ?_) rfl (by kernel_rfl) (by kernel_rfl) (by kernel_rfl) (fun _ _ _ h => h) (by kernel_rfl) (by assumption) ?_ ?_
    rotate_left
    · (intro w hSw; (try dsimp only at hSw); go_simp; try with_reducible rfl)
    simp only [Act.put, List.setIfInBounds_toArray, List.set_cons_zero, List.set_cons_succ]
    refine take_at (i := 5) (v := ?_) rfl (by kernel_rfl) (by kernel_rfl) (by kernel_rfl) (fun _ _ _ h => h) (by kernel_rfl) (by assumption) ?_ ?_
    rotate_left
    · (intro w hSw; (try dsimp only at hSw); go_simp; try with_reducible rfl)
    simp only [Act.put, List.setIfInBounds_toArray, List.set_cons_zero, List.set_cons_succ]
    refine do_at (i := 6) rfl (by kernel_rfl) (by kernel_rfl) (fun K hK => ?_)
    go_wp2_with fail
    rw [← hwn]
    refine hK.out _ _ ?_ (fun hHeld => ?_)
    · trivial
    clear hK K
    try simp only [Act.put, List.setIfInBounds_toArray, List.set_cons_zero, List.set_cons_succ]
    refine wpAnyH_done (by kernel_rfl) ?_ _
    clear y1 y2 y3 y4 y5 y6 y7 y8 y9 yf hwn
    go_upto_region 26 with (fail)
    obtain ⟨q0, hq0⟩ : ∃ q0, q0 = simpleM a n := ⟨_, rfl⟩
    have HQ0 := Lib.hid (show AtAt wn w.heap.size q0 by rw [hq0, HSM.out]; exact HQ.out)
    have HQE := Lib.hid hq0
    clear hq0
    obtain ⟨wq, hwq⟩ : ∃ wq, wq = putA wn (w.heap.size + 1) q0 := ⟨_, rfl⟩
    have Z := Lib.hid (show AtAt wq (w.heap.size + 1) q0 by rw [hwq]; exact HZn.out.putA q0)
    have HBQ := Lib.hid (show Below w.heap.size w wq by rw [hwq]; exact HBn.out.trans ((putA_but wn (w.heap.size + 1) q0).below (C := w.heap.size) (by omega) HBn.out.size))
    simp only [putA, putC, Nat.zero_add, Nat.reduceAdd] at hwq
    obtain ⟨_, ⟨a1, a2, a3, a4, a5, a6, a7, a8, a9⟩, _⟩ := HQ0.out
    obtain ⟨_, ⟨z1, z2, z3, z4, z5, z6, z7, z8, z9⟩, zf⟩ := HZn.out
    dsimp only at z1 z2 z3 z4 z5 z6 z7 z8 z9
    go_wp2
    rw [← hwq]
    clear a1 a2 a3 a4 a5 a6 a7 a8 a9 z1 z2 z3 z4 z5 z6 z7 z8 z9 zf hwq
    obtain ⟨_, ⟨k1, k2, k3, k4, k5, k6, k7, k8, k9⟩, _⟩ := Z.out
    exact bodyPost_ret (v := attV q0) (by simp [results, Tryd.results32, go_sem, k1, k2, k3, k4, k5, k6, k7, k8, k9]) rfl ⟨by rw [HQE.out], HBQ.out⟩
  · go_simp
    refine (CF.out _).mono ?_
    rintro e u ⟨rfl, rfl⟩
    go_wp2_with fail
    refine hK.out _ _ ?_ (fun hHeld => ?_)
    · trivial
    clear hK K
    try simp only [Act.put, List.setIfInBounds_toArray, List.set_cons_zero, List.set_cons_succ]
    refine do_at (i := 1) rfl (by kernel_rfl) (by kernel_rfl) (fun K hK => ?_)
    go_wp2_with fail
    refine hK.out _ _ ?_ (fun hHeld => ?_)
    · trivial
    clear hK K
    try simp only [Act.put, List.setIfInBounds_toArray, List.set_cons_zero, List.set_cons_succ]
    refine take_at (i := 4) (v := ?_) rfl (by kernel_rfl) (by kernel_rfl) (by kernel_rfl) (fun _ _ _ h => h) (by kernel_rfl) (by assumption) ?_ ?_
    rotate_left
    · (intro w hSw; (try dsimp only at hSw); go_simp; try with_reducible rfl)
    simp only [Act.put, List.setIfInBounds_toArray, List.set_cons_zero, List.set_cons_succ]
    refine take_at (i := 5) (v := ?_) rfl (by kernel_rfl) (by kernel_rfl) (by kernel_rfl) (fun _ _ _ h => h) (by kernel_rfl) (by assumption) ?_ ?_
    rotate_left
    · (intro w hSw; (try dsimp only at hSw); go_simp; try with_reducible rfl)
    simp only [Act.put, List.setIfInBounds_toArray, List.set_cons_zero, List.set_cons_succ]
    refine do_at (i := 6) rfl (by kernel_rfl) (by kernel_rfl) (fun K hK => ?_)
    go_wp2_with fail
    rw [← hwn]
    refine hK.out _ _ ?_ (fun hHeld => ?_)
    · trivial
    clear hK K
    try simp only [Act.put, List.setIfInBounds_toArray, List.set_cons_zero, List.set_cons_succ]
    refine wpAnyH_done (by kernel_rfl) ?_ _
    clear y1 y2 y3 y4 y5 y6 y7 y8 y9 yf hwn
    go_upto_region 26 with (fail)
    obtain ⟨q0, hq0⟩ : ∃ q0, q0 = simpleM a n := ⟨_, rfl⟩
    have HQ0 := Lib.hid (show AtAt wn w.heap.size q0 by rw [hq0, HSM.out]; exact HQ.out)
    have HQE := Lib.hid hq0
    clear hq0
    obtain ⟨wq, hwq⟩ : ∃ wq, wq = putA wn (w.heap.size + 1) q0 := ⟨_, rfl⟩
    have Z := Lib.hid (show AtAt wq (w.heap.size + 1) q0 by rw [hwq]; exact HZn.out.putA q0)
    have HBQ := Lib.hid (show Below w.heap.size w wq by rw [hwq]; exact HBn.out.trans ((putA_but wn (w.heap.size + 1) q0).below (C := w.heap.size) (by omega) HBn.out.size))
    simp only [putA, putC, Nat.zero_add, Nat.reduceAdd] at hwq
    obtain ⟨_, ⟨a1, a2, a3, a4, a5, a6, a7, a8, a9⟩, _⟩ := HQ0.out
    obtain ⟨_, ⟨z1, z2, z3, z4, z5, z6, z7, z8, z9⟩, zf⟩ := HZn.out
    dsimp only at z1 z2 z3 z4 z5 z6 z7 z8 z9
    go_wp2
    rw [← hwq]
    clear a1 a2 a3 a4 a5 a6 a7 a8 a9 z1 z2 z3 z4 z5 z6 z7 z8 z9 zf hwq
    obtain ⟨_, ⟨k1, k2, k3, k4, k5, k6, k7, k8, k9⟩, _⟩ := Z.out
    exact bodyPost_ret (v := attV q0) (by simp [results, Tryd.results32, go_sem, k1, k2, k3, k4, k5, k6, k7, k8, k9]) rfl ⟨by rw [HQE.out], HBQ.out⟩

set_option maxHeartbeats 4000000 in
set_option maxRecDepth 100000 in
theorem rsim_23 (w : World) (a : At) (ha : a.fl < 65536) : Calls Tryd.prog 32 #[attV a, .int .i64 23] w (SimOut w (simpleM a 23)) := by
  have HSM := Lib.hid (show simpleM a 23 = ({ a with fl := a.fl &&& (65535 - 4) } : At) from by rw [sim_flagsC]; rfl)
  obtain ⟨w0, hw0⟩ : ∃ w0, w0 = (w.alloc (.cells #[.int .u8 a.fg.k, .int .u8 a.fg.r, .int .u8 a.fg.g, .int .u8 a.fg.b, .int .u8 a.bg.k, .int .u8 a.bg.r, .int .u8 a.bg.g, .int .u8 a.bg.b, .int .u16 (a.fl : Nat)] 26)).alloc (.cells #[.int .u8 0, .int .u8 0, .int .u8 0, .int .u8 0, .int .u8 0, .int .u8 0, .int .u8 0, .int .u8 0, .int .u16 0] 26) := ⟨_, rfl⟩
  have b0 : Below w.heap.size w w0 := by rw [hw0]; exact ((Below.refl _ _).alloc (Nat.le_refl _) _).alloc (by simp) _
  have HA := Lib.hid (show AtAt w0 w.heap.size a by rw [hw0]; exact (AtAt.newAt w _ rfl a _).past _)
  have HZ := Lib.hid (show AtAt w0 (w.heap.size + 1) At.zero by rw [hw0]; exact AtAt.newAt _ _ (by simp) At.zero _)
  have HB := Lib.hid b0
  clear b0
  have CF := Lib.hid (show ∀ W, Calls Tryd.prog 39 #[.int .i64 23] W fun e w' => e = .returned (.int .u16 0) ∧ W = w' from fun W => rflag_any 23 W)
  have CG := Lib.hid (show ∀ W, Calls Tryd.prog 39 #[.int .i64 3] W fun e w' => e = .returned (.int .u16 4) ∧ W = w' from fun W => rflag_any 3 W)
  go_enter Tryd.func32, Tryd.ntmps32
  go_upto_block 0 with (fail)
  rw [← hw0]
  clear hw0
  have u1 : bits .andNot .u16 (a.fl : Int) 4 = ((a.fl &&& (65535 - 4) : Nat) : Int) := u16_andN a.fl 4 ha (by decide)
  obtain ⟨g, hg⟩ : ∃ g, g = a.fl &&& (65535 - 4) := ⟨_, rfl⟩
  rw [← hg] at u1
  rw [← hg] at HSM
  clear hg
  go_wp2_with fail
  refine (CF.out _).mono ?_
  rintro e u ⟨rfl, rfl⟩
  go_upto_region 13 with (fail)
  refine wp_region_held_drew (S := fun _ => True) (by kernel_rfl) ?_ (fun hHeld => ?_)
  · trivial
  obtain ⟨u0, hu0⟩ : ∃ u0, u0 = w0.drew := ⟨_, rfl⟩
  rw [← hu0]
  have bd : Below w0.heap.size w0 u0 := by rw [hu0]; exact ⟨rfl, rfl, rfl, Nat.le_refl _, fun _ _ => rfl⟩
  replace HA := Lib.hid (HA.out.below bd)
  replace HZ := Lib.hid (HZ.out.below bd)
  replace HB := Lib.hid (HB.out.trans (bd.mono HB.out.size))
  clear bd hu0 hHeld
  have hHeld : (fun _ : World => True) u0 := trivial
  obtain ⟨wn, hwn⟩ : ∃ wn, wn = u0.setCell ⟨w.heap.size, 8, none⟩ (.int .u16 (g : Nat)) := ⟨_, rfl⟩
  have HQ := Lib.hid (show AtAt wn w.heap.size ({ a with fl := g } : At) by rw [hwn]; exact HA.out.putFl _)
  have HZn := Lib.hid (show AtAt wn (w.heap.size + 1) At.zero by rw [hwn]; exact HZ.out.butO (But.set u0 w.heap.size 8 _) (by omega))
  have HBn := Lib.hid (show Below w.heap.size w wn by rw [hwn]; exact HB.out.trans ((But.set u0 w.heap.size 8 _).below (C := w.heap.size) (Nat.le_refl _) HB.out.size))
  obtain ⟨_, ⟨y1, y2, y3, y4, y5, y6, y7, y8, y9⟩, yf⟩ := HA.out
  try dsimp only at y1 y2 y3 y4 y5 y6 y7 y8 y9
  refine take_at (i := 0) (v := ?_) rfl (by kernel_rfl) (by kernel_rfl) (by kernel_rfl) (fun _ _ _ h => h) (by kernel_rfl) (by assumption) ?_ ?_
  rotate_left
  · (intro w hSw; (try dsimp only at hSw); go_simp; try with_reducible rfl)
  simp only [Act.put, List.setIfInBounds_toArray, List.set_cons_zero, List.set_cons_succ]
  refine take_at (i := 2) (v := ?_) rfl (by kernel_rfl) (by kernel_rfl) (by kernel_rfl) (fun _ _ _ h => h) (by kernel_rfl) (by assumption) ?_ ?_
  rotate_left
  · (intro w hSw; (try dsimp only at hSw); go_simp; try with_reducible rfl)
  simp only [Act.put, List.setIfInBounds_toArray, List.set_cons_zero, List.set_cons_succ]
  refine take_at (i := 3) (v := ?_) rfl (by kernel_rfl) (by kernel_rfl) (by kernel_rfl) (fun _ _ _ h => h) (by kernel_rfl) (by assumption) ?_ ?_
  rotate_left
  · (intro w hSw; (try dsimp only at hSw); go_simp; try with_reducible rfl)
  simp only [Act.put, List.setIfInBounds_toArray, List.set_cons_zero, List.set_cons_succ]
  refine two_at (i := 1) (j := 4) rfl rfl (by kernel_rfl) (by kernel_rfl) (by kernel_rfl) (fun K hK => ?_) (fun K hK => ?_)
  · go_wp2_with fail
    refine hK.out _ _ ?_ (fun hHeld => ?_)
    · trivial
    clear hK K
    try simp only [Act.put, List.setIfInBounds_toArray, List.set_cons_zero, List.set_cons_succ]
    refine do_at (i := 4) rfl (by kernel_rfl) (by kernel_rfl) (fun K hK => ?_)
    go_simp
    refine (CG.out _).mono ?_
    rintro e u ⟨rfl, rfl⟩
    go_wp2_with fail
    refine hK.out _ _ ?_ (fun hHeld => ?_)
    · trivial
    clear hK K
    try simp only [Act.put, List.setIfInBounds_toArray, List.set_cons_zero, List.set_cons_succ]
    refine take_at (i := 5) (v := ?_) rfl (by kernel_rfl) (by kernel_rfl) (by kernel_rfl) (fun _ _ _ h => h) (by kernel_rfl) (by assumption) ?_ ?_
    rotate_left
    · (intro w hSw; (try dsimp only at hSw); go_simp; try with_reducible rfl)
    simp only [Act.put, List.setIfInBounds_toArray, List.set_cons_zero, List.set_cons_succ]
    refine take_at (i := 6) (v := ?_) rfl (by kernel_rfl) (by kernel_rfl) (by kernel_rfl) (fun _ _ _ h => h) (by kernel_rfl) (by assumption) ?_ ?_
    rotate_left
    · (intro w hSw; (try dsimp only at hSw); go_simp; try with_reducible rfl)
    simp only [Act.put, List.setIfInBounds_toArray, List.set_cons_zero, List.set_cons_succ]
    refine do_at (i := 7) rfl (by kernel_rfl) (by kernel_rfl) (fun K hK => ?_)
    go_wp2_with fail
    rw [← hwn]
    refine hK.out _ _ ?_ (fun hHeld => ?_)
    · trivial
    clear hK K
    try simp only [Act.put, List.setIfInBounds_toArray, List.set_cons_zero, List.set_cons_succ]
    refine wpAnyH_done (by kernel_rfl) ?_ _
    clear y1 y2 y3 y4 y5 y6 y7 y8 y9 yf hwn
    go_upto_region 26 with (fail)
    obtain ⟨q0, hq0⟩ : ∃ q0, q0 = simpleM a 23 := ⟨_, rfl⟩
    have HQ0 := Lib.hid (show AtAt wn w.heap.size q0 by rw [hq0, HSM.out]; exact HQ.out)
    have HQE := Lib.hid hq0
    clear hq0
    obtain ⟨wq, hwq⟩ : ∃ wq, wq = putA wn (w.heap.size + 1) q0 := ⟨_, rfl⟩
    have Z := Lib.hid (show AtAt wq (w.heap.size + 1) q0 by rw [hwq]; exact HZn.out.putA q0)
    have HBQ := Lib.hid (show Below w.heap.size w wq by rw [hwq]; exact HBn.out.trans ((putA_but wn (w.heap.size + 1) q0).below (C := w.heap.size) (by omega) HBn.out.size))
    simp only [putA, putC, Nat.zero_add, Nat.reduceAdd] at hwq
    obtain ⟨_, ⟨a1, a2, a3, a4, a5, a6, a7, a8, a9⟩, _⟩ := HQ0.out
    obtain ⟨_, ⟨z1, z2, z3, z4, z5, z6, z7, z8, z9⟩, zf⟩ := HZn.out
    dsimp only at z1 z2 z3 z4 z5 z6 z7 z8 z9
    go_wp2
    rw [← hwq]
    clear a1 a2 a3 a4 a5 a6 a7 a8 a9 z1 z2 z3 z4 z5 z6 z7 z8 z9 zf hwq
    obtain ⟨_, ⟨k1, k2, k3, k4, k5, k6, k7, k8, k9⟩, _⟩ := Z.out
    exact bodyPost_ret (v := attV q0) (by simp [results, Tryd.results32, go_sem, k1, k2, k3, k4, k5, k6, k7, k8, k9]) rfl ⟨by rw [HQE.out], HBQ.out⟩
  · go_simp
    refine (CG.out _).mono ?_
    rintro e u ⟨rfl, rfl⟩
    go_wp2_with fail
    refine hK.out _ _ ?_ (fun hHeld => ?_)
    · trivial
    clear hK K
    try simp only [Act.put, List.setIfInBounds_toArray, List.set_cons_zero, List.set_cons_succ]
    refine do_at (i := 1) rfl (by kernel_rfl) (by kernel_rfl) (fun K hK => ?_)
    go_wp2_with fail
    refine hK.out _ _ ?_ (fun hHeld => ?_)
    · trivial
    clear hK K
    try simp only [Act.put, List.setIfInBounds_toArray, List.set_cons_zero, List.set_cons_succ]
    refine take_at (i := 5) (v := ?_) rfl (by kernel_rfl) (by kernel_rfl) (by kernel_rfl) (fun _ _ _ h => h) (by kernel_rfl) (by assumption) ?_ ?_
    rotate_left
    · (intro w hSw; (try dsimp only at hSw); go_simp; try with_reducible rfl)
    simp only [Act.put, List.setIfInBounds_toArray, List.set_cons_zero, List.set_cons_succ]
    refine take_at (i := 6) (v := ?_) rfl (by kernel_rfl) (by kernel_rfl) (by kernel_rfl) (fun _ _ _ h => h) (by kernel_rfl) (by assumption) ?_ ?_
    rotate_left
    · (intro w hSw; (try dsimp only at hSw); go_simp; try with_reducible rfl)
    simp only [Act.put, List.setIfInBounds_toArray, List.set_cons_zero, List.set_cons_succ]
    refine do_at (i := 7) rfl (by kernel_rfl) (by kernel_rfl) (fun K hK => ?_)
    go_wp2_with fail
    rw [← hwn]
    refine hK.out _ _ ?_ (fun hHeld => ?_)
    · trivial
    clear hK K
    try simp only [Act.put, List.setIfInBounds_toArray, List.set_cons_zero, List.set_cons_succ]
    refine wpAnyH_done (by kernel_rfl) ?_ _
    clear y1 y2 y3 y4 y5 y6 y7 y8 y9 yf hwn
    go_upto_region 26 with (fail)
    obtain ⟨q0, hq0⟩ : ∃ q0, q0 = simpleM a 23 := ⟨_, rfl⟩
    have HQ0 := Lib.hid (show AtAt wn w.heap.size q0 by rw [hq0, HSM.out]; exact HQ.out)
    have HQE := Lib.hid hq0
    clear hq0
    obtain ⟨wq, hwq⟩ : ∃ wq, wq = putA wn (w.heap.size + 1) q0 := ⟨_, rfl⟩
    have Z := Lib.hid (show AtAt wq (w.heap.size + 1) q0 by rw [hwq]; exact HZn.out.putA q0)
    have HBQ := Lib.hid (show Below w.heap.size w wq by rw [hwq]; exact HBn.out.trans ((putA_but wn (w.heap.size + 1) q0).below (C := w.heap.size) (by omega) HBn.out.size))
    simp only [putA, putC, Nat.zero_add, Nat.reduceAdd] at hwq
    obtain ⟨_, ⟨a1, a2, a3, a4, a5, a6, a7, a8, a9⟩, _⟩ := HQ0.out
    obtain ⟨_, ⟨z1, z2, z3, z4, z5, z6, z7, z8, z9⟩, zf⟩ := HZn.out
    dsimp only at z1 z2 z3 z4 z5 z6 z7 z8 z9
    go_wp2
    rw [← hwq]
    clear a1 a2 a3 a4 a5 a6 a7 a8 a9 z1 z2 z3 z4 z5 z6 z7 z8 z9 zf hwq
    obtain ⟨_, ⟨k1, k2, k3, k4, k5, k6, k7, k8, k9⟩, _⟩ := Z.out
    exact bodyPost_ret (v := attV q0) (by simp [results, Tryd.results32, go_sem, k1, k2, k3, k4, k5, k6, k7, k8, k9]) rfl ⟨by rw [HQE.out], HBQ.out⟩
set_option maxHeartbeats 4000000 in
set_option maxRecDepth 100000 in
theorem rsim_25 (w : World) (a : At) (ha : a.fl < 65536) : Calls Tryd.prog 32 #[attV a, .int .i64 25] w (SimOut w (simpleM a 25)) := by
  have HSM := Lib.hid (show simpleM a 25 = ({ a with fl := a.fl &&& (65535 - 16) } : At) from by rw [sim_flagsC]; rfl)
  obtain ⟨w0, hw0⟩ : ∃ w0, w0 = (w.alloc (.cells #[.int .u8 a.fg.k, .int .u8 a.fg.r, .int .u8 a.fg.g, .int .u8 a.fg.b, .int .u8 a.bg.k, .int .u8 a.bg.r, .int .u8 a.bg.g, .int .u8 a.bg.b, .int .u16 (a.fl : Nat)] 26)).alloc (.cells #[.int .u8 0, .int .u8 0, .int .u8 0, .int .u8 0, .int .u8 0, .int .u8 0, .int .u8 0, .int .u8 0, .int .u16 0] 26) := ⟨_, rfl⟩
  have b0 : Below w.heap.size w w0 := by rw [hw0]; exact ((Below.refl _ _).alloc (Nat.le_refl _) _).alloc (by simp) _
  have HA := Lib.hid (show AtAt w0 w.heap.size a by rw [hw0]; exact (AtAt.newAt w _ rfl a _).past _)
  have HZ := Lib.hid (show AtAt w0 (w.heap.size + 1) At.zero by rw [hw0]; exact AtAt.newAt _ _ (by simp) At.zero _)
  have HB := Lib.hid b0
  clear b0
  have CF := Lib.hid (show ∀ W, Calls Tryd.prog 39 #[.int .i64 25] W fun e w' => e = .returned (.int .u16 0) ∧ W = w' from fun W => rflag_any 25 W)
  have CG := Lib.hid (show ∀ W, Calls Tryd.prog 39 #[.int .i64 5] W fun e w' => e = .returned (.int .u16 16) ∧ W = w' from fun W => rflag_any 5 W)
  go_enter Tryd.func32, Tryd.ntmps32
  go_upto_block 0 with (fail)
  rw [← hw0]
  clear hw0
  have u1 : bits .andNot .u16 (a.fl : Int) 16 = ((a.fl &&& (65535 - 16) : Nat) : Int) := u16_andN a.fl 16 ha (by decide)
  obtain ⟨g, hg⟩ : ∃ g, g = a.fl &&& (65535 - 16) := ⟨_, rfl⟩
  rw [← hg] at u1
  rw [← hg] at HSM
  clear hg
  go_wp2_with fail
  refine (CF.out _).mono ?_
  rintro e u ⟨rfl, rfl⟩
  go_upto_region 13 with (fail)
  refine wp_region_held_drew (S := fun _ => True) (by kernel_rfl) ?_ (fun hHeld => ?_)
  · trivial
  obtain ⟨u0, hu0⟩ : ∃ u0, u0 = w0.drew := ⟨_, rfl⟩
  rw [← hu0]
  have bd : Below w0.heap.size w0 u0 := by rw [hu0]; exact ⟨rfl, rfl, rfl, Nat.le_refl _, fun _ _ => rfl⟩
  replace HA := Lib.hid (HA.out.below bd)
  replace HZ := Lib.hid (HZ.out.below bd)
  replace HB := Lib.hid (HB.out.trans (bd.mono HB.out.size))
  clear bd hu0 hHeld
  have hHeld : (fun _ : World => True) u0 := trivial
  obtain ⟨wn, hwn⟩ : ∃ wn, wn = u0.setCell ⟨w.heap.size, 8, none⟩ (.int .u16 (g : Nat)) := ⟨_, rfl⟩
  have HQ := Lib.hid (show AtAt wn w.heap.size ({ a with fl := g } : At) by rw [hwn]; exact HA.out.putFl _)
  have HZn := Lib.hid (show AtAt wn (w.heap.size + 1) At.zero by rw [hwn]; exact HZ.out.butO (But.set u0 w.heap.size 8 _) (by omega))
  have HBn := Lib.hid (show Below w.heap.size w wn by rw [hwn]; exact HB.out.trans ((But.set u0 w.heap.size 8 _).below (C := w.heap.size) (Nat.le_refl _) HB.out.size))
  obtain ⟨_, ⟨y1, y2, y3, y4, y5, y6, y7, y8, y9⟩, yf⟩ := HA.out
  try dsimp only at y1 y2 y3 y4 y5 y6 y7 y8 y9
  refine take_at (i := 0) (v := ?_) rfl (by kernel_rfl) (by kernel_rfl) (by kernel_rfl) (fun _ _ _ h => h) (by kernel_rfl) (by assumption) ?_ ?_
  rotate_left
  · (intro w hSw; (try dsimp only at hSw); go_simp; try with_reducible rfl)
  simp only [Act.put, List.setIfInBounds_toArray, List.set_cons_zero, List.set_cons_succ]
  refine take_at (i := 2) (v := ?_) rfl (by kernel_rfl) (by kernel_rfl) (by kernel_rfl) (fun _ _ _ h => h) (by kernel_rfl) (by assumption) ?_ ?_
  rotate_left
  · (intro w hSw; (try dsimp only at hSw); go_simp; try with_reducible rfl)
  simp only [Act.put, List.setIfInBounds_toArray, List.set_cons_zero, List.set_cons_succ]
  refine take_at (i := 3) (v := ?_) rfl (by kernel_rfl) (by kernel_rfl) (by kernel_rfl) (fun _ _ _ h => h) (by kernel_rfl) (by assumption) ?_ ?_
  rotate_left
  · (intro w hSw; (try dsimp only at hSw); go_simp; try with_reducible rfl)
  simp only [Act.put, List.setIfInBounds_toArray, List.set_cons_zero, List.set_cons_succ]
  refine two_at (i := 1) (j := 4) rfl rfl (by kernel_rfl) (by kernel_rfl) (by kernel_rfl) (fun K hK => ?_) (fun K hK => ?_)
  · go_wp2_with fail
    refine hK.out _ _ ?_ (fun hHeld => ?_)
    · trivial
    clear hK K
    try simp only [Act.put, List.setIfInBounds_toArray, List.set_cons_zero, List.set_cons_succ]
    refine do_at (i := 4) rfl (by kernel_rfl) (by kernel_rfl) (fun K hK => ?_)
    go_simp
    refine (CG.out _).mono ?_
    rintro e u ⟨rfl, rfl⟩
    go_wp2_with fail
    refine hK.out _ _ ?_ (fun hHeld => ?_)
    · trivial
    clear hK K
    try simp only [Act.put, List.setIfInBounds_toArray, List.set_cons_zero, List.set_cons_succ]
    refine take_at (i := 5) (v := ?_) rfl (by kernel_rfl) (by kernel_rfl) (by kernel_rfl) (fun _ _ _ h => h) (by kernel_rfl) (by assumption) ?_ ?_
    rotate_left
    · (intro w hSw; (try dsimp only at hSw); go_simp; try with_reducible rfl)
    simp only [Act.put, List.setIfInBounds_toArray, List.set_cons_zero, List.set_cons_succ]
    refine take_at (i := 6) (v := ?_) rfl (by kernel_rfl) (by kernel_rfl) (by kernel_rfl) (fun _ _ _ h => h) (by kernel_rfl) (by assumption) ?_ ?_
    rotate_left
    · (intro w hSw; (try dsimp only at hSw); go_simp; try with_reducible rfl)
    simp only [Act.put, List.setIfInBounds_toArray, List.set_cons_zero, List.set_cons_succ]
    refine do_at (i := 7) rfl (by kernel_rfl) (by kernel_rfl) (fun K hK => ?_)
    go_wp2_with fail
    rw [← hwn]
    refine hK.out _ _ ?_ (fun hHeld => ?_)
    · trivial
    clear hK K
    try simp only [Act.put, List.setIfInBounds_toArray, List.set_cons_zero, List.set_cons_succ]
    refine wpAnyH_done (by kernel_rfl) ?_ _
    clear y1 y2 y3 y4 y5 y6 y7 y8 y9 yf hwn
    go_upto_region 26 with (fail)
    obtain ⟨q0, hq0⟩ : ∃ q0, q0 = simpleM a 25 := ⟨_, rfl⟩
    have HQ0 := Lib.hid (show AtAt wn w.heap.size q0 by rw [hq0, HSM.out]; exact HQ.out)
    have HQE := Lib.hid hq0
    clear hq0
    obtain ⟨wq, hwq⟩ : ∃ wq, wq = putA wn (w.heap.size + 1) q0 := ⟨_, rfl⟩
    have Z := Lib.hid (show AtAt wq (w.heap.size + 1) q0 by rw [hwq]; exact HZn.out.putA q0)
    have HBQ := Lib.hid (show Below w.heap.size w wq by rw [hwq]; exact HBn.out.trans ((putA_but wn (w.heap.size + 1) q0).below (C := w.heap.size) (by omega) HBn.out.size))
    simp only [putA, putC, Nat.zero_add, Nat.reduceAdd] at hwq
    obtain ⟨_, ⟨a1, a2, a3, a4, a5, a6, a7, a8, a9⟩, _⟩ := HQ0.out
    obtain ⟨_, ⟨z1, z2, z3, z4, z5, z6, z7, z8, z9⟩, zf⟩ := HZn.out
    dsimp only at z1 z2 z3 z4 z5 z6 z7 z8 z9
    go_wp2
    rw [← hwq]
    clear a1 a2 a3 a4 a5 a6 a7 a8 a9 z1 z2 z3 z4 z5 z6 z7 z8 z9 zf hwq
    obtain ⟨_, ⟨k1, k2, k3, k4, k5, k6, k7, k8, k9⟩, _⟩ := Z.out
    exact bodyPost_ret (v := attV q0) (by simp [results, Tryd.results32, go_sem, k1, k2, k3, k4, k5, k6, k7, k8, k9]) rfl ⟨by rw [HQE.out], HBQ.out⟩
  · go_simp
    refine (CG.out _).mono ?_
    rintro e u ⟨rfl, rfl⟩
    go_wp2_with fail
    refine hK.out _ _ ?_ (fun hHeld => ?_)
    · trivial
    clear hK K
    try simp only [Act.put, List.setIfInBounds_toArray, List.set_cons_zero, List.set_cons_succ]
    refine do_at (i := 1) rfl (by kernel_rfl) (by kernel_rfl) (fun K hK => ?_)
    go_wp2_with fail
    refine hK.out _ _ ?_ (fun hHeld => ?_)
    · trivial
    clear hK K
    try simp only [Act.put, List.setIfInBounds_toArray, List.set_cons_zero, List.set_cons_succ]
    refine take_at (i := 5) (v := ?_) rfl (by kernel_rfl) (by kernel_rfl) (by kernel_rfl) (fun _ _ _ h => h) (by kernel_rfl) (by assumption) ?_ ?_
    rotate_left
    · (intro w hSw; (try dsimp only at hSw); go_simp; try with_reducible rfl)
    simp only [Act.put, List.setIfInBounds_toArray, List.set_cons_zero, List.set_cons_succ]
    refine take_at (i := 6) (v := ?_) rfl (by kernel_rfl) (by kernel_rfl) (by kernel_rfl) (fun _ _ _ h => h) (by kernel_rfl) (by assumption) ?_ ?_
    rotate_left
    · (intro w hSw; (try dsimp only at hSw); go_simp; try with_reducible rfl)
    simp only [Act.put, List.setIfInBounds_toArray, List.set_cons_zero, List.set_cons_succ]
    refine do_at (i := 7) rfl (by kernel_rfl) (by kernel_rfl) (fun K hK => ?_)
    go_wp2_with fail
    rw [← hwn]
    refine hK.out _ _ ?_ (fun hHeld => ?_)
    · trivial
    clear hK K
    try simp only [Act.put, List.setIfInBounds_toArray, List.set_cons_zero, List.set_cons_succ]
    refine wpAnyH_done (by kernel_rfl) ?_ _
    clear y1 y2 y3 y4 y5 y6 y7 y8 y9 yf hwn
    go_upto_region 26 with (fail)
    obtain ⟨q0, hq0⟩ : ∃ q0, q0 = simpleM a 25 := ⟨_, rfl⟩
    have HQ0 := Lib.hid (show AtAt wn w.heap.size q0 by rw [hq0, HSM.out]; exact HQ.out)
    have HQE := Lib.hid hq0
    clear hq0
    obtain ⟨wq, hwq⟩ : ∃ wq, wq = putA wn (w.heap.size + 1) q0 := ⟨_, rfl⟩
    have Z := Lib.hid (show AtAt wq (w.heap.size + 1) q0 by rw [hwq]; exact HZn.out.putA q0)
    have HBQ := Lib.hid (show Below w.heap.size w wq by rw [hwq]; exact HBn.out.trans ((putA_but wn (w.heap.size + 1) q0).below (C := w.heap.size) (by omega) HBn.out.size))
    simp only [putA, putC, Nat.zero_add, Nat.reduceAdd] at hwq
    obtain ⟨_, ⟨a1, a2, a3, a4, a5, a6, a7, a8, a9⟩, _⟩ := HQ0.out
    obtain ⟨_, ⟨z1, z2, z3, z4, z5, z6, z7, z8, z9⟩, zf⟩ := HZn.out
    dsimp only at z1 z2 z3 z4 z5 z6 z7 z8 z9
    go_wp2
    rw [← hwq]
    clear a1 a2 a3 a4 a5 a6 a7 a8 a9 z1 z2 z3 z4 z5 z6 z7 z8 z9 zf hwq
    obtain ⟨_, ⟨k1, k2, k3, k4, k5, k6, k7, k8, k9⟩, _⟩ := Z.out
    exact bodyPost_ret (v := attV q0) (by simp [results, Tryd.results32, go_sem, k1, k2, k3, k4, k5, k6, k7, k8, k9]) rfl ⟨by rw [HQE.out], HBQ.out⟩
set_option maxHeartbeats 4000000 in
set_option maxRecDepth 100000 in
theorem rsim_27 (w : World) (a : At) (ha : a.fl < 65536) : Calls Tryd.prog 32 #[attV a, .int .i64 27] w (SimOut w (simpleM a 27)) := by
  have HSM := Lib.hid (show simpleM a 27 = ({ a with fl := a.fl &&& (65535 - 32) } : At) from by rw [sim_flagsC]; rfl)
  obtain ⟨w0, hw0⟩ : ∃ w0, w0 = (w.alloc (.cells #[.int .u8 a.fg.k, .int .u8 a.fg.r, .int .u8 a.fg.g, .int .u8 a.fg.b, .int .u8 a.bg.k, .int .u8 a.bg.r, .int .u8 a.bg.g, .int .u8 a.bg.b, .int .u16 (a.fl : Nat)] 26)).alloc (.cells #[.int .u8 0, .int .u8 0, .int .u8 0, .int .u8 0, .int .u8 0, .int .u8 0, .int .u8 0, .int .u8 0, .int .u16 0] 26) := ⟨_, rfl⟩
  have b0 : Below w.heap.size w w0 := by rw [hw0]; exact ((Below.refl _ _).alloc (Nat.le_refl _) _).alloc (by simp) _
  have HA := Lib.hid (show AtAt w0 w.heap.size a by rw [hw0]; exact (AtAt.newAt w _ rfl a _).past _)
  have HZ := Lib.hid (show AtAt w0 (w.heap.size + 1) At.zero by rw [hw0]; exact AtAt.newAt _ _ (by simp) At.zero _)
  have HB := Lib.hid b0
  clear b0
  have CF := Lib.hid (show ∀ W, Calls Tryd.prog 39 #[.int .i64 27] W fun e w' => e = .returned (.int .u16 0) ∧ W = w' from fun W => rflag_any 27 W)
  have CG := Lib.hid (show ∀ W, Calls Tryd.prog 39 #[.int .i64 7] W fun e w' => e = .returned (.int .u16 32) ∧ W = w' from fun W => rflag_any 7 W)
  go_enter Tryd.func32, Tryd.ntmps32
  go_upto_block 0 with (fail)
  rw [← hw0]
  clear hw0
  have u1 : bits .andNot .u16 (a.fl : Int) 32 = ((a.fl &&& (65535 - 32) : Nat) : Int) := u16_andN a.fl 32 ha (by decide)
  obtain ⟨g, hg⟩ : ∃ g, g = a.fl &&& (65535 - 32) := ⟨_, rfl⟩
  rw [← hg] at u1
  rw [← hg] at HSM
  clear hg
  go_wp2_with fail
  refine (CF.out _).mono ?_
  rintro e u ⟨rfl, rfl⟩
  go_upto_region 13 with (fail)
  refine wp_region_held_drew (S := fun _ => True) (by kernel_rfl) ?_ (fun hHeld => ?_)
  · trivial
  obtain ⟨u0, hu0⟩ : ∃ u0, u0 = w0.drew := ⟨_, rfl⟩
  rw [← hu0]
  have bd : Below w0.heap.size w0 u0 := by rw [hu0]; exact ⟨rfl, rfl, rfl, Nat.le_refl _, fun _ _ => rfl⟩
  replace HA := Lib.hid (HA.out.below bd)
  replace HZ := Lib.hid (HZ.out.below bd)
  replace HB := Lib.hid (HB.out.trans (bd.mono HB.out.size))
  clear bd hu0 hHeld
  have hHeld : (fun _ : World => True) u0 := trivial
  obtain ⟨wn, hwn⟩ : ∃ wn, wn = u0.setCell ⟨w.heap.size, 8, none⟩ (.int .u16 (g : Nat)) := ⟨_, rfl⟩
  have HQ := Lib.hid (show AtAt wn w.heap.size ({ a with fl := g } : At) by rw [hwn]; exact HA.out.putFl _)
  have HZn := Lib.hid (show AtAt wn (w.heap.size + 1) At.zero by rw [hwn]; exact HZ.out.butO (But.set u0 w.heap.size 8 _) (by omega))
  have HBn := Lib.hid (show Below w.heap.size w wn by rw [hwn]; exact HB.out.trans ((But.set u0 w.heap.size 8 _).below (C := w.heap.size) (Nat.le_refl _) HB.out.size))
  obtain ⟨_, ⟨y1, y2, y3, y4, y5, y6, y7, y8, y9⟩, yf⟩ := HA.out
  try dsimp only at y1 y2 y3 y4 y5 y6 y7 y8 y9
  refine take_at (i := 0) (v := ?_) rfl (by kernel_rfl) (by kernel_rfl) (by kernel_rfl) (fun _ _ _ h => h) (by kernel_rfl) (by assumption) ?_ ?_
  rotate_left
  · (intro w hSw; (try dsimp only at hSw); go_simp; try with_reducible rfl)
  simp only [Act.put, List.setIfInBounds_toArray, List.set_cons_zero, List.set_cons_succ]
  refine take_at (i := 2) (v := ?_) rfl (by kernel_rfl) (by kernel_rfl) (by kernel_rfl) (fun _ _ _ h => h) (by kernel_rfl) (by assumption) ?_ ?_
  rotate_left
  · (intro w hSw; (try dsimp only at hSw); go_simp; try with_reducible rfl)
  simp only [Act.put, List.setIfInBounds_toArray, List.set_cons_zero, List.set_cons_succ]
  refine take_at (i := 3) (v := ?_) rfl (by kernel_rfl) (by kernel_rfl) (by kernel_rfl) (fun _ _ _ h => h) (by kernel_rfl) (by assumption) ?_ ?_
  rotate_left
  · (intro w hSw; (try dsimp only at hSw); go_simp; try with_reducible rfl)
  simp only [Act.put, List.setIfInBounds_toArray, List.set_cons_zero, List.set_cons_succ]
  refine two_at (i := 1) (j := 4) rfl rfl (by kernel_rfl) (by kernel_rfl) (by kernel_rfl) (fun K hK => ?_) (fun K hK => ?_)
  · go_wp2_with fail
    refine hK.out _ _ ?_ (fun hHeld => ?_)
    · trivial
    clear hK K
    try simp only [Act.put, List.setIfInBounds_toArray, List.set_cons_zero, List.set_cons_succ]
    refine do_at (i := 4) rfl (by kernel_rfl) (by kernel_rfl) (fun K hK => ?_)
    go_simp
    refine (CG.out _).mono ?_
    rintro e u ⟨rfl, rfl⟩
    go_wp2_with fail
    refine hK.out _ _ ?_ (fun hHeld => ?_)
    · trivial
    clear hK K
    try simp only [Act.put, List.setIfInBounds_toArray, List.set_cons_zero, List.set_cons_succ]
    refine take_at (i := 5) (v := ?_) rfl (by kernel_rfl) (by kernel_rfl) (by kernel_rfl) (fun _ _ _ h => h) (by kernel_rfl) (by assumption) ?_ ?_
    rotate_left
    · (intro w hSw; (try dsimp only at hSw); go_simp; try with_reducible rfl)
    simp only [Act.put, List.setIfInBounds_toArray, List.set_cons_zero, List.set_cons_succ]
    refine take_at (i := 6) (v := ?_) rfl (by kernel_rfl) (by kernel_rfl) (by kernel_rfl) (fun _ _ _ h => h) (by kernel_rfl) (by assumption) ?_ ?_
    rotate_left
    · (intro w hSw; (try dsimp only at hSw); go_simp; try with_reducible rfl)
    simp only [Act.put, List.setIfInBounds_toArray, List.set_cons_zero, List.set_cons_succ]
    refine do_at (i := 7) rfl (by kernel_rfl) (by kernel_rfl) (fun K hK => ?_)
    go_wp2_with fail
    rw [← hwn]
    refine hK.out _ _ ?_ (fun hHeld => ?_)
    · trivial
    clear hK K
    try simp only [Act.put, List.setIfInBounds_toArray, List.set_cons_zero, List.set_cons_succ]
    refine wpAnyH_done (by kernel_rfl) ?_ _
    clear y1 y2 y3 y4 y5 y6 y7 y8 y9 yf hwn
    go_upto_region 26 with (fail)
    obtain ⟨q0, hq0⟩ : ∃ q0, q0 = simpleM a 27 := ⟨_, rfl⟩
    have HQ0 := Lib.hid (show AtAt wn w.heap.size q0 by rw [hq0, HSM.out]; exact HQ.out)
    have HQE := Lib.hid hq0
    clear hq0
    obtain ⟨wq, hwq⟩ : ∃ wq, wq = putA wn (w.heap.size + 1) q0 := ⟨_, rfl⟩
    have Z := Lib.hid (show AtAt wq (w.heap.size + 1) q0 by rw [hwq]; exact HZn.out.putA q0)
    have HBQ := Lib.hid (show Below w.heap.size w wq by rw [hwq]; exact HBn.out.trans ((putA_but wn (w.heap.size + 1) q0).below (C := w.heap.size) (by omega) HBn.out.size))
    simp only [putA, putC, Nat.zero_add, Nat.reduceAdd] at hwq
    obtain ⟨_, ⟨a1, a2, a3, a4, a5, a6, a7, a8, a9⟩, _⟩ := HQ0.out
    obtain ⟨_, ⟨z1, z2, z3, z4, z5, z6, z7, z8, z9⟩, zf⟩ := HZn.out
    dsimp only at z1 z2 z3 z4 z5 z6 z7 z8 z9
    go_wp2
    rw [← hwq]
    clear a1 a2 a3 a4 a5 a6 a7 a8 a9 z1 z2 z3 z4 z5 z6 z7 z8 z9 zf hwq
    obtain ⟨_, ⟨k1, k2, k3, k4, k5, k6, k7, k8, k9⟩, _⟩ := Z.out
    exact bodyPost_ret (v := attV q0) (by simp [results, Tryd.results32, go_sem, k1, k2, k3, k4, k5, k6, k7, k8, k9]) rfl ⟨by rw [HQE.out], HBQ.out⟩
  · go_simp
    refine (CG.out _).mono ?_
    rintro e u ⟨rfl, rfl⟩
    go_wp2_with fail
    refine hK.out _ _ ?_ (fun hHeld => ?_)
    · trivial
    clear hK K
    try simp only [Act.put, List.setIfInBounds_toArray, List.set_cons_zero, List.set_cons_succ]
    refine do_at (i := 1) rfl (by kernel_rfl) (by kernel_rfl) (fun K hK => ?_)
    go_wp2_with fail
    refine hK.out _ _ ?_ (fun hHeld => ?_)
    · trivial
    clear hK K
    try simp only [Act.put, List.setIfInBounds_toArray, List.set_cons_zero, List.set_cons_succ]
    refine take_at (i := 5) (v := ?_) rfl (by kernel_rfl) (by kernel_rfl) (by kernel_rfl) (fun _ _ _ h => h) (by kernel_rfl) (by assumption) ?_ ?_
    rotate_left
    · (intro w hSw; (try dsimp only at hSw); go_simp; try with_reducible rfl)
    simp only [Act.put, List.setIfInBounds_toArray, List.set_cons_zero, List.set_cons_succ]
    refine take_at (i := 6) (v := ?_) rfl (by kernel_rfl) (by kernel_rfl) (by kernel_rfl) (fun _ _ _ h => h) (by kernel_rfl) (by assumption) ?_ ?_
    rotate_left
    · (intro w hSw; (try dsimp only at hSw); go_simp; try with_reducible rfl)
    simp only [Act.put, List.setIfInBounds_toArray, List.set_cons_zero, List.set_cons_succ]
    refine do_at (i := 7) rfl (by kernel_rfl) (by kernel_rfl) (fun K hK => ?_)
    go_wp2_with fail
    rw [← hwn]
    refine hK.out _ _ ?_ (fun hHeld => ?_)
    · trivial
    clear hK K
    try simp only [Act.put, List.setIfInBounds_toArray, List.set_cons_zero, List.set_cons_succ]
    refine wpAnyH_done (by kernel_rfl) ?_ _
    clear y1 y2 y3 y4 y5 y6 y7 y8 y9 yf hwn
    go_upto_region 26 with (fail)
    obtain ⟨q0, hq0⟩ : ∃ q0, q0 = simpleM a 27 := ⟨_, rfl⟩
    have HQ0 := Lib.hid (show AtAt wn w.heap.size q0 by rw [hq0, HSM.out]; exact HQ.out)
    have HQE := Lib.hid hq0
    clear hq0
    obtain ⟨wq, hwq⟩ : ∃ wq, wq = putA wn (w.heap.size + 1) q0 := ⟨_, rfl⟩
    have Z := Lib.hid (show AtAt wq (w.heap.size + 1) q0 by rw [hwq]; exact HZn.out.putA q0)
    have HBQ := Lib.hid (show Below w.heap.size w wq by rw [hwq]; exact HBn.out.trans ((putA_but wn (w.heap.size + 1) q0).below (C := w.heap.size) (by omega) HBn.out.size))
    simp only [putA, putC, Nat.zero_add, Nat.reduceAdd] at hwq
    obtain ⟨_, ⟨a1, a2, a3, a4, a5, a6, a7, a8, a9⟩, _⟩ := HQ0.out
    obtain ⟨_, ⟨z1, z2, z3, z4, z5, z6, z7, z8, z9⟩, zf⟩ := HZn.out
    dsimp only at z1 z2 z3 z4 z5 z6 z7 z8 z9
    go_wp2
    rw [← hwq]
    clear a1 a2 a3 a4 a5 a6 a7 a8 a9 z1 z2 z3 z4 z5 z6 z7 z8 z9 zf hwq
    obtain ⟨_, ⟨k1, k2, k3, k4, k5, k6, k7, k8, k9⟩, _⟩ := Z.out
    exact bodyPost_ret (v := attV q0) (by simp [results, Tryd.results32, go_sem, k1, k2, k3, k4, k5, k6, k7, k8, k9]) rfl ⟨by rw [HQE.out], HBQ.out⟩
set_option maxHeartbeats 4000000 in
set_option maxRecDepth 100000 in
theorem rsim_28 (w : World) (a : At) (ha : a.fl < 65536) : Calls Tryd.prog 32 #[attV a, .int .i64 28] w (SimOut w (simpleM a 28)) := by
  have HSM := Lib.hid (show simpleM a 28 = ({ a with fl := a.fl &&& (65535 - 64) } : At) from by rw [sim_flagsC]; rfl)
  obtain ⟨w0, hw0⟩ : ∃ w0, w0 = (w.alloc (.cells #[.int .u8 a.fg.k, .int .u8 a.fg.r, .int .u8 a.fg.g, .int .u8 a.fg.b, .int .u8 a.bg.k, .int .u8 a.bg.r, .int .u8 a.bg.g, .int .u8 a.bg.b, .int .u16 (a.fl : Nat)] 26)).alloc (.cells #[.int .u8 0, .int .u8 0, .int .u8 0, .int .u8 0, .int .u8 0, .int .u8 0, .int .u8 0, .int .u8 0, .int .u16 0] 26) := ⟨_, rfl⟩
  have b0 : Below w.heap.size w w0 := by rw [hw0]; exact ((Below.refl _ _).alloc (Nat.le_refl _) _).alloc (by simp) _
  have HA := Lib.hid (show AtAt w0 w.heap.size a by rw [hw0]; exact (AtAt.newAt w _ rfl a _).past _)
  have HZ := Lib.hid (show AtAt w0 (w.heap.size + 1) At.zero by rw [hw0]; exact AtAt.newAt _ _ (by simp) At.zero _)
  have HB := Lib.hid b0
  clear b0
  have CF := Lib.hid (show ∀ W, Calls Tryd.prog 39 #[.int .i64 28] W fun e w' => e = .returned (.int .u16 0) ∧ W = w' from fun W => rflag_any 28 W)
  have CG := Lib.hid (show ∀ W, Calls Tryd.prog 39 #[.int .i64 8] W fun e w' => e = .returned (.int .u16 64) ∧ W = w' from fun W => rflag_any 8 W)
  go_enter Tryd.func32, Tryd.ntmps32
  go_upto_block 0 with (fail)
  rw [← hw0]
  clear hw0
  have u1 : bits .andNot .u16 (a.fl : Int) 64 = ((a.fl &&& (65535 - 64) : Nat) : Int) := u16_andN a.fl 64 ha (by decide)
  obtain ⟨g, hg⟩ : ∃ g, g = a.fl &&& (65535 - 64) := ⟨_, rfl⟩
  rw [← hg] at u1
  rw [← hg] at HSM
  clear hg
  go_wp2_with fail
  refine (CF.out _).mono ?_
  rintro e u ⟨rfl, rfl⟩
  go_upto_region 13 with (fail)
  refine wp_region_held_drew (S := fun _ => True) (by kernel_rfl) ?_ (fun hHeld => ?_)
  · trivial
  obtain ⟨u0, hu0⟩ : ∃ u0, u0 = w0.drew := ⟨_, rfl⟩
  rw [← hu0]
  have bd : Below w0.heap.size w0 u0 := by rw [hu0]; exact ⟨rfl, rfl, rfl, Nat.le_refl _, fun _ _ => rfl⟩
  replace HA := Lib.hid (HA.out.below bd)
  replace HZ := Lib.hid (HZ.out.below bd)
  replace HB := Lib.hid (HB.out.trans (bd.mono HB.out.size))
  clear bd hu0 hHeld
  have hHeld : (fun _ : World => True) u0 := trivial
  obtain ⟨wn, hwn⟩ : ∃ wn, wn = u0.setCell ⟨w.heap.size, 8, none⟩ (.int .u16 (g : Nat)) := ⟨_, rfl⟩
  have HQ := Lib.hid (show AtAt wn w.heap.size ({ a with fl := g } : At) by rw [hwn]; exact HA.out.putFl _)
  have HZn := Lib.hid (show AtAt wn (w.heap.size + 1) At.zero by rw [hwn]; exact HZ.out.butO (But.set u0 w.heap.size 8 _) (by omega))
  have HBn := Lib.hid (show Below w.heap.size w wn by rw [hwn]; exact HB.out.trans ((But.set u0 w.heap.size 8 _).below (C := w.heap.size) (Nat.le_refl _) HB.out.size))
  obtain ⟨_, ⟨y1, y2, y3, y4, y5, y6, y7, y8, y9⟩, yf⟩ := HA.out
  try dsimp only at y1 y2 y3 y4 y5 y6 y7 y8 y9
  refine take_at (i := 0) (v := ?_) rfl (by kernel_rfl) (by kernel_rfl) (by kernel_rfl) (fun _ _ _ h => h) (by kernel_rfl) (by assumption) ?_ ?_
  rotate_left
  · (intro w hSw; (try dsimp only at hSw); go_simp; try with_reducible rfl)
  simp only [Act.put, List.setIfInBounds_toArray, List.set_cons_zero, List.set_cons_succ]
  refine take_at (i := 2) (v := ?_) rfl (by kernel_rfl) (by kernel_rfl) (by kernel_rfl) (fun _ _ _ h => h) (by kernel_rfl) (by assumption) ?_ ?_
  rotate_left
  · (intro w hSw; (try dsimp only at hSw); go_simp; try with_reducible rfl)
  simp only [Act.put, List.setIfInBounds_toArray, List.set_cons_zero, List.set_cons_succ]
  refine take_at (i := 3) (v := ?_) rfl (by kernel_rfl) (by kernel_rfl) (by kernel_rfl) (fun _ _ _ h => h) (by kernel_rfl) (by assumption) ?_ ?_
  rotate_left
  · (intro w hSw; (try dsimp only at hSw); go_simp; try with_reducible rfl)
  simp only [Act.put, List.setIfInBounds_toArray, List.set_cons_zero, List.set_cons_succ]
  refine two_at (i := 1) (j := 4) rfl rfl (by kernel_rfl) (by kernel_rfl) (by kernel_rfl) (fun K hK => ?_) (fun K hK => ?_)
  · go_wp2_with fail
    refine hK.out _ _ ?_ (fun hHeld => ?_)
    · trivial
    clear hK K
    try simp only [Act.put, List.setIfInBounds_toArray, List.set_cons_zero, List.set_cons_succ]
    refine do_at (i := 4) rfl (by kernel_rfl) (by kernel_rfl) (fun K hK => ?_)
    go_simp
    refine (CG.out _).mono ?_
    rintro e u ⟨rfl, rfl⟩
    go_wp2_with fail
    refine hK.out _ _ ?_ (fun hHeld => ?_)
    · trivial
    clear hK K
    try simp only [Act.put, List.setIfInBounds_toArray, List.set_cons_zero, List.set_cons_succ]
    refine take_at (i := 5) (v := ?_) rfl (by kernel_rfl) (by kernel_rfl) (by kernel_rfl) (fun _ _ _ h => h) (by kernel_rfl) (by assumption) ?_ ?_
    rotate_left
    · (intro w hSw; (try dsimp only at hSw); go_simp; try with_reducible rfl)
    simp only [Act.put, List.setIfInBounds_toArray, List.set_cons_zero, List.set_cons_succ]
    refine take_at (i := 6) (v := ?_) rfl (by kernel_rfl) (by kernel_rfl) (by kernel_rfl) (fun _ _ _ h => h) (by kernel_rfl) (by assumption) ?_ ?_
    rotate_left
    · (intro w hSw; (try dsimp only at hSw); go_simp; try with_reducible rfl)
    simp only [Act.put, List.setIfInBounds_toArray, List.set_cons_zero, List.set_cons_succ]
    refine do_at (i := 7) rfl (by kernel_rfl) (by kernel_rfl) (fun K hK => ?_)
    go_wp2_with fail
    rw [← hwn]
    refine hK.out _ _ ?_ (fun hHeld => ?_)
    · trivial
    clear hK K
    try simp only [Act.put, List.setIfInBounds_toArray, List.set_cons_zero, List.set_cons_succ]
    refine wpAnyH_done (by kernel_rfl) ?_ _
    clear y1 y2 y3 y4 y5 y6 y7 y8 y9 yf hwn
    go_upto_region 26 with (fail)
    obtain ⟨q0, hq0⟩ : ∃ q0, q0 = simpleM a 28 := ⟨_, rfl⟩
    have HQ0 := Lib.hid (show AtAt wn w.heap.size q0 by rw [hq0, HSM.out]; exact HQ.out)
    have HQE := Lib.hid hq0
    clear hq0
    obtain ⟨wq, hwq⟩ : ∃ wq, wq = putA wn (w.heap.size + 1) q0 := ⟨_, rfl⟩
    have Z := Lib.hid (show AtAt wq (w.heap.size + 1) q0 by rw [hwq]; exact HZn.out.putA q0)
    have HBQ := Lib.hid (show Below w.heap.size w wq by rw [hwq]; exact HBn.out.trans ((putA_but wn (w.heap.size + 1) q0).below (C := w.heap.size) (by omega) HBn.out.size))
    simp only [putA, putC, Nat.zero_add, Nat.reduceAdd] at hwq
    obtain ⟨_, ⟨a1, a2, a3, a4, a5, a6, a7, a8, a9⟩, _⟩ := HQ0.out
    obtain ⟨_, ⟨z1, z2, z3, z4, z5, z6, z7, z8, z9⟩, zf⟩ := HZn.out
    dsimp only at z1 z2 z3 z4 z5 z6 z7 z8 z9
    go_wp2
    rw [← hwq]
    clear a1 a2 a3 a4 a5 a6 a7 a8 a9 z1 z2 z3 z4 z5 z6 z7 z8 z9 zf hwq
    obtain ⟨_, ⟨k1, k2, k3, k4, k5, k6, k7, k8, k9⟩, _⟩ := Z.out
    exact bodyPost_ret (v := attV q0) (by simp [results, Tryd.results32, go_sem, k1, k2, k3, k4, k5, k6, k7, k8, k9]) rfl ⟨by rw [HQE.out], HBQ.out⟩
  · go_simp
    refine (CG.out _).mono ?_
    rintro e u ⟨rfl, rfl⟩
    go_wp2_with fail
    refine hK.out _ _ ?_ (fun hHeld => ?_)
    · trivial
    clear hK K
    try simp only [Act.put, List.setIfInBounds_toArray, List.set_cons_zero, List.set_cons_succ]
    refine do_at (i := 1) rfl (by kernel_rfl) (by kernel_rfl) (fun K hK => ?_)
    go_wp2_with fail
    refine hK.out _ _ ?_ (fun hHeld => ?_)
    · trivial
    clear hK K
    try simp only [Act.put, List.setIfInBounds_toArray, List.set_cons_zero, List.set_cons_succ]
    refine take_at (i := 5) (v := ?_) rfl (by kernel_rfl) (by kernel_rfl) (by kernel_rfl) (fun _ _ _ h => h) (by kernel_rfl) (by assumption) ?_ ?_
    rotate_left
    · (intro w hSw; (try dsimp only at hSw); go_simp; try with_reducible rfl)
    simp only [Act.put, List.setIfInBounds_toArray, List.set_cons_zero, List.set_cons_succ]
    refine take_at (i := 6) (v := ?_) rfl (by kernel_rfl) (by kernel_rfl) (by kernel_rfl) (fun _ _ _ h => h) (by kernel_rfl) (by assumption) ?_ ?_
    rotate_left
    · (intro w hSw; (try dsimp only at hSw); go_simp; try with_reducible rfl)
    simp only [Act.put, List.setIfInBounds_toArray, List.set_cons_zero, List.set_cons_succ]
    refine do_at (i := 7) rfl (by kernel_rfl) (by kernel_rfl) (fun K hK => ?_)
    go_wp2_with fail
    rw [← hwn]
    refine hK.out _ _ ?_ (fun hHeld => ?_)
    · trivial
    clear hK K
    try simp only [Act.put, List.setIfInBounds_toArray, List.set_cons_zero, List.set_cons_succ]
    refine wpAnyH_done (by kernel_rfl) ?_ _
    clear y1 y2 y3 y4 y5 y6 y7 y8 y9 yf hwn
    go_upto_region 26 with (fail)
    obtain ⟨q0, hq0⟩ : ∃ q0, q0 = simpleM a 28 := ⟨_, rfl⟩
    have HQ0 := Lib.hid (show AtAt wn w.heap.size q0 by rw [hq0, HSM.out]; exact HQ.out)
    have HQE := Lib.hid hq0
    clear hq0
    obtain ⟨wq, hwq⟩ : ∃ wq, wq = putA wn (w.heap.size + 1) q0 := ⟨_, rfl⟩
    have Z := Lib.hid (show AtAt wq (w.heap.size + 1) q0 by rw [hwq]; exact HZn.out.putA q0)
    have HBQ := Lib.hid (show Below w.heap.size w wq by rw [hwq]; exact HBn.out.trans ((putA_but wn (w.heap.size + 1) q0).below (C := w.heap.size) (by omega) HBn.out.size))
    simp only [putA, putC, Nat.zero_add, Nat.reduceAdd] at hwq
    obtain ⟨_, ⟨a1, a2, a3, a4, a5, a6, a7, a8, a9⟩, _⟩ := HQ0.out
    obtain ⟨_, ⟨z1, z2, z3, z4, z5, z6, z7, z8, z9⟩, zf⟩ := HZn.out
    dsimp only at z1 z2 z3 z4 z5 z6 z7 z8 z9
    go_wp2
    rw [← hwq]
    clear a1 a2 a3 a4 a5 a6 a7 a8 a9 z1 z2 z3 z4 z5 z6 z7 z8 z9 zf hwq
    obtain ⟨_, ⟨k1, k2, k3, k4, k5, k6, k7, k8, k9⟩, _⟩ := Z.out
    exact bodyPost_ret (v := attV q0) (by simp [results, Tryd.results32, go_sem, k1, k2, k3, k4, k5, k6, k7, k8, k9]) rfl ⟨by rw [HQE.out], HBQ.out⟩
set_option maxHeartbeats 4000000 in
set_option maxRecDepth 100000 in
theorem rsim_29 (w : World) (a : At) (ha : a.fl < 65536) : Calls Tryd.prog 32 #[attV a, .int .i64 29] w (SimOut w (simpleM a 29)) := by
  have HSM := Lib.hid (show simpleM a 29 = ({ a with fl := a.fl &&& (65535 - 128) } : At) from by rw [sim_flagsC]; rfl)
  obtain ⟨w0, hw0⟩ : ∃ w0, w0 = (w.alloc (.cells #[.int .u8 a.fg.k, .int .u8 a.fg.r, .int .u8 a.fg.g, .int .u8 a.fg.b, .int .u8 a.bg.k, .int .u8 a.bg.r, .int .u8 a.bg.g, .int .u8 a.bg.b, .int .u16 (a.fl : Nat)] 26)).alloc (.cells #[.int .u8 0, .int .u8 0, .int .u8 0, .int .u8 0, .int .u8 0, .int .u8 0, .int .u8 0, .int .u8 0, .int .u16 0] 26) := ⟨_, rfl⟩
  have b0 : Below w.heap.size w w0 := by rw [hw0]; exact ((Below.refl _ _).alloc (Nat.le_refl _) _).alloc (by simp) _
  have HA := Lib.hid (show AtAt w0 w.heap.size a by rw [hw0]; exact (AtAt.newAt w _ rfl a _).past _)
  have HZ := Lib.hid (show AtAt w0 (w.heap.size + 1) At.zero by rw [hw0]; exact AtAt.newAt _ _ (by simp) At.zero _)
  have HB := Lib.hid b0
  clear b0
  have CF := Lib.hid (show ∀ W, Calls Tryd.prog 39 #[.int .i64 29] W fun e w' => e = .returned (.int .u16 0) ∧ W = w' from fun W => rflag_any 29 W)
  have CG := Lib.hid (show ∀ W, Calls Tryd.prog 39 #[.int .i64 9] W fun e w' => e = .returned (.int .u16 128) ∧ W = w' from fun W => rflag_any 9 W)
  go_enter Tryd.func32, Tryd.ntmps32
  go_upto_block 0 with (fail)
  rw [← hw0]
  clear hw0
  have u1 : bits .andNot .u16 (a.fl : Int) 128 = ((a.fl &&& (65535 - 128) : Nat) : Int) := u16_andN a.fl 128 ha (by decide)
  obtain ⟨g, hg⟩ : ∃ g, g = a.fl &&& (65535 - 128) := ⟨_, rfl⟩
  rw [← hg] at u1
  rw [← hg] at HSM
  clear hg
  go_wp2_with fail
  refine (CF.out _).mono ?_
  rintro e u ⟨rfl, rfl⟩
  go_upto_region 13 with (fail)
  refine wp_region_held_drew (S := fun _ => True) (by kernel_rfl) ?_ (fun hHeld => ?_)
  · trivial
  obtain ⟨u0, hu0⟩ : ∃ u0, u0 = w0.drew := ⟨_, rfl⟩
  rw [← hu0]
  have bd : Below w0.heap.size w0 u0 := by rw [hu0]; exact ⟨rfl, rfl, rfl, Nat.le_refl _, fun _ _ => rfl⟩
  replace HA := Lib.hid (HA.out.below bd)
  replace HZ := Lib.hid (HZ.out.below bd)
  replace HB := Lib.hid (HB.out.trans (bd.mono HB.out.size))
  clear bd hu0 hHeld
  have hHeld : (fun _ : World => True) u0 := trivial
  obtain ⟨wn, hwn⟩ : ∃ wn, wn = u0.setCell ⟨w.heap.size, 8, none⟩ (.int .u16 (g : Nat)) := ⟨_, rfl⟩
  have HQ := Lib.hid (show AtAt wn w.heap.size ({ a with fl := g } : At) by rw [hwn]; exact HA.out.putFl _)
  have HZn := Lib.hid (show AtAt wn (w.heap.size + 1) At.zero by rw [hwn]; exact HZ.out.butO (But.set u0 w.heap.size 8 _) (by omega))
  have HBn := Lib.hid (show Below w.heap.size w wn by rw [hwn]; exact HB.out.trans ((But.set u0 w.heap.size 8 _).below (C := w.heap.size) (Nat.le_refl _) HB.out.size))
  obtain ⟨_, ⟨y1, y2, y3, y4, y5, y6, y7, y8, y9⟩, yf⟩ := HA.out
  try dsimp only at y1 y2 y3 y4 y5 y6 y7 y8 y9
  refine take_at (i := 0) (v := ?_) rfl (by kernel_rfl) (by kernel_rfl) (by kernel_rfl) (fun _ _ _ h => h) (by kernel_rfl) (by assumption) ?_ ?_
  rotate_left
  · (intro w hSw; (try dsimp only at hSw); go_simp; try with_reducible rfl)
  simp only [Act.put, List.setIfInBounds_toArray, List.set_cons_zero, List.set_cons_succ]
  refine take_at (i := 2) (v := ?_) rfl (by kernel_rfl) (by kernel_rfl) (by kernel_rfl) (fun _ _ _ h => h) (by kernel_rfl) (by assumption) ?_ ?_
  rotate_left
  · (intro w hSw; (try dsimp only at hSw); go_simp; try with_reducible rfl)
  simp only [Act.put, List.setIfInBounds_toArray, List.set_cons_zero, List.set_cons_succ]
  refine take_at (i := 3) (v := ?_) rfl (by kernel_rfl) (by kernel_rfl) (by kernel_rfl) (fun _ _ _ h => h) (by kernel_rfl) (by assumption) ?_ ?_
  rotate_left
  · (intro w hSw; (try dsimp only at hSw); go_simp; try with_reducible rfl)
  simp only [Act.put, List.setIfInBounds_toArray, List.set_cons_zero, List.set_cons_succ]
  refine two_at (i := 1) (j := 4) rfl rfl (by kernel_rfl) (by kernel_rfl) (by kernel_rfl) (fun K hK => ?_) (fun K hK => ?_)
  · go_wp2_with fail
    refine hK.out _ _ ?_ (fun hHeld => ?_)
    · trivial
    clear hK K
    try simp only [Act.put, List.setIfInBounds_toArray, List.set_cons_zero, List.set_cons_succ]
    refine do_at (i := 4) rfl (by kernel_rfl) (by kernel_rfl) (fun K hK => ?_)
    go_simp
    refine (CG.out _).mono ?_
    rintro e u ⟨rfl, rfl⟩
    go_wp2_with fail
    refine hK.out _ _ ?_ (fun hHeld => ?_)
    · trivial
    clear hK K
    try simp only [Act.put, List.setIfInBounds_toArray, List.set_cons_zero, List.set_cons_succ]
    refine take_at (i := 5) (v := ?_) rfl (by kernel_rfl) (by kernel_rfl) (by kernel_rfl) (fun _ _ _ h => h) (by kernel_rfl) (by assumption) ?_ ?_
    rotate_left
    · (intro w hSw; (try dsimp only at hSw); go_simp; try with_reducible rfl)
    simp only [Act.put, List.setIfInBounds_toArray, List.set_cons_zero, List.set_cons_succ]
    refine take_at (i := 6) (v := ?_) rfl (by kernel_rfl) (by kernel_rfl) (by kernel_rfl) (fun _ _ _ h => h) (by kernel_rfl) (by assumption) ?_ ?_
    rotate_left
    · (intro w hSw; (try dsimp only at hSw); go_simp; try with_reducible rfl)
    simp only [Act.put, List.setIfInBounds_toArray, List.set_cons_zero, List.set_cons_succ]
    refine do_at (i := 7) rfl (by kernel_rfl) (by kernel_rfl) (fun K hK => ?_)
    go_wp2_with fail
    rw [← hwn]
    refine hK.out _ _ ?_ (fun hHeld => ?_)
    · trivial
    clear hK K
    try simp only [Act.put, List.setIfInBounds_toArray, List.set_cons_zero, List.set_cons_succ]
    refine wpAnyH_done (by kernel_rfl) ?_ _
    clear y1 y2 y3 y4 y5 y6 y7 y8 y9 yf hwn
    go_upto_region 26 with (fail)
    obtain ⟨q0, hq0⟩ : ∃ q0, q0 = simpleM a 29 := ⟨_, rfl⟩
    have HQ0 := Lib.hid (show AtAt wn w.heap.size q0 by rw [hq0, HSM.out]; exact HQ.out)
    have HQE := Lib.hid hq0
    clear hq0
    obtain ⟨wq, hwq⟩ : ∃ wq, wq = putA wn (w.heap.size + 1) q0 := ⟨_, rfl⟩
    have Z := Lib.hid (show AtAt wq (w.heap.size + 1) q0 by rw [hwq]; exact HZn.out.putA q0)
    have HBQ := Lib.hid (show Below w.heap.size w wq by rw [hwq]; exact HBn.out.trans ((putA_but wn (w.heap.size + 1) q0).below (C := w.heap.size) (by omega) HBn.out.size))
    simp only [putA, putC, Nat.zero_add, Nat.reduceAdd] at hwq
    obtain ⟨_, ⟨a1, a2, a3, a4, a5, a6, a7, a8, a9⟩, _⟩ := HQ0.out
    obtain ⟨_, ⟨z1, z2, z3, z4, z5, z6, z7, z8, z9⟩, zf⟩ := HZn.out
    dsimp only at z1 z2 z3 z4 z5 z6 z7 z8 z9
    go_wp2
    rw [← hwq]
    clear a1 a2 a3 a4 a5 a6 a7 a8 a9 z1 z2 z3 z4 z5 z6 z7 z8 z9 zf hwq
    obtain ⟨_, ⟨k1, k2, k3, k4, k5, k6, k7, k8, k9⟩, _⟩ := Z.out
    exact bodyPost_ret (v := attV q0) (by simp [results, Tryd.results32, go_sem, k1, k2, k3, k4, k5, k6, k7, k8, k9]) rfl ⟨by rw [HQE.out], HBQ.out⟩
  · go_simp
    refine (CG.out _).mono ?_
    rintro e u ⟨rfl, rfl⟩
    go_wp2_with fail
    refine hK.out _ _ ?_ (fun hHeld => ?_)
    · trivial
    clear hK K
    try simp only [Act.put, List.setIfInBounds_toArray, List.set_cons_zero, List.set_cons_succ]
    refine do_at (i := 1) rfl (by kernel_rfl) (by kernel_rfl) (fun K hK => ?_)
    go_wp2_with fail
    refine hK.out _ _ ?_ (fun hHeld => ?_)
    · trivial
    clear hK K
    try simp only [Act.put, List.setIfInBounds_toArray, List.set_cons_zero, List.set_cons_succ]
    refine take_at (i := 5) (v := ?_) rfl (by kernel_rfl) (by kernel_rfl) (by kernel_rfl) (fun _ _ _ h => h) (by kernel_rfl) (by assumption) ?_ ?_
    rotate_left
    · (intro w hSw; (try dsimp only at hSw); go_simp; try with_reducible rfl)
    simp only [Act.put, List.setIfInBounds_toArray, List.set_cons_zero, List.set_cons_succ]
    refine take_at (i := 6) (v := ?_) rfl (by kernel_rfl) (by kernel_rfl) (by kernel_rfl) (fun _ _ _ h => h) (by kernel_rfl) (by assumption) ?_ ?_
    rotate_left
    · (intro w hSw; (try dsimp only at hSw); go_simp; try with_reducible rfl)
    simp only [Act.put, List.setIfInBounds_toArray, List.set_cons_zero, List.set_cons_succ]
    refine do_at (i := 7) rfl (by kernel_rfl) (by kernel_rfl) (fun K hK => ?_)
    go_wp2_with fail
    rw [← hwn]
    refine hK.out _ _ ?_ (fun hHeld => ?_)
    · trivial
    clear hK K
    try simp only [Act.put, List.setIfInBounds_toArray, List.set_cons_zero, List.set_cons_succ]
    refine wpAnyH_done (by kernel_rfl) ?_ _
    clear y1 y2 y3 y4 y5 y6 y7 y8 y9 yf hwn
    go_upto_region 26 with (fail)
    obtain ⟨q0, hq0⟩ : ∃ q0, q0 = simpleM a 29 := ⟨_, rfl⟩
    have HQ0 := Lib.hid (show AtAt wn w.heap.size q0 by rw [hq0, HSM.out]; exact HQ.out)
    have HQE := Lib.hid hq0
    clear hq0
    obtain ⟨wq, hwq⟩ : ∃ wq, wq = putA wn (w.heap.size + 1) q0 := ⟨_, rfl⟩
    have Z := Lib.hid (show AtAt wq (w.heap.size + 1) q0 by rw [hwq]; exact HZn.out.putA q0)
    have HBQ := Lib.hid (show Below w.heap.size w wq by rw [hwq]; exact HBn.out.trans ((putA_but wn (w.heap.size + 1) q0).below (C := w.heap.size) (by omega) HBn.out.size))
    simp only [putA, putC, Nat.zero_add, Nat.reduceAdd] at hwq
    obtain ⟨_, ⟨a1, a2, a3, a4, a5, a6, a7, a8, a9⟩, _⟩ := HQ0.out
    obtain ⟨_, ⟨z1, z2, z3, z4, z5, z6, z7, z8, z9⟩, zf⟩ := HZn.out
    dsimp only at z1 z2 z3 z4 z5 z6 z7 z8 z9
    go_wp2
    rw [← hwq]
    clear a1 a2 a3 a4 a5 a6 a7 a8 a9 z1 z2 z3 z4 z5 z6 z7 z8 z9 zf hwq
    obtain ⟨_, ⟨k1, k2, k3, k4, k5, k6, k7, k8, k9⟩, _⟩ := Z.out
    exact bodyPost_ret (v := attV q0) (by simp [results, Tryd.results32, go_sem, k1, k2, k3, k4, k5, k6, k7, k8, k9]) rfl ⟨by rw [HQE.out], HBQ.out⟩

set_option maxHeartbeats 4000000 in
set_option maxRecDepth 100000 in
theorem rsim_R30 (w : World) (a : At) (n : Int) (hlo : 30 ≤ n) (hhi : n ≤ 37) : Calls Tryd.prog 32 #[attV a, .int .i64 n] w (SimOut w (simpleM a n)) := by
  have HSM := Lib.hid (show simpleM a n = ({ a with fg := ⟨1, n - 30, 0, 0⟩ } : At) from (by unfold simpleM; (iterate 17 rw [if_neg (by omega)]); rw [if_pos (by omega)]))
  obtain ⟨w0, hw0⟩ : ∃ w0, w0 = (w.alloc (.cells #[.int .u8 a.fg.k, .int .u8 a.fg.r, .int .u8 a.fg.g, .int .u8 a.fg.b, .int .u8 a.bg.k, .int .u8 a.bg.r, .int .u8 a.bg.g, .int .u8 a.bg.b, .int .u16 (a.fl : Nat)] 26)).alloc (.cells #[.int .u8 0, .int .u8 0, .int .u8 0, .int .u8 0, .int .u8 0, .int .u8 0, .int .u8 0, .int .u8 0, .int .u16 0] 26) := ⟨_, rfl⟩
  have b0 : Below w.heap.size w w0 := by rw [hw0]; exact ((Below.refl _ _).alloc (Nat.le_refl _) _).alloc (by simp) _
  have HA := Lib.hid (show AtAt w0 w.heap.size a by rw [hw0]; exact (AtAt.newAt w _ rfl a _).past _)
  have HZ := Lib.hid (show AtAt w0 (w.heap.size + 1) At.zero by rw [hw0]; exact AtAt.newAt _ _ (by simp) At.zero _)
  have HB := Lib.hid b0
  clear b0
  have CF := Lib.hid (show ∀ W, Calls Tryd.prog 39 #[.int .i64 n] W fun e w' => e = .returned (.int .u16 0) ∧ W = w' from fun W => by have := rflag_any n W; rw [show flagN n = 0 by unfold flagN; iterate 9 rw [if_neg (by omega)]] at this; exact this)
  have s1 : IntKind.i64.wrap (n - 30) = n - 30 := by rw [IntKind.wrap_i64]; omega
  have s2 : IntKind.u8.wrap (n - 30) = n - 30 := by rw [IntKind.wrap_u8]; omega
  have e0 : (n == 0) = false := by simp; omega
  have e4 : (n == 4) = false := by simp; omega
  have e21 : (n == 21) = false := by simp; omega
  have e22 : (n == 22) = false := by simp; omega
  have e24 : (n == 24) = false := by simp; omega
  have e23 : (n == 23) = false := by simp; omega
  have e25 : (n == 25) = false := by simp; omega
  have e39 : (n == 39) = false := by simp; omega
  have e49 : (n == 49) = false := by simp; omega
  have g27 : decide (27 ≤ n) = true := by simp; omega
  have g30 : decide (30 ≤ n) = true := by simp; omega
  have g90 : decide (90 ≤ n) = false := by simp; omega
  have g40 : decide (40 ≤ n) = false := by simp; omega
  have g100 : decide (100 ≤ n) = false := by simp; omega
  have l29 : decide (n ≤ 29) = false := by simp; omega
  have l37 : decide (n ≤ 37) = true := by simp; omega
  clear hlo hhi
  go_enter Tryd.func32, Tryd.ntmps32
  go_upto_block 0 with (fail)
  rw [← hw0]
  clear hw0
  go_wp2_with fail
  refine (CF.out _).mono ?_
  rintro e u ⟨rfl, rfl⟩
  obtain ⟨wn, hwn⟩ : ∃ wn, wn = putC w0 w.heap.size 0 ⟨1, n - 30, 0, 0⟩ := ⟨_, rfl⟩
  have HQ := Lib.hid (show AtAt wn w.heap.size ({ a with fg := ⟨1, n - 30, 0, 0⟩ } : At) by rw [hwn]; exact HA.out.putFg _)
  have HZn := Lib.hid (show AtAt wn (w.heap.size + 1) At.zero by rw [hwn]; exact HZ.out.butO (putC_but w0 w.heap.size 0 _) (by omega))
  have HBn := Lib.hid (show Below w.heap.size w wn by rw [hwn]; exact HB.out.trans ((putC_but w0 w.heap.size 0 _).below (C := w.heap.size) (Nat.le_refl _) HB.out.size))
  simp only [putC, Nat.zero_add] at hwn
  obtain ⟨_, ⟨y1, y2, y3, y4, y5, y6, y7, y8, y9⟩, yf⟩ := HA.out
  try dsimp only at y1 y2 y3 y4 y5 y6 y7 y8 y9
  go_upto_region 26 with (fail)
  rw [← hwn]
  clear y1 y2 y3 y4 y5 y6 y7 y8 y9 yf hwn
  obtain ⟨q0, hq0⟩ : ∃ q0, q0 = simpleM a n := ⟨_, rfl⟩
  have HQ0 := Lib.hid (show AtAt wn w.heap.size q0 by rw [hq0, HSM.out]; exact HQ.out)
  have HQE := Lib.hid hq0
  clear hq0
  obtain ⟨wq, hwq⟩ : ∃ wq, wq = putA wn (w.heap.size + 1) q0 := ⟨_, rfl⟩
  have Z := Lib.hid (show AtAt wq (w.heap.size + 1) q0 by rw [hwq]; exact HZn.out.putA q0)
  have HBQ := Lib.hid (show Below w.heap.size w wq by rw [hwq]; exact HBn.out.trans ((putA_but wn (w.heap.size + 1) q0).below (C := w.heap.size) (by omega) HBn.out.size))
  simp only [putA, putC, Nat.zero_add, Nat.reduceAdd] at hwq
  obtain ⟨_, ⟨a1, a2, a3, a4, a5, a6, a7, a8, a9⟩, _⟩ := HQ0.out
  obtain ⟨_, ⟨z1, z2, z3, z4, z5, z6, z7, z8, z9⟩, zf⟩ := HZn.out
  dsimp only at z1 z2 z3 z4 z5 z6 z7 z8 z9
  go_wp2
  rw [← hwq]
  clear a1 a2 a3 a4 a5 a6 a7 a8 a9 z1 z2 z3 z4 z5 z6 z7 z8 z9 zf hwq
  obtain ⟨_, ⟨k1, k2, k3, k4, k5, k6, k7, k8, k9⟩, _⟩ := Z.out
  exact bodyPost_ret (v := attV q0) (by simp [results, Tryd.results32, go_sem, k1, k2, k3, k4, k5, k6, k7, k8, k9]) rfl ⟨by rw [HQE.out], HBQ.out⟩
set_option maxHeartbeats 4000000 in
set_option maxRecDepth 100000 in
theorem rsim_R90 (w : World) (a : At) (n : Int) (hlo : 90 ≤ n) (hhi : n ≤ 97) : Calls Tryd.prog 32 #[attV a, .int .i64 n] w (SimOut w (simpleM a n)) := by
  have HSM := Lib.hid (show simpleM a n = ({ a with fg := ⟨1, n - 82, 0, 0⟩ } : At) from (by unfold simpleM; (iterate 21 rw [if_neg (by omega)]); rw [if_pos (by omega)]))
  obtain ⟨w0, hw0⟩ : ∃ w0, w0 = (w.alloc (.cells #[.int .u8 a.fg.k, .int .u8 a.fg.r, .int .u8 a.fg.g, .int .u8 a.fg.b, .int .u8 a.bg.k, .int .u8 a.bg.r, .int .u8 a.bg.g, .int .u8 a.bg.b, .int .u16 (a.fl : Nat)] 26)).alloc (.cells #[.int .u8 0, .int .u8 0, .int .u8 0, .int .u8 0, .int .u8 0, .int .u8 0, .int .u8 0, .int .u8 0, .int .u16 0] 26) := ⟨_, rfl⟩
  have b0 : Below w.heap.size w w0 := by rw [hw0]; exact ((Below.refl _ _).alloc (Nat.le_refl _) _).alloc (by simp) _
  have HA := Lib.hid (show AtAt w0 w.heap.size a by rw [hw0]; exact (AtAt.newAt w _ rfl a _).past _)
  have HZ := Lib.hid (show AtAt w0 (w.heap.size + 1) At.zero by rw [hw0]; exact AtAt.newAt _ _ (by simp) At.zero _)
  have HB := Lib.hid b0
  clear b0
  have CF := Lib.hid (show ∀ W, Calls Tryd.prog 39 #[.int .i64 n] W fun e w' => e = .returned (.int .u16 0) ∧ W = w' from fun W => by have := rflag_any n W; rw [show flagN n = 0 by unfold flagN; iterate 9 rw [if_neg (by omega)]] at this; exact this)
  have s1 : IntKind.i64.wrap (n - 82) = n - 82 := by rw [IntKind.wrap_i64]; omega
  have s2 : IntKind.u8.wrap (n - 82) = n - 82 := by rw [IntKind.wrap_u8]; omega
  have e0 : (n == 0) = false := by simp; omega
  have e4 : (n == 4) = false := by simp; omega
  have e21 : (n == 21) = false := by simp; omega
  have e22 : (n == 22) = false := by simp; omega
  have e24 : (n == 24) = false := by simp; omega
  have e23 : (n == 23) = false := by simp; omega
  have e25 : (n == 25) = false := by simp; omega
  have e39 : (n == 39) = false := by simp; omega
  have e49 : (n == 49) = false := by simp; omega
  have g27 : decide (27 ≤ n) = true := by simp; omega
  have g30 : decide (30 ≤ n) = true := by simp; omega
  have g90 : decide (90 ≤ n) = true := by simp; omega
  have g40 : decide (40 ≤ n) = true := by simp; omega
  have g100 : decide (100 ≤ n) = false := by simp; omega
  have l29 : decide (n ≤ 29) = false := by simp; omega
  have l37 : decide (n ≤ 37) = false := by simp; omega
  have l97 : decide (n ≤ 97) = true := by simp; omega
  have l47 : decide (n ≤ 47) = false := by simp; omega
  clear hlo hhi
  go_enter Tryd.func32, Tryd.ntmps32
  go_upto_block 0 with (fail)
  rw [← hw0]
  clear hw0
  go_wp2_with fail
  refine (CF.out _).mono ?_
  rintro e u ⟨rfl, rfl⟩
  obtain ⟨wn, hwn⟩ : ∃ wn, wn = putC w0 w.heap.size 0 ⟨1, n - 82, 0, 0⟩ := ⟨_, rfl⟩
  have HQ := Lib.hid (show AtAt wn w.heap.size ({ a with fg := ⟨1, n - 82, 0, 0⟩ } : At) by rw [hwn]; exact HA.out.putFg _)
  have HZn := Lib.hid (show AtAt wn (w.heap.size + 1) At.zero by rw [hwn]; exact HZ.out.butO (putC_but w0 w.heap.size 0 _) (by omega))
  have HBn := Lib.hid (show Below w.heap.size w wn by rw [hwn]; exact HB.out.trans ((putC_but w0 w.heap.size 0 _).below (C := w.heap.size) (Nat.le_refl _) HB.out.size))
  simp only [putC, Nat.zero_add] at hwn
  obtain ⟨_, ⟨y1, y2, y3, y4, y5, y6, y7, y8, y9⟩, yf⟩ := HA.out
  try dsimp only at y1 y2 y3 y4 y5 y6 y7 y8 y9
  go_upto_region 26 with (fail)
  rw [← hwn]
  clear y1 y2 y3 y4 y5 y6 y7 y8 y9 yf hwn
  obtain ⟨q0, hq0⟩ : ∃ q0, q0 = simpleM a n := ⟨_, rfl⟩
  have HQ0 := Lib.hid (show AtAt wn w.heap.size q0 by rw [hq0, HSM.out]; exact HQ.out)
  have HQE := Lib.hid hq0
  clear hq0
  obtain ⟨wq, hwq⟩ : ∃ wq, wq = putA wn (w.heap.size + 1) q0 := ⟨_, rfl⟩
  have Z := Lib.hid (show AtAt wq (w.heap.size + 1) q0 by rw [hwq]; exact HZn.out.putA q0)
  have HBQ := Lib.hid (show Below w.heap.size w wq by rw [hwq]; exact HBn.out.trans ((putA_but wn (w.heap.size + 1) q0).below (C := w.heap.size) (by omega) HBn.out.size))
  simp only [putA, putC, Nat.zero_add, Nat.reduceAdd] at hwq
  obtain ⟨_, ⟨a1, a2, a3, a4, a5, a6, a7, a8, a9⟩, _⟩ := HQ0.out
  obtain ⟨_, ⟨z1, z2, z3, z4, z5, z6, z7, z8, z9⟩, zf⟩ := HZn.out
  dsimp only at z1 z2 z3 z4 z5 z6 z7 z8 z9
  go_wp2
  rw [← hwq]
  clear a1 a2 a3 a4 a5 a6 a7 a8 a9 z1 z2 z3 z4 z5 z6 z7 z8 z9 zf hwq
  obtain ⟨_, ⟨k1, k2, k3, k4, k5, k6, k7, k8, k9⟩, _⟩ := Z.out
  exact bodyPost_ret (v := attV q0) (by simp [results, Tryd.results32, go_sem, k1, k2, k3, k4, k5, k6, k7, k8, k9]) rfl ⟨by rw [HQE.out], HBQ.out⟩
set_option maxHeartbeats 4000000 in
set_option maxRecDepth 100000 in
theorem rsim_R40 (w : World) (a : At) (n : Int) (hlo : 40 ≤ n) (hhi : n ≤ 47) : Calls Tryd.prog 32 #[attV a, .int .i64 n] w (SimOut w (simpleM a n)) := by
  have HSM := Lib.hid (show simpleM a n = ({ a with bg := ⟨1, n - 40, 0, 0⟩ } : At) from (by unfold simpleM; (iterate 19 rw [if_neg (by omega)]); rw [if_pos (by omega)]))
  obtain ⟨w0, hw0⟩ : ∃ w0, w0 = (w.alloc (.cells #[.int .u8 a.fg.k, .int .u8 a.fg.r, .int .u8 a.fg.g, .int .u8 a.fg.b, .int .u8 a.bg.k, .int .u8 a.bg.r, .int .u8 a.bg.g, .int .u8 a.bg.b, .int .u16 (a.fl : Nat)] 26)).alloc (.cells #[.int .u8 0, .int .u8 0, .int .u8 0, .int .u8 0, .int .u8 0, .int .u8 0, .int .u8 0, .int .u8 0, .int .u16 0] 26) := ⟨_, rfl⟩
  have b0 : Below w.heap.size w w0 := by rw [hw0]; exact ((Below.refl _ _).alloc (Nat.le_refl _) _).alloc (by simp) _
  have HA := Lib.hid (show AtAt w0 w.heap.size a by rw [hw0]; exact (AtAt.newAt w _ rfl a _).past _)
  have HZ := Lib.hid (show AtAt w0 (w.heap.size + 1) At.zero by rw [hw0]; exact AtAt.newAt _ _ (by simp) At.zero _)
  have HB := Lib.hid b0
  clear b0
  have CF := Lib.hid (show ∀ W, Calls Tryd.prog 39 #[.int .i64 n] W fun e w' => e = .returned (.int .u16 0) ∧ W = w' from fun W => by have := rflag_any n W; rw [show flagN n = 0 by unfold flagN; iterate 9 rw [if_neg (by omega)]] at this; exact this)
  have s1 : IntKind.i64.wrap (n - 40) = n - 40 := by rw [IntKind.wrap_i64]; omega
  have s2 : IntKind.u8.wrap (n - 40) = n - 40 := by rw [IntKind.wrap_u8]; omega
  have e0 : (n == 0) = false := by simp; omega
  have e4 : (n == 4) = false := by simp; omega
  have e21 : (n == 21) = false := by simp; omega
  have e22 : (n == 22) = false := by simp; omega
  have e24 : (n == 24) = false := by simp; omega
  have e23 : (n == 23) = false := by simp; omega
  have e25 : (n == 25) = false := by simp; omega
  have e39 : (n == 39) = false := by simp; omega
  have e49 : (n == 49) = false := by simp; omega
  have g27 : decide (27 ≤ n) = true := by simp; omega
  have g30 : decide (30 ≤ n) = true := by simp; omega
  have g90 : decide (90 ≤ n) = false := by simp; omega
  have g40 : decide (40 ≤ n) = true := by simp; omega
  have g100 : decide (100 ≤ n) = false := by simp; omega
  have l29 : decide (n ≤ 29) = false := by simp; omega
  have l37 : decide (n ≤ 37) = false := by simp; omega
  have l47 : decide (n ≤ 47) = true := by simp; omega
  clear hlo hhi
  go_enter Tryd.func32, Tryd.ntmps32
  go_upto_block 0 with (fail)
  rw [← hw0]
  clear hw0
  go_wp2_with fail
  refine (CF.out _).mono ?_
  rintro e u ⟨rfl, rfl⟩
  obtain ⟨wn, hwn⟩ : ∃ wn, wn = putC w0 w.heap.size 4 ⟨1, n - 40, 0, 0⟩ := ⟨_, rfl⟩
  have HQ := Lib.hid (show AtAt wn w.heap.size ({ a with bg := ⟨1, n - 40, 0, 0⟩ } : At) by rw [hwn]; exact HA.out.putBg _)
  have HZn := Lib.hid (show AtAt wn (w.heap.size + 1) At.zero by rw [hwn]; exact HZ.out.butO (putC_but w0 w.heap.size 4 _) (by omega))
  have HBn := Lib.hid (show Below w.heap.size w wn by rw [hwn]; exact HB.out.trans ((putC_but w0 w.heap.size 4 _).below (C := w.heap.size) (Nat.le_refl _) HB.out.size))
  simp only [putC, Nat.reduceAdd] at hwn
  obtain ⟨_, ⟨y1, y2, y3, y4, y5, y6, y7, y8, y9⟩, yf⟩ := HA.out
  try dsimp only at y1 y2 y3 y4 y5 y6 y7 y8 y9
  go_upto_region 26 with (fail)
  rw [← hwn]
  clear y1 y2 y3 y4 y5 y6 y7 y8 y9 yf hwn
  obtain ⟨q0, hq0⟩ : ∃ q0, q0 = simpleM a n := ⟨_, rfl⟩
  have HQ0 := Lib.hid (show AtAt wn w.heap.size q0 by rw [hq0, HSM.out]; exact HQ.out)
  have HQE := Lib.hid hq0
  clear hq0
  obtain ⟨wq, hwq⟩ : ∃ wq, wq = putA wn (w.heap.size + 1) q0 := ⟨_, rfl⟩
  have Z := Lib.hid (show AtAt wq (w.heap.size + 1) q0 by rw [hwq]; exact HZn.out.putA q0)
  have HBQ := Lib.hid (show Below w.heap.size w wq by rw [hwq]; exact HBn.out.trans ((putA_but wn (w.heap.size + 1) q0).below (C := w.heap.size) (by omega) HBn.out.size))
  simp only [putA, putC, Nat.zero_add, Nat.reduceAdd] at hwq
  obtain ⟨_, ⟨a1, a2, a3, a4, a5, a6, a7, a8, a9⟩, _⟩ := HQ0.out
  obtain ⟨_, ⟨z1, z2, z3, z4, z5, z6, z7, z8, z9⟩, zf⟩ := HZn.out
  dsimp only at z1 z2 z3 z4 z5 z6 z7 z8 z9
  go_wp2
  rw [← hwq]
  clear a1 a2 a3 a4 a5 a6 a7 a8 a9 z1 z2 z3 z4 z5 z6 z7 z8 z9 zf hwq
  obtain ⟨_, ⟨k1, k2, k3, k4, k5, k6, k7, k8, k9⟩, _⟩ := Z.out
  exact bodyPost_ret (v := attV q0) (by simp [results, Tryd.results32, go_sem, k1, k2, k3, k4, k5, k6, k7, k8, k9]) rfl ⟨by rw [HQE.out], HBQ.out⟩
set_option maxHeartbeats 4000000 in
set_option maxRecDepth 100000 in
theorem rsim_R100 (w : World) (a : At) (n : Int) (hlo : 100 ≤ n) (hhi : n ≤ 107) : Calls Tryd.prog 32 #[attV a, .int .i64 n] w (SimOut w (simpleM a n)) := by
  have HSM := Lib.hid (show simpleM a n = ({ a with bg := ⟨1, n - 92, 0, 0⟩ } : At) from (by unfold simpleM; (iterate 22 rw [if_neg (by omega)]); rw [if_pos (by omega)]))
  obtain ⟨w0, hw0⟩ : ∃ w0, w0 = (w.alloc (.cells #[.int .u8 a.fg.k, .int .u8 a.fg.r, .int .u8 a.fg.g, .int .u8 a.fg.b, .int .u8 a.bg.k, .int .u8 a.bg.r, .int .u8 a.bg.g, .int .u8 a.bg.b, .int .u16 (a.fl : Nat)] 26)).alloc (.cells #[.int .u8 0, .int .u8 0, .int .u8 0, .int .u8 0, .int .u8 0, .int .u8 0, .int .u8 0, .int .u8 0, .int .u16 0] 26) := ⟨_, rfl⟩
  have b0 : Below w.heap.size w w0 := by rw [hw0]; exact ((Below.refl _ _).alloc (Nat.le_refl _) _).alloc (by simp) _
  have HA := Lib.hid (show AtAt w0 w.heap.size a by rw [hw0]; exact (AtAt.newAt w _ rfl a _).past _)
  have HZ := Lib.hid (show AtAt w0 (w.heap.size + 1) At.zero by rw [hw0]; exact AtAt.newAt _ _ (by simp) At.zero _)
  have HB := Lib.hid b0
  clear b0
  have CF := Lib.hid (show ∀ W, Calls Tryd.prog 39 #[.int .i64 n] W fun e w' => e = .returned (.int .u16 0) ∧ W = w' from fun W => by have := rflag_any n W; rw [show flagN n = 0 by unfold flagN; iterate 9 rw [if_neg (by omega)]] at this; exact this)
  have s1 : IntKind.i64.wrap (n - 92) = n - 92 := by rw [IntKind.wrap_i64]; omega
  have s2 : IntKind.u8.wrap (n - 92) = n - 92 := by rw [IntKind.wrap_u8]; omega
  have e0 : (n == 0) = false := by simp; omega
  have e4 : (n == 4) = false := by simp; omega
  have e21 : (n == 21) = false := by simp; omega
  have e22 : (n == 22) = false := by simp; omega
  have e24 : (n == 24) = false := by simp; omega
  have e23 : (n == 23) = false := by simp; omega
  have e25 : (n == 25) = false := by simp; omega
  have e39 : (n == 39) = false := by simp; omega
  have e49 : (n == 49) = false := by simp; omega
  have g27 : decide (27 ≤ n) = true := by simp; omega
  have g30 : decide (30 ≤ n) = true := by simp; omega
  have g90 : decide (90 ≤ n) = true := by simp; omega
  have g40 : decide (40 ≤ n) = true := by simp; omega
  have g100 : decide (100 ≤ n) = true := by simp; omega
  have l29 : decide (n ≤ 29) = false := by simp; omega
  have l37 : decide (n ≤ 37) = false := by simp; omega
  have l97 : decide (n ≤ 97) = false := by simp; omega
  have l47 : decide (n ≤ 47) = false := by simp; omega
  have l107 : decide (n ≤ 107) = true := by simp; omega
  clear hlo hhi
  go_enter Tryd.func32, Tryd.ntmps32
  go_upto_block 0 with (fail)
  rw [← hw0]
  clear hw0
  go_wp2_with fail
  refine (CF.out _).mono ?_
  rintro e u ⟨rfl, rfl⟩
  obtain ⟨wn, hwn⟩ : ∃ wn, wn = putC w0 w.heap.size 4 ⟨1, n - 92, 0, 0⟩ := ⟨_, rfl⟩
  have HQ := Lib.hid (show AtAt wn w.heap.size ({ a with bg := ⟨1, n - 92, 0, 0⟩ } : At) by rw [hwn]; exact HA.out.putBg _)
  have HZn := Lib.hid (show AtAt wn (w.heap.size + 1) At.zero by rw [hwn]; exact HZ.out.butO (putC_but w0 w.heap.size 4 _) (by omega))
  have HBn := Lib.hid (show Below w.heap.size w wn by rw [hwn]; exact HB.out.trans ((putC_but w0 w.heap.size 4 _).below (C := w.heap.size) (Nat.le_refl _) HB.out.size))
  simp only [putC, Nat.reduceAdd] at hwn
  obtain ⟨_, ⟨y1, y2, y3, y4, y5, y6, y7, y8, y9⟩, yf⟩ := HA.out
  try dsimp only at y1 y2 y3 y4 y5 y6 y7 y8 y9
  go_upto_region 26 with (fail)
  rw [← hwn]
  clear y1 y2 y3 y4 y5 y6 y7 y8 y9 yf hwn
  obtain ⟨q0, hq0⟩ : ∃ q0, q0 = simpleM a n := ⟨_, rfl⟩
  have HQ0 := Lib.hid (show AtAt wn w.heap.size q0 by rw [hq0, HSM.out]; exact HQ.out)
  have HQE := Lib.hid hq0
  clear hq0
  obtain ⟨wq, hwq⟩ : ∃ wq, wq = putA wn (w.heap.size + 1) q0 := ⟨_, rfl⟩
  have Z := Lib.hid (show AtAt wq (w.heap.size + 1) q0 by rw [hwq]; exact HZn.out.putA q0)
  have HBQ := Lib.hid (show Below w.heap.size w wq by rw [hwq]; exact HBn.out.trans ((putA_but wn (w.heap.size + 1) q0).below (C := w.heap.size) (by omega) HBn.out.size))
  simp only [putA, putC, Nat.zero_add, Nat.reduceAdd] at hwq
  obtain ⟨_, ⟨a1, a2, a3, a4, a5, a6, a7, a8, a9⟩, _⟩ := HQ0.out
  obtain ⟨_, ⟨z1, z2, z3, z4, z5, z6, z7, z8, z9⟩, zf⟩ := HZn.out
  dsimp only at z1 z2 z3 z4 z5 z6 z7 z8 z9
  go_wp2
  rw [← hwq]
  clear a1 a2 a3 a4 a5 a6 a7 a8 a9 z1 z2 z3 z4 z5 z6 z7 z8 z9 zf hwq
  obtain ⟨_, ⟨k1, k2, k3, k4, k5, k6, k7, k8, k9⟩, _⟩ := Z.out
  exact bodyPost_ret (v := attV q0) (by simp [results, Tryd.results32, go_sem, k1, k2, k3, k4, k5, k6, k7, k8, k9]) rfl ⟨by rw [HQE.out], HBQ.out⟩
set_option maxHeartbeats 4000000 in
set_option maxRecDepth 100000 in
theorem rsim_OL (w : World) (a : At) (n : Int) (hn : n ≤ 26 ∧ n ≠ 0 ∧ n ≠ 1 ∧ n ≠ 2 ∧ n ≠ 3 ∧ n ≠ 4 ∧ n ≠ 5 ∧ n ≠ 7 ∧ n ≠ 8 ∧ n ≠ 9 ∧ n ≠ 21 ∧ n ≠ 22 ∧ n ≠ 23 ∧ n ≠ 24 ∧ n ≠ 25) : Calls Tryd.prog 32 #[attV a, .int .i64 n] w (SimOut w (simpleM a n)) := by
  have HSM := Lib.hid (show simpleM a n = a from (by unfold simpleM; (iterate 23 rw [if_neg (by omega)])))
  obtain ⟨w0, hw0⟩ : ∃ w0, w0 = (w.alloc (.cells #[.int .u8 a.fg.k, .int .u8 a.fg.r, .int .u8 a.fg.g, .int .u8 a.fg.b, .int .u8 a.bg.k, .int .u8 a.bg.r, .int .u8 a.bg.g, .int .u8 a.bg.b, .int .u16 (a.fl : Nat)] 26)).alloc (.cells #[.int .u8 0, .int .u8 0, .int .u8 0, .int .u8 0, .int .u8 0, .int .u8 0, .int .u8 0, .int .u8 0, .int .u16 0] 26) := ⟨_, rfl⟩
  have b0 : Below w.heap.size w w0 := by rw [hw0]; exact ((Below.refl _ _).alloc (Nat.le_refl _) _).alloc (by simp) _
  have HA := Lib.hid (show AtAt w0 w.heap.size a by rw [hw0]; exact (AtAt.newAt w _ rfl a _).past _)
  have HZ := Lib.hid (show AtAt w0 (w.heap.size + 1) At.zero by rw [hw0]; exact AtAt.newAt _ _ (by simp) At.zero _)
  have HB := Lib.hid b0
  clear b0
  have CF := Lib.hid (show ∀ W, Calls Tryd.prog 39 #[.int .i64 n] W fun e w' => e = .returned (.int .u16 0) ∧ W = w' from fun W => by have := rflag_any n W; rw [show flagN n = 0 by unfold flagN; iterate 9 rw [if_neg (by omega)]] at this; exact this)
  have e0 : (n == 0) = false := by simp; omega
  have e4 : (n == 4) = false := by simp; omega
  have e21 : (n == 21) = false := by simp; omega
  have e22 : (n == 22) = false := by simp; omega
  have e24 : (n == 24) = false := by simp; omega
  have e23 : (n == 23) = false := by simp; omega
  have e25 : (n == 25) = false := by simp; omega
  have e39 : (n == 39) = false := by simp; omega
  have e49 : (n == 49) = false := by simp; omega
  have g27 : decide (27 ≤ n) = false := by simp; omega
  have g30 : decide (30 ≤ n) = false := by simp; omega
  have g90 : decide (90 ≤ n) = false := by simp; omega
  have g40 : decide (40 ≤ n) = false := by simp; omega
  have g100 : decide (100 ≤ n) = false := by simp; omega
  clear hn
  go_enter Tryd.func32, Tryd.ntmps32
  go_upto_block 0 with (fail)
  rw [← hw0]
  clear hw0
  go_wp2_with fail
  refine (CF.out _).mono ?_
  rintro e u ⟨rfl, rfl⟩
  go_upto_region 26 with (fail)
  obtain ⟨q0, hq0⟩ : ∃ q0, q0 = simpleM a n := ⟨_, rfl⟩
  have HQ0 := Lib.hid (show AtAt w0 w.heap.size q0 by rw [hq0, HSM.out]; exact HA.out)
  have HQE := Lib.hid hq0
  clear hq0
  obtain ⟨wq, hwq⟩ : ∃ wq, wq = putA w0 (w.heap.size + 1) q0 := ⟨_, rfl⟩
  have Z := Lib.hid (show AtAt wq (w.heap.size + 1) q0 by rw [hwq]; exact HZ.out.putA q0)
  have HBQ := Lib.hid (show Below w.heap.size w wq by rw [hwq]; exact HB.out.trans ((putA_but w0 (w.heap.size + 1) q0).below (C := w.heap.size) (by omega) HB.out.size))
  simp only [putA, putC, Nat.zero_add, Nat.reduceAdd] at hwq
  obtain ⟨_, ⟨a1, a2, a3, a4, a5, a6, a7, a8, a9⟩, _⟩ := HQ0.out
  obtain ⟨_, ⟨z1, z2, z3, z4, z5, z6, z7, z8, z9⟩, zf⟩ := HZ.out
  dsimp only at z1 z2 z3 z4 z5 z6 z7 z8 z9
  go_wp2
  rw [← hwq]
  clear a1 a2 a3 a4 a5 a6 a7 a8 a9 z1 z2 z3 z4 z5 z6 z7 z8 z9 zf hwq
  obtain ⟨_, ⟨k1, k2, k3, k4, k5, k6, k7, k8, k9⟩, _⟩ := Z.out
  exact bodyPost_ret (v := attV q0) (by simp [results, Tryd.results32, go_sem, k1, k2, k3, k4, k5, k6, k7, k8, k9]) rfl ⟨by rw [HQE.out], HBQ.out⟩
set_option maxHeartbeats 4000000 in
set_option maxRecDepth 100000 in
theorem rsim_O50 (w : World) (a : At) (n : Int) (hn : 50 ≤ n ∧ n ≤ 89) : Calls Tryd.prog 32 #[attV a, .int .i64 n] w (SimOut w (simpleM a n)) := by
  have HSM := Lib.hid (show simpleM a n = a from (by unfold simpleM; (iterate 23 rw [if_neg (by omega)])))
  obtain ⟨w0, hw0⟩ : ∃ w0, w0 = (w.alloc (.cells #[.int .u8 a.fg.k, .int .u8 a.fg.r, .int .u8 a.fg.g, .int .u8 a.fg.b, .int .u8 a.bg.k, .int .u8 a.bg.r, .int .u8 a.bg.g, .int .u8 a.bg.b, .int .u16 (a.fl : Nat)] 26)).alloc (.cells #[.int .u8 0, .int .u8 0, .int .u8 0, .int .u8 0, .int .u8 0, .int .u8 0, .int .u8 0, .int .u8 0, .int .u16 0] 26) := ⟨_, rfl⟩
  have b0 : Below w.heap.size w w0 := by rw [hw0]; exact ((Below.refl _ _).alloc (Nat.le_refl _) _).alloc (by simp) _
  have HA := Lib.hid (show AtAt w0 w.heap.size a by rw [hw0]; exact (AtAt.newAt w _ rfl a _).past _)
  have HZ := Lib.hid (show AtAt w0 (w.heap.size + 1) At.zero by rw [hw0]; exact AtAt.newAt _ _ (by simp) At.zero _)
  have HB := Lib.hid b0
  clear b0
  have CF := Lib.hid (show ∀ W, Calls Tryd.prog 39 #[.int .i64 n] W fun e w' => e = .returned (.int .u16 0) ∧ W = w' from fun W => by have := rflag_any n W; rw [show flagN n = 0 by unfold flagN; iterate 9 rw [if_neg (by omega)]] at this; exact this)
  have e0 : (n == 0) = false := by simp; omega
  have e4 : (n == 4) = false := by simp; omega
  have e21 : (n == 21) = false := by simp; omega
  have e22 : (n == 22) = false := by simp; omega
  have e24 : (n == 24) = false := by simp; omega
  have e23 : (n == 23) = false := by simp; omega
  have e25 : (n == 25) = false := by simp; omega
  have e39 : (n == 39) = false := by simp; omega
  have e49 : (n == 49) = false := by simp; omega
  have g27 : decide (27 ≤ n) = true := by simp; omega
  have g30 : decide (30 ≤ n) = true := by simp; omega
  have g90 : decide (90 ≤ n) = false := by simp; omega
  have g40 : decide (40 ≤ n) = true := by simp; omega
  have g100 : decide (100 ≤ n) = false := by simp; omega
  have l29 : decide (n ≤ 29) = false := by simp; omega
  have l37 : decide (n ≤ 37) = false := by simp; omega
  have l47 : decide (n ≤ 47) = false := by simp; omega
  clear hn
  go_enter Tryd.func32, Tryd.ntmps32
  go_upto_block 0 with (fail)
  rw [← hw0]
  clear hw0
  go_wp2_with fail
  refine (CF.out _).mono ?_
  rintro e u ⟨rfl, rfl⟩
  go_upto_region 26 with (fail)
  obtain ⟨q0, hq0⟩ : ∃ q0, q0 = simpleM a n := ⟨_, rfl⟩
  have HQ0 := Lib.hid (show AtAt w0 w.heap.size q0 by rw [hq0, HSM.out]; exact HA.out)
  have HQE := Lib.hid hq0
  clear hq0
  obtain ⟨wq, hwq⟩ : ∃ wq, wq = putA w0 (w.heap.size + 1) q0 := ⟨_, rfl⟩
  have Z := Lib.hid (show AtAt wq (w.heap.size + 1) q0 by rw [hwq]; exact HZ.out.putA q0)
  have HBQ := Lib.hid (show Below w.heap.size w wq by rw [hwq]; exact HB.out.trans ((putA_but w0 (w.heap.size + 1) q0).below (C := w.heap.size) (by omega) HB.out.size))
  simp only [putA, putC, Nat.zero_add, Nat.reduceAdd] at hwq
  obtain ⟨_, ⟨a1, a2, a3, a4, a5, a6, a7, a8, a9⟩, _⟩ := HQ0.out
  obtain ⟨_, ⟨z1, z2, z3, z4, z5, z6, z7, z8, z9⟩, zf⟩ := HZ.out
  dsimp only at z1 z2 z3 z4 z5 z6 z7 z8 z9
  go_wp2
  rw [← hwq]
  clear a1 a2 a3 a4 a5 a6 a7 a8 a9 z1 z2 z3 z4 z5 z6 z7 z8 z9 zf hwq
  obtain ⟨_, ⟨k1, k2, k3, k4, k5, k6, k7, k8, k9⟩, _⟩ := Z.out
  exact bodyPost_ret (v := attV q0) (by simp [results, Tryd.results32, go_sem, k1, k2, k3, k4, k5, k6, k7, k8, k9]) rfl ⟨by rw [HQE.out], HBQ.out⟩
set_option maxHeartbeats 4000000 in
set_option maxRecDepth 100000 in
theorem rsim_O98 (w : World) (a : At) (n : Int) (hn : 98 ≤ n ∧ n ≤ 99) : Calls Tryd.prog 32 #[attV a, .int .i64 n] w (SimOut w (simpleM a n)) := by
  have HSM := Lib.hid (show simpleM a n = a from (by unfold simpleM; (iterate 23 rw [if_neg (by omega)])))
  obtain ⟨w0, hw0⟩ : ∃ w0, w0 = (w.alloc (.cells #[.int .u8 a.fg.k, .int .u8 a.fg.r, .int .u8 a.fg.g, .int .u8 a.fg.b, .int .u8 a.bg.k, .int .u8 a.bg.r, .int .u8 a.bg.g, .int .u8 a.bg.b, .int .u16 (a.fl : Nat)] 26)).alloc (.cells #[.int .u8 0, .int .u8 0, .int .u8 0, .int .u8 0, .int .u8 0, .int .u8 0, .int .u8 0, .int .u8 0, .int .u16 0] 26) := ⟨_, rfl⟩
  have b0 : Below w.heap.size w w0 := by rw [hw0]; exact ((Below.refl _ _).alloc (Nat.le_refl _) _).alloc (by simp) _
  have HA := Lib.hid (show AtAt w0 w.heap.size a by rw [hw0]; exact (AtAt.newAt w _ rfl a _).past _)
  have HZ := Lib.hid (show AtAt w0 (w.heap.size + 1) At.zero by rw [hw0]; exact AtAt.newAt _ _ (by simp) At.zero _)
  have HB := Lib.hid b0
  clear b0
  have CF := Lib.hid (show ∀ W, Calls Tryd.prog 39 #[.int .i64 n] W fun e w' => e = .returned (.int .u16 0) ∧ W = w' from fun W => by have := rflag_any n W; rw [show flagN n = 0 by unfold flagN; iterate 9 rw [if_neg (by omega)]] at this; exact this)
  have e0 : (n == 0) = false := by simp; omega
  have e4 : (n == 4) = false := by simp; omega
  have e21 : (n == 21) = false := by simp; omega
  have e22 : (n == 22) = false := by simp; omega
  have e24 : (n == 24) = false := by simp; omega
  have e23 : (n == 23) = false := by simp; omega
  have e25 : (n == 25) = false := by simp; omega
  have e39 : (n == 39) = false := by simp; omega
  have e49 : (n == 49) = false := by simp; omega
  have g27 : decide (27 ≤ n) = true := by simp; omega
  have g30 : decide (30 ≤ n) = true := by simp; omega
  have g90 : decide (90 ≤ n) = true := by simp; omega
  have g40 : decide (40 ≤ n) = true := by simp; omega
  have g100 : decide (100 ≤ n) = false := by simp; omega
  have l29 : decide (n ≤ 29) = false := by simp; omega
  have l37 : decide (n ≤ 37) = false := by simp; omega
  have l97 : decide (n ≤ 97) = false := by simp; omega
  have l47 : decide (n ≤ 47) = false := by simp; omega
  clear hn
  go_enter Tryd.func32, Tryd.ntmps32
  go_upto_block 0 with (fail)
  rw [← hw0]
  clear hw0
  go_wp2_with fail
  refine (CF.out _).mono ?_
  rintro e u ⟨rfl, rfl⟩
  go_upto_region 26 with (fail)
  obtain ⟨q0, hq0⟩ : ∃ q0, q0 = simpleM a n := ⟨_, rfl⟩
  have HQ0 := Lib.hid (show AtAt w0 w.heap.size q0 by rw [hq0, HSM.out]; exact HA.out)
  have HQE := Lib.hid hq0
  clear hq0
  obtain ⟨wq, hwq⟩ : ∃ wq, wq = putA w0 (w.heap.size + 1) q0 := ⟨_, rfl⟩
  have Z := Lib.hid (show AtAt wq (w.heap.size + 1) q0 by rw [hwq]; exact HZ.out.putA q0)
  have HBQ := Lib.hid (show Below w.heap.size w wq by rw [hwq]; exact HB.out.trans ((putA_but w0 (w.heap.size + 1) q0).below (C := w.heap.size) (by omega) HB.out.size))
  simp only [putA, putC, Nat.zero_add, Nat.reduceAdd] at hwq
  obtain ⟨_, ⟨a1, a2, a3, a4, a5, a6, a7, a8, a9⟩, _⟩ := HQ0.out
  obtain ⟨_, ⟨z1, z2, z3, z4, z5, z6, z7, z8, z9⟩, zf⟩ := HZ.out
  dsimp only at z1 z2 z3 z4 z5 z6 z7 z8 z9
  go_wp2
  rw [← hwq]
  clear a1 a2 a3 a4 a5 a6 a7 a8 a9 z1 z2 z3 z4 z5 z6 z7 z8 z9 zf hwq
  obtain ⟨_, ⟨k1, k2, k3, k4, k5, k6, k7, k8, k9⟩, _⟩ := Z.out
  exact bodyPost_ret (v := attV q0) (by simp [results, Tryd.results32, go_sem, k1, k2, k3, k4, k5, k6, k7, k8, k9]) rfl ⟨by rw [HQE.out], HBQ.out⟩
set_option maxHeartbeats 4000000 in
set_option maxRecDepth 100000 in
theorem rsim_O108 (w : World) (a : At) (n : Int) (hn : 108 ≤ n) : Calls Tryd.prog 32 #[attV a, .int .i64 n] w (SimOut w (simpleM a n)) := by
  have HSM := Lib.hid (show simpleM a n = a from (by unfold simpleM; (iterate 23 rw [if_neg (by omega)])))
  obtain ⟨w0, hw0⟩ : ∃ w0, w0 = (w.alloc (.cells #[.int .u8 a.fg.k, .int .u8 a.fg.r, .int .u8 a.fg.g, .int .u8 a.fg.b, .int .u8 a.bg.k, .int .u8 a.bg.r, .int .u8 a.bg.g, .int .u8 a.bg.b, .int .u16 (a.fl : Nat)] 26)).alloc (.cells #[.int .u8 0, .int .u8 0, .int .u8 0, .int .u8 0, .int .u8 0, .int .u8 0, .int .u8 0, .int .u8 0, .int .u16 0] 26) := ⟨_, rfl⟩
  have b0 : Below w.heap.size w w0 := by rw [hw0]; exact ((Below.refl _ _).alloc (Nat.le_refl _) _).alloc (by simp) _
  have HA := Lib.hid (show AtAt w0 w.heap.size a by rw [hw0]; exact (AtAt.newAt w _ rfl a _).past _)
  have HZ := Lib.hid (show AtAt w0 (w.heap.size + 1) At.zero by rw [hw0]; exact AtAt.newAt _ _ (by simp) At.zero _)
  have HB := Lib.hid b0
  clear b0
  have CF := Lib.hid (show ∀ W, Calls Tryd.prog 39 #[.int .i64 n] W fun e w' => e = .returned (.int .u16 0) ∧ W = w' from fun W => by have := rflag_any n W; rw [show flagN n = 0 by unfold flagN; iterate 9 rw [if_neg (by omega)]] at this; exact this)
  have e0 : (n == 0) = false := by simp; omega
  have e4 : (n == 4) = false := by simp; omega
  have e21 : (n == 21) = false := by simp; omega
  have e22 : (n == 22) = false := by simp; omega
  have e24 : (n == 24) = false := by simp; omega
  have e23 : (n == 23) = false := by simp; omega
  have e25 : (n == 25) = false := by simp; omega
  have e39 : (n == 39) = false := by simp; omega
  have e49 : (n == 49) = false := by simp; omega
  have g27 : decide (27 ≤ n) = true := by simp; omega
  have g30 : decide (30 ≤ n) = true := by simp; omega
  have g90 : decide (90 ≤ n) = true := by simp; omega
  have g40 : decide (40 ≤ n) = true := by simp; omega
  have g100 : decide (100 ≤ n) = true := by simp; omega
  have l29 : decide (n ≤ 29) = false := by simp; omega
  have l37 : decide (n ≤ 37) = false := by simp; omega
  have l97 : decide (n ≤ 97) = false := by simp; omega
  have l47 : decide (n ≤ 47) = false := by simp; omega
  have l107 : decide (n ≤ 107) = false := by simp; omega
  clear hn
  go_enter Tryd.func32, Tryd.ntmps32
  go_upto_block 0 with (fail)
  rw [← hw0]
  clear hw0
  go_wp2_with fail
  refine (CF.out _).mono ?_
  rintro e u ⟨rfl, rfl⟩
  go_upto_region 26 with (fail)
  obtain ⟨q0, hq0⟩ : ∃ q0, q0 = simpleM a n := ⟨_, rfl⟩
  have HQ0 := Lib.hid (show AtAt w0 w.heap.size q0 by rw [hq0, HSM.out]; exact HA.out)
  have HQE := Lib.hid hq0
  clear hq0
  obtain ⟨wq, hwq⟩ : ∃ wq, wq = putA w0 (w.heap.size + 1) q0 := ⟨_, rfl⟩
  have Z := Lib.hid (show AtAt wq (w.heap.size + 1) q0 by rw [hwq]; exact HZ.out.putA q0)
  have HBQ := Lib.hid (show Below w.heap.size w wq by rw [hwq]; exact HB.out.trans ((putA_but w0 (w.heap.size + 1) q0).below (C := w.heap.size) (by omega) HB.out.size))
  simp only [putA, putC, Nat.zero_add, Nat.reduceAdd] at hwq
  obtain ⟨_, ⟨a1, a2, a3, a4, a5, a6, a7, a8, a9⟩, _⟩ := HQ0.out
  obtain ⟨_, ⟨z1, z2, z3, z4, z5, z6, z7, z8, z9⟩, zf⟩ := HZ.out
  dsimp only at z1 z2 z3 z4 z5 z6 z7 z8 z9
  go_wp2
  rw [← hwq]
  clear a1 a2 a3 a4 a5 a6 a7 a8 a9 z1 z2 z3 z4 z5 z6 z7 z8 z9 zf hwq
  obtain ⟨_, ⟨k1, k2, k3, k4, k5, k6, k7, k8, k9⟩, _⟩ := Z.out
  exact bodyPost_ret (v := attV q0) (by simp [results, Tryd.results32, go_sem, k1, k2, k3, k4, k5, k6, k7, k8, k9]) rfl ⟨by rw [HQE.out], HBQ.out⟩

theorem rsimple_any (w : World) (a : At) (ha : a.fl < 65536) (n : Int) : Calls Tryd.prog 32 #[attV a, .int .i64 n] w (SimOut w (simpleM a n)) := by
  have lit : ∀ (k : Int), n = k → Calls Tryd.prog 32 #[attV a, .int .i64 k] w (SimOut w (simpleM a k)) → Calls Tryd.prog 32 #[attV a, .int .i64 n] w (SimOut w (simpleM a n)) := fun k e h => by rw [e]; exact h
  by_cases c0 : n = 0
  · exact lit 0 c0 (rsim_0 w a)
  by_cases c4 : n = 4
  · exact lit 4 c4 (rsim_4 w a ha)
  by_cases c21 : n = 21
  · exact lit 21 c21 (rsim_21 w a ha)
  by_cases c22 : n = 22
  · exact lit 22 c22 (rsim_22 w a ha)
  by_cases c24 : n = 24
  · exact lit 24 c24 (rsim_24 w a ha)
  by_cases c23 : n = 23
  · exact lit 23 c23 (rsim_23 w a ha)
  by_cases c25 : n = 25
  · exact lit 25 c25 (rsim_25 w a ha)
  by_cases c27 : n = 27
  · exact lit 27 c27 (rsim_27 w a ha)
  by_cases c28 : n = 28
  · exact lit 28 c28 (rsim_28 w a ha)
  by_cases c29 : n = 29
  · exact lit 29 c29 (rsim_29 w a ha)
  by_cases c38 : n = 38
  · exact lit 38 c38 (rsim_38 w a)
  by_cases c39 : n = 39
  · exact lit 39 c39 (rsim_39 w a)
  by_cases c48 : n = 48
  · exact lit 48 c48 (rsim_48 w a)
  by_cases c49 : n = 49
  · exact lit 49 c49 (rsim_49 w a)
  by_cases c1 : n = 1
  · exact lit 1 c1 (rsim_F w a ha 1 rfl rfl rfl 1 rfl rfl (by decide) rfl)
  by_cases c2 : n = 2
  · exact lit 2 c2 (rsim_F w a ha 2 rfl rfl rfl 2 rfl rfl (by decide) rfl)
  by_cases c3 : n = 3
  · exact lit 3 c3 (rsim_F w a ha 3 rfl rfl rfl 4 rfl rfl (by decide) rfl)
  by_cases c5 : n = 5
  · exact lit 5 c5 (rsim_F w a ha 5 rfl rfl rfl 16 rfl rfl (by decide) rfl)
  by_cases c7 : n = 7
  · exact lit 7 c7 (rsim_F w a ha 7 rfl rfl rfl 32 rfl rfl (by decide) rfl)
  by_cases c8 : n = 8
  · exact lit 8 c8 (rsim_F w a ha 8 rfl rfl rfl 64 rfl rfl (by decide) rfl)
  by_cases c9 : n = 9
  · exact lit 9 c9 (rsim_F w a ha 9 rfl rfl rfl 128 rfl rfl (by decide) rfl)
  by_cases r30 : 30 ≤ n ∧ n ≤ 37
  · exact rsim_R30 w a n r30.1 r30.2
  by_cases r90 : 90 ≤ n ∧ n ≤ 97
  · exact rsim_R90 w a n r90.1 r90.2
  by_cases r40 : 40 ≤ n ∧ n ≤ 47
  · exact rsim_R40 w a n r40.1 r40.2
  by_cases r100 : 100 ≤ n ∧ n ≤ 107
  · exact rsim_R100 w a n r100.1 r100.2
  by_cases oL : n ≤ 26
  · exact rsim_OL w a n ⟨oL, c0, c1, c2, c3, c4, c5, c7, c8, c9, c21, c22, c23, c24, c25⟩
  by_cases o50 : n ≤ 89
  · exact rsim_O50 w a n (by omega)
  by_cases o98 : n ≤ 99
  · exact rsim_O98 w a n (by omega)
  exact rsim_O108 w a n (by omega)
end Go.Proofs.YtlmhnebgkginkaaDoor.Lab
