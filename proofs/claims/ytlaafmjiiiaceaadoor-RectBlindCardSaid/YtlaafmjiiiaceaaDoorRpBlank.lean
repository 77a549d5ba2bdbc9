/- The project's Blank. -/
import Derived.Test.YtlaafmjiiiaceaaDoorRpWide
namespace Go.Proofs.YtlaafmjiiiaceaaDoor.Lab
open Go Go.RowKit

set_option maxHeartbeats 4000000 in
theorem blank_any (w : World) (a : At) (l : Int) : Calls Tryd.prog 31 #[attV a, .int .u8 l] w fun e w' => e = .returned (celV (blankM a l)) ∧ Below w.heap.size w w' := by
  obtain ⟨w0, hw0⟩ : ∃ w0, w0 = (w.alloc (.cells #[.int .u8 a.fg.k, .int .u8 a.fg.r, .int .u8 a.fg.g, .int .u8 a.fg.b, .int .u8 a.bg.k, .int .u8 a.bg.r, .int .u8 a.bg.g, .int .u8 a.bg.b, .int .u16 (a.fl : Nat)] 60)).alloc (.cells #[.int .i32 0, .int .i32 0, .int .i32 0, .int .u8 0, .int .u8 0, .int .u8 0, .int .u8 0, .int .u8 0, .int .u8 0, .int .u8 0, .int .u8 0, .int .u8 0, .int .u16 0, .int .u8 0] 62) := ⟨_, rfl⟩
  have b0 : Below w.heap.size w w0 := by rw [hw0]; exact ((Below.refl _ _).alloc (Nat.le_refl _) _).alloc (by simp) _
  have q4 : w0.cell? ⟨w.heap.size, 4, none⟩ = some (.int .u8 a.bg.k) := by rw [hw0]; simp
  have q5 : w0.cell? ⟨w.heap.size, 5, none⟩ = some (.int .u8 a.bg.r) := by rw [hw0]; simp
  have q6 : w0.cell? ⟨w.heap.size, 6, none⟩ = some (.int .u8 a.bg.g) := by rw [hw0]; simp
  have q7 : w0.cell? ⟨w.heap.size, 7, none⟩ = some (.int .u8 a.bg.b) := by rw [hw0]; simp
  obtain ⟨z, hz⟩ : ∃ z, z = w.heap.size + 1 := ⟨_, rfl⟩
  have HZ := Lib.hid (show BAt w0 z Cel.z by rw [hw0, hz]; exact BAt.newAt _ _ (by simp) Cel.z _)
  obtain ⟨x, hx⟩ : ∃ x, x = blankM a l := ⟨_, rfl⟩
  obtain ⟨wq, hwq⟩ : ∃ wq, wq = put14 w0 z 0 x := ⟨_, rfl⟩
  have Z := Lib.hid (show BAt wq z x by rw [hwq]; exact HZ.out.put x)
  have HB := Lib.hid (show Below w.heap.size w wq by rw [hwq]; exact b0.trans ((put14_but w0 z 0 x).below (C := w.heap.size) (by omega) b0.size))
  have HX := Lib.hid hx
  simp only [put14, Nat.zero_add, hx, blankM, Cl.zero] at hwq
  rw [show ((0 : Nat) : Int) = 0 from rfl] at hwq
  clear b0 hx
  go_enter Tryd.func31, Tryd.ntmps31
  go_upto_region 1 with (fail)
  rw [← hw0, ← hz]
  clear hw0 hz
  obtain ⟨_, ⟨z0, z1, z2, z3, z4, z5, z6, z7, z8, z9, z10, z11, z12, z13⟩, zf⟩ := HZ.out
  dsimp only at z0 z1 z2 z3 z4 z5 z6 z7 z8 z9 z10 z11 z12 z13
  go_wp2
  rw [← hwq]
  clear hwq z0 z1 z2 z3 z4 z5 z6 z7 z8 z9 z10 z11 z12 z13 zf q4 q5 q6 q7
  obtain ⟨_, ⟨k0, k1, k2, k3, k4, k5, k6, k7, k8, k9, k10, k11, k12, k13⟩, _⟩ := Z.out
  rw [← HX.out]
  exact bodyPost_ret (v := celV x) (by simp [results, Tryd.results31, go_sem, k0, k1, k2, k3, k4, k5, k6, k7, k8, k9, k10, k11, k12, k13]) rfl ⟨rfl, HB.out⟩
end Go.Proofs.YtlaafmjiiiaceaaDoor.Lab
