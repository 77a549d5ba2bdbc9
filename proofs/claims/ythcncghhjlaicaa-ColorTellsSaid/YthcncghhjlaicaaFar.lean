/- What color.Far answers to any two values. -/
import Derived.Test.YthcncghhjlaicaaRgb
import Derived.IntWalk
namespace Go.Proofs.Ythcncghhjlaicaa.Lab
open Go.RowKit

def sqd (a d : Nat) : Int := ((a : Int) / 257 - (d : Int) / 257) * ((a : Int) / 257 - (d : Int) / 257)
def farI (v u : Nat × Nat × Nat) : Int := sqd v.1 u.1 + sqd v.2.1 u.2.1 + sqd v.2.2 u.2.2

theorem sqd_bd (a d : Nat) (ha : a < 65536) (hd : d < 65536) : 0 ≤ sqd a d ∧ sqd a d ≤ 65025 := by
  unfold sqd
  generalize hx : (a : Int) / 257 - (d : Int) / 257 = x
  have h1 : -255 ≤ x := by omega
  have h2 : x ≤ 255 := by omega
  refine ⟨?_, ?_⟩
  · by_cases h : 0 ≤ x
    · exact Int.mul_nonneg h h
    · have := Int.mul_nonneg (show 0 ≤ -x by omega) (show 0 ≤ -x by omega)
      rwa [Int.neg_mul_neg] at this
  · by_cases h : 0 ≤ x
    · have := Int.mul_le_mul h2 h2 h (by omega)
      omega
    · have := Int.mul_le_mul (show -x ≤ 255 by omega) (show -x ≤ 255 by omega) (show 0 ≤ -x by omega) (by omega)
      rw [Int.neg_mul_neg] at this
      omega

def U16 (v : Nat × Nat × Nat) : Prop := v.1 < 65536 ∧ v.2.1 < 65536 ∧ v.2.2 < 65536

set_option maxHeartbeats 4000000 in
theorem far_any (a b c d e f : Nat) (ha : a < 65536) (hb : b < 65536) (hc : c < 65536) (hd : d < 65536) (he : e < 65536) (hf : f < 65536) (w : World) :
    Calls Try.prog 13 #[val a b c, val d e f] w fun e' w' => e' = .returned (.int .i64 (farI (a, b, c) (d, e, f))) ∧ Below w.heap.size w w' := by
  obtain ⟨x1, y1⟩ := sqd_bd a d ha hd
  obtain ⟨x2, y2⟩ := sqd_bd b e hb he
  obtain ⟨x3, y3⟩ := sqd_bd c f hc hf
  have hfar : farI (a, b, c) (d, e, f) = sqd a d + sqd b e + sqd c f := rfl
  have HF := Lib.hid hfar
  clear hfar
  unfold sqd at *
  go_enter Try.func13, Try.ntmps13
  go_wp2
  refine wp_loop_rounds 4 ?_
  rw [rounds_succ]
  go_wp2
  go_quiet (fail)
  go_wp2
  rw [rounds_succ]
  go_wp2
  go_quiet (fail)
  go_wp2
  rw [rounds_succ]
  go_wp2
  go_quiet (fail)
  go_wp2
  rw [rounds_succ]
  go_wp2
  go_ret
  exact ⟨ret_int HF.out.symm, belowN (((Below.refl _ _).alloc (Nat.le_refl _) _).alloc (by simp) _) _⟩

theorem far_of {v u : Nat × Nat × Nat} (hv : U16 v) (hu : U16 u) (w : World) :
    Calls Try.prog 13 #[valT v, valT u] w fun e' w' => e' = .returned (.int .i64 (farI v u)) ∧ Below w.heap.size w w' :=
  far_any v.1 v.2.1 v.2.2 u.1 u.2.1 u.2.2 hv.1 hv.2.1 hv.2.2 hu.1 hu.2.1 hu.2.2 w
end Go.Proofs.Ythcncghhjlaicaa.Lab
