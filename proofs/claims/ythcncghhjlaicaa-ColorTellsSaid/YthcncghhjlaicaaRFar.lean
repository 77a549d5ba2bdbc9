/- What the document's answer for Far is, of any two values. -/
import Derived.Test.YthcncghhjlaicaaFar
namespace Go.Proofs.Ythcncghhjlaicaa.Lab
open Go.RowKit

set_option maxHeartbeats 4000000 in
theorem rfar_any (a b c d e f : Nat) (ha : a < 65536) (hb : b < 65536) (hc : c < 65536) (hd : d < 65536) (he : e < 65536) (hf : f < 65536) (w : World) :
    Calls Try.prog 14 #[val a b c, val d e f] w fun e' w' => e' = .returned (.int .i64 (farI (a, b, c) (d, e, f))) ∧ Below w.heap.size w w' := by
  obtain ⟨x1, y1⟩ := sqd_bd a d ha hd
  obtain ⟨x2, y2⟩ := sqd_bd b e hb he
  obtain ⟨x3, y3⟩ := sqd_bd c f hc hf
  have hfar : farI (a, b, c) (d, e, f) = sqd a d + sqd b e + sqd c f := rfl
  have HF := Lib.hid hfar
  clear hfar
  unfold sqd at *
  go_enter Try.func14, Try.ntmps14
  go_wp2
  refine wp_loop_rounds 4 ?_
  rw [rounds_succ]
  go_wp2
  go_quiet (fail)
  go_wp2
  rw [rounds_succ]
  go_wp2
  go_quiet (fail)
  go_wp2
  rw [rounds_succ]
  go_wp2
  go_quiet (fail)
  go_wp2
  rw [rounds_succ]
  go_wp2
  go_ret
  exact ⟨ret_int HF.out.symm, belowN (((Below.refl _ _).alloc (Nat.le_refl _) _).alloc (by simp) _) _⟩

theorem rfar_of {v u : Nat × Nat × Nat} (hv : U16 v) (hu : U16 u) (w : World) :
    Calls Try.prog 14 #[valT v, valT u] w fun e' w' => e' = .returned (.int .i64 (farI v u)) ∧ Below w.heap.size w w' :=
  rfar_any v.1 v.2.1 v.2.2 u.1 u.2.1 u.2.2 hv.1 hv.2.1 hv.2.2 hu.1 hu.2.1 hu.2.2 w
end Go.Proofs.Ythcncghhjlaicaa.Lab
