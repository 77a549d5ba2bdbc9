/- What color.Default answers to any number. -/
import Derived.Test.YthcncghhjlaicaaBasic
import Derived.Test.YthcncghhjlaicaaFormat
namespace Go.Proofs.Ythcncghhjlaicaa.Lab
open Go.RowKit

def defB (n : Int) : Bool := decide (0 ≤ n ∧ n < 256)
def greyV (n : Nat) : Nat × Nat × Nat := (257 * (8 + 10 * n), 257 * (8 + 10 * n), 257 * (8 + 10 * n))
def defV (n : Int) : Nat × Nat × Nat :=
  if n < 0 then (0, 0, 0) else if n < 16 then basicV n.toNat else if n < 232 then cubeV (n.toNat - 16) else if n < 256 then greyV (n.toNat - 232) else (0, 0, 0)

theorem basic_of {i : Int} (n : Nat) (hn : n < 16) (e : i = n) (w : World) : Calls Try.prog 20 #[.int .i64 i] w (ValPost (basicV n) w) := by
  subst e
  exact basic_any n hn w
theorem cube_of {i : Int} (n : Nat) (hn : n < 216) (e : i = n) (w : World) : Calls Try.prog 21 #[.int .i64 i] w (ValPost (cubeV n) w) := by
  subst e
  exact cube_any n hn w

theorem def_end {n : Int} {v : Nat × Nat × Nat} {b : Bool} (hv : defV n = v) (hb : defB n = b) {e : Ending} {w w' : World} (he : e = .returned (.tuple #[valT v, .bool b])) (h : Below w.heap.size w w') : FormPost (defV n) (defB n) w e w' := ⟨by rw [he, hv, hb], h⟩

set_option maxHeartbeats 2000000 in
theorem default_any (n : Int) (w : World) : Calls Try.prog 8 #[.int .i64 n] w (FormPost (defV n) (defB n) w) := by
  by_cases h0 : n < 0
  · go_enter Try.func8, Try.ntmps8
    go_wp2
    refine bodyPost_ret (v := .tuple #[valT (0, 0, 0), .bool false]) (by simp [results, Try.results8, go_sem]) rfl (def_end (by unfold defV; rw [if_pos h0]) (by unfold defB; rw [decide_eq_false (by omega)]) rfl ?_)
    exact (Below.refl _ _).alloc (Nat.le_refl _) _
  · by_cases h1 : 256 ≤ n
    · go_enter Try.func8, Try.ntmps8
      go_wp2
      refine bodyPost_ret (v := .tuple #[valT (0, 0, 0), .bool false]) (by simp [results, Try.results8, go_sem]) rfl (def_end (by unfold defV; rw [if_neg (by omega), if_neg (by omega), if_neg (by omega), if_neg (by omega)]) (by unfold defB; rw [decide_eq_false (by omega)]) rfl ?_)
      exact (Below.refl _ _).alloc (Nat.le_refl _) _
    · have hb : defB n = true := by unfold defB; rw [decide_eq_true (by omega)]
      have HB := Lib.hid hb
      clear hb
      by_cases h2 : n < 16
      · have hv : defV n = basicV n.toNat := by unfold defV; rw [if_neg h0, if_pos h2]
        have HV := Lib.hid hv
        clear hv
        go_enter Try.func8, Try.ntmps8
        go_wp2_with fail
        refine (basic_of n.toNat (by omega) (by omega) _).mono ?_
        rintro e w5 ⟨rfl, hb5⟩
        obtain ⟨⟨s2, s3, s4⟩, s5, s6, s7⟩ := (V3.below (V3.newAt w w.heap.size rfl 0 0 0 35) hb5).s
        generalize basicV n.toNat = v at *
        go_wp2
        refine bodyPost_ret (v := .tuple #[valT v, .bool true]) (by simp [results, Try.results8, go_sem, s2, s3, s4]) rfl (def_end HV.out HB.out rfl ?_)
        exact (((bstep ((Below.refl _ _).alloc (Nat.le_refl _) _) hb5).setCell (by simp) _).setCell (by simp) _).setCell (by simp) _
      · by_cases h3 : n < 232
        · have hv : defV n = cubeV (n.toNat - 16) := by unfold defV; rw [if_neg h0, if_neg h2, if_pos h3]
          have HV := Lib.hid hv
          clear hv
          go_enter Try.func8, Try.ntmps8
          go_wp2_with fail
          refine (cube_of (n.toNat - 16) (by omega) (by omega) _).mono ?_
          rintro e w5 ⟨rfl, hb5⟩
          obtain ⟨⟨s2, s3, s4⟩, s5, s6, s7⟩ := (V3.below (V3.newAt w w.heap.size rfl 0 0 0 35) hb5).s
          generalize cubeV (n.toNat - 16) = v at *
          go_wp2
          refine bodyPost_ret (v := .tuple #[valT v, .bool true]) (by simp [results, Try.results8, go_sem, s2, s3, s4]) rfl (def_end HV.out HB.out rfl ?_)
          exact (((bstep ((Below.refl _ _).alloc (Nat.le_refl _) _) hb5).setCell (by simp) _).setCell (by simp) _).setCell (by simp) _
        · have hv : defV n = greyV (n.toNat - 232) := by unfold defV; rw [if_neg h0, if_neg h2, if_neg h3, if_pos (by omega)]
          have HV := Lib.hid hv
          clear hv
          go_enter Try.func8, Try.ntmps8
          go_wp2_with fail
          refine (ofBytes_of (8 + 10 * (n.toNat - 232)) (8 + 10 * (n.toNat - 232)) (8 + 10 * (n.toNat - 232)) (by omega) (by omega) (by omega) (by omega) (by omega) (by omega) _).mono ?_
          rintro e w5 ⟨rfl, hb5⟩
          obtain ⟨⟨s2, s3, s4⟩, s5, s6, s7⟩ := (V3.below (V3.newAt w w.heap.size rfl 0 0 0 35) hb5).s
          obtain ⟨m, hm⟩ : ∃ m, 8 + 10 * (n.toNat - 232) = m := ⟨_, rfl⟩
          rw [hm]
          have HM := Lib.hid hm
          clear hm
          go_wp2
          refine bodyPost_ret (v := .tuple #[valT (257 * m, 257 * m, 257 * m), .bool true]) (by simp [results, Try.results8, go_sem, s2, s3, s4]) rfl (def_end (by rw [HV.out]; unfold greyV; rw [HM.out]) HB.out rfl ?_)
          exact (((bstep ((Below.refl _ _).alloc (Nat.le_refl _) _) hb5).setCell (by simp) _).setCell (by simp) _).setCell (by simp) _
end Go.Proofs.Ythcncghhjlaicaa.Lab
