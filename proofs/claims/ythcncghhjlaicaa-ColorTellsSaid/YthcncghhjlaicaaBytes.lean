/- What package color's ofBytes, packed and cube answer to any number that they take. -/
import Derived.Test.YthcncghhjlaicaaRgb
namespace Go.Proofs.Ythcncghhjlaicaa.Lab
open Go.RowKit

def ValPost (v : Nat × Nat × Nat) (w : World) (e : Ending) (w' : World) : Prop := e = .returned (valT v) ∧ Below w.heap.size w w'

theorem ofBytes_any (r g b : Nat) (hr : r < 256) (hg : g < 256) (hb : b < 256) (w : World) : Calls Try.prog 22 #[.int .u8 r, .int .u8 g, .int .u8 b] w (ValPost (257 * r, 257 * g, 257 * b) w) := by
  go_enter Try.func22, Try.ntmps22
  go_wp2_with fail
  refine (twice_any _ hr _).mono ?_
  rintro e w' ⟨rfl, rfl⟩
  go_wp2_with fail
  refine (twice_any _ hg _).mono ?_
  rintro e w' ⟨rfl, rfl⟩
  go_wp2_with fail
  refine (twice_any _ hb _).mono ?_
  rintro e w' ⟨rfl, rfl⟩
  go_wp2
  refine bodyPost_ret (v := valT (257 * r, 257 * g, 257 * b)) (by simp [results, Try.results22, go_sem]) rfl ⟨rfl, ?_⟩
  exact (Below.refl _ _).alloc (Nat.le_refl _) _

theorem ofBytes_of {i j k : Int} (r g b : Nat) (hr : r < 256) (hg : g < 256) (hb : b < 256) (ei : i = r) (ej : j = g) (ek : k = b) (w : World) : Calls Try.prog 22 #[.int .u8 i, .int .u8 j, .int .u8 k] w (ValPost (257 * r, 257 * g, 257 * b) w) := by
  subst ei ej ek
  exact ofBytes_any r g b hr hg hb w

theorem packed_any (n : Nat) (hn : n < 16777216) (w : World) : Calls Try.prog 28 #[.int .u32 n] w (ValPost (257 * (n / 65536), 257 * (n / 256 % 256), 257 * (n % 256)) w) := by
  go_enter Try.func28, Try.ntmps28
  go_wp2_with fail
  refine (ofBytes_of (n / 65536) (n / 256 % 256) (n % 256) (by omega) (by omega) (by omega) (by omega) (by omega) (by omega) _).mono ?_
  rintro e w5 ⟨rfl, hb5⟩
  obtain ⟨⟨s2, s3, s4⟩, s5, s6, s7⟩ := (V3.below (V3.newAt w w.heap.size rfl 0 0 0 35) hb5).s
  go_wp2
  refine bodyPost_ret (v := valT (257 * (n / 65536), 257 * (n / 256 % 256), 257 * (n % 256))) (by simp [results, Try.results28, go_sem, s2, s3, s4]) rfl ⟨rfl, ?_⟩
  exact (((bstep ((Below.refl _ _).alloc (Nat.le_refl _) _) hb5).setCell (by simp) _).setCell (by simp) _).setCell (by simp) _

def step6 (n : Nat) : Nat := if n = 0 then 0 else 55 + 40 * n

theorem cube1_any (n : Nat) (hn : n < 6) (w : World) : Calls Try.prog 29 #[.int .i64 n] w fun e w' => e = .returned (.int .u8 (step6 n : Nat)) ∧ w = w' := by
  by_cases h : n = 0
  · subst h
    go_enter Try.func29, Try.ntmps29
    go_wp2
    go_ret
    exact ⟨rfl, rfl⟩
  · have h1 : ((n : Int) == 0) = false := by simp; omega
    go_enter Try.func29, Try.ntmps29
    go_wp2
    go_ret
    exact ⟨ret_int (by unfold step6; rw [if_neg h]; omega), rfl⟩

theorem cube1_of {i : Int} (n : Nat) (hn : n < 6) (e : i = n) (w : World) : Calls Try.prog 29 #[.int .i64 i] w fun e w' => e = .returned (.int .u8 (step6 n : Nat)) ∧ w = w' := by
  subst e
  exact cube1_any n hn w

theorem step6_lt (n : Nat) (hn : n < 6) : step6 n < 256 := by unfold step6; split <;> omega

def cubeV (n : Nat) : Nat × Nat × Nat := (257 * step6 (n / 36), 257 * step6 (n / 6 % 6), 257 * step6 (n % 6))

theorem cube_any (n : Nat) (hn : n < 216) (w : World) : Calls Try.prog 21 #[.int .i64 n] w (ValPost (cubeV n) w) := by
  go_enter Try.func21, Try.ntmps21
  go_wp2_with fail
  refine (cube1_of (n / 36) (by omega) (by omega) _).mono ?_
  rintro e w' ⟨rfl, rfl⟩
  go_wp2_with fail
  refine (cube1_of (n / 6 % 6) (by omega) (by omega) _).mono ?_
  rintro e w' ⟨rfl, rfl⟩
  go_wp2_with fail
  refine (cube1_of (n % 6) (by omega) (by omega) _).mono ?_
  rintro e w' ⟨rfl, rfl⟩
  go_wp2_with fail
  refine (ofBytes_any _ _ _ (step6_lt _ (by omega)) (step6_lt _ (by omega)) (step6_lt _ (by omega)) _).mono ?_
  rintro e w5 ⟨rfl, hb5⟩
  obtain ⟨⟨s2, s3, s4⟩, s5, s6, s7⟩ := (V3.below (V3.newAt w w.heap.size rfl 0 0 0 35) hb5).s
  go_wp2
  refine bodyPost_ret (v := valT (cubeV n)) (by simp [results, Try.results21, go_sem, s2, s3, s4]; exact ⟨rfl, rfl, rfl⟩) rfl ⟨rfl, ?_⟩
  exact (((bstep ((Below.refl _ _).alloc (Nat.le_refl _) _) hb5).setCell (by simp) _).setCell (by simp) _).setCell (by simp) _
end Go.Proofs.Ythcncghhjlaicaa.Lab
