/- What package color's rows answers to any three texts. -/
import Derived.Test.YthcncghhjlaicaaPart
namespace Go.Proofs.Ythcncghhjlaicaa.Lab
open Go.RowKit

theorem bcell {W w1 : World} (hb : Below W.heap.size W w1) : (∀ b o, b < W.heap.size → w1.cell? ⟨b, o, none⟩ = W.cell? ⟨b, o, none⟩) ∧ (∀ b o, b < W.heap.size → w1.frozen? ⟨b, o, none⟩ = W.frozen? ⟨b, o, none⟩) :=
  ⟨fun b o h => hb.cell (p := ⟨b, o, none⟩) h, fun b o h => hb.frozen (p := ⟨b, o, none⟩) h⟩
theorem bstep {w v v' : World} (h : Below w.heap.size w v) (hb : Below v.heap.size v v') : Below w.heap.size w v' := h.trans (hb.mono h.size)

def rowsB (a b c : List UInt8) : Bool := partB a && (partB b && partB c)
def rowsV (a b c : List UInt8) : Nat × Nat × Nat := if rowsB a b c = true then (partV a, partV b, partV c) else (0, 0, 0)

abbrev valT (v : Nat × Nat × Nat) : Value := val v.1 v.2.1 v.2.2

def RowsPost (a b c : List UInt8) (w : World) (e : Ending) (w' : World) : Prop := e = .returned (.tuple #[valT (rowsV a b c), .bool (rowsB a b c)]) ∧ Below w.heap.size w w'

theorem rows_none {a b c : List UInt8} (h : rowsB a b c = false) {e : Ending} {w w' : World} (he : e = .returned (.tuple #[val 0 0 0, .bool false])) (hb : Below w.heap.size w w') : RowsPost a b c w e w' := by
  refine ⟨?_, hb⟩
  rw [he, h]
  unfold rowsV
  rw [h]
  rfl

theorem rows_some {a b c : List UInt8} (ha : partB a = true) (hb : partB b = true) (hc : partB c = true) {e : Ending} {w w' : World} (he : e = .returned (.tuple #[val (partV a) (partV b) (partV c), .bool true])) (hw : Below w.heap.size w w') : RowsPost a b c w e w' := by
  have h : rowsB a b c = true := by unfold rowsB; rw [ha, hb, hc]; rfl
  refine ⟨?_, hw⟩
  rw [he, h]
  unfold rowsV
  rw [if_pos h]

set_option maxHeartbeats 2000000 in
theorem rows_any (s1 s2 s3 : ByteArray) (h1 : s1.size ≤ maxLen) (h2 : s2.size ≤ maxLen) (h3 : s3.size ≤ maxLen) (w : World) :
    Calls Try.prog 34 #[.string s1, .string s2, .string s3] w (RowsPost s1.data.toList s2.data.toList s3.data.toList w) := by
  have i0 : ∀ w, (Instr.index 80 (.agg #[.string s1, .string s2, .string s3]) (.int .i64 0)).run Try.prog w = .ok (.string s1) w := fun _ => by kernel_rfl
  have i1 : ∀ w, (Instr.index 80 (.agg #[.string s1, .string s2, .string s3]) (.int .i64 1)).run Try.prog w = .ok (.string s2) w := fun _ => by kernel_rfl
  have i2 : ∀ w, (Instr.index 80 (.agg #[.string s1, .string s2, .string s3]) (.int .i64 2)).run Try.prog w = .ok (.string s3) w := fun _ => by kernel_rfl
  by_cases p1 : partB s1.data.toList = true
  · by_cases p2 : partB s2.data.toList = true
    · by_cases p3 : partB s3.data.toList = true
      · go_enter Try.func34, Try.ntmps34
        go_wp2
        refine wp_loop_rounds 4 ?_
        rw [rounds_succ]
        go_wp2_with fail
        refine (part_any _ h1 _).mono ?_
        rintro e w' ⟨rfl, rfl⟩
        go_wp2
        rw [rounds_succ]
        go_wp2_with fail
        refine (part_any _ h2 _).mono ?_
        rintro e w' ⟨rfl, rfl⟩
        go_wp2
        rw [rounds_succ]
        go_wp2_with fail
        refine (part_any _ h3 _).mono ?_
        rintro e w' ⟨rfl, rfl⟩
        go_wp2
        rw [rounds_succ]
        go_wp2
        refine bodyPost_ret (v := .tuple #[val (partV s1.data.toList) (partV s2.data.toList) (partV s3.data.toList), .bool true]) (by simp [results, Try.results34, go_sem]) rfl (rows_some p1 p2 p3 rfl ?_)
        exact ((Below.refl _ _).alloc (Nat.le_refl _) _).alloc (by simp) _
      · have q3 : partB s3.data.toList = false := by simpa using p3
        go_enter Try.func34, Try.ntmps34
        go_wp2
        refine wp_loop_rounds 4 ?_
        rw [rounds_succ]
        go_wp2_with fail
        refine (part_any _ h1 _).mono ?_
        rintro e w' ⟨rfl, rfl⟩
        go_wp2
        rw [rounds_succ]
        go_wp2_with fail
        refine (part_any _ h2 _).mono ?_
        rintro e w' ⟨rfl, rfl⟩
        go_wp2
        rw [rounds_succ]
        go_wp2_with fail
        refine (part_any _ h3 _).mono ?_
        rintro e w' ⟨rfl, rfl⟩
        go_wp2
        refine bodyPost_ret (v := .tuple #[val 0 0 0, .bool false]) (by simp [results, Try.results34, go_sem]) rfl (rows_none (by unfold rowsB; rw [p1, p2, q3]; rfl) rfl ?_)
        exact ((Below.refl _ _).alloc (Nat.le_refl _) _).alloc (by simp) _
    · have q2 : partB s2.data.toList = false := by simpa using p2
      go_enter Try.func34, Try.ntmps34
      go_wp2
      refine wp_loop_rounds 4 ?_
      rw [rounds_succ]
      go_wp2_with fail
      refine (part_any _ h1 _).mono ?_
      rintro e w' ⟨rfl, rfl⟩
      go_wp2
      rw [rounds_succ]
      go_wp2_with fail
      refine (part_any _ h2 _).mono ?_
      rintro e w' ⟨rfl, rfl⟩
      go_wp2
      refine bodyPost_ret (v := .tuple #[val 0 0 0, .bool false]) (by simp [results, Try.results34, go_sem]) rfl (rows_none (by unfold rowsB; rw [p1, q2]; rfl) rfl ?_)
      exact ((Below.refl _ _).alloc (Nat.le_refl _) _).alloc (by simp) _
  · have q1 : partB s1.data.toList = false := by simpa using p1
    go_enter Try.func34, Try.ntmps34
    go_wp2
    refine wp_loop_rounds 4 ?_
    rw [rounds_succ]
    go_wp2_with fail
    refine (part_any _ h1 _).mono ?_
    rintro e w' ⟨rfl, rfl⟩
    go_wp2
    refine bodyPost_ret (v := .tuple #[val 0 0 0, .bool false]) (by simp [results, Try.results34, go_sem]) rfl (rows_none (by unfold rowsB; rw [q1]; rfl) rfl ?_)
    exact ((Below.refl _ _).alloc (Nat.le_refl _) _).alloc (by simp) _
end Go.Proofs.Ythcncghhjlaicaa.Lab
