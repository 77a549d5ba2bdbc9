/- Rows of numbers, and rows of such rows, as they can be read, whoever has made them; tokens as values. -/
import Derived.WalkKit
import Derived.BigRegion
import Derived.BigQuiet
import Derived.Deep.QuietTactic
import Derived.IntWalk
import Derived.Below
import Derived.Lib.Hide
import Derived.RegionTactic
import Derived.Test.YtclaopidjfekmaaDoorTakes
import Derived.Test.YtclaopidjfekmaaDoorProg
import Derived.Test.YtclaopidjfekmaaDoorToMathB
namespace Go.Proofs.YtclaopidjfekmaaDoor.Lab
open Go.RowKit

/-- What a world holds, the other one holds too. -/
def Keeps (w w' : World) : Prop := ∀ b o v, w.cell? ⟨b, o, none⟩ = some v → w'.cell? ⟨b, o, none⟩ = some v
theorem Keeps.refl (w : World) : Keeps w w := fun _ _ _ h => h
theorem Keeps.trans {a b c : World} (h : Keeps a b) (k : Keeps b c) : Keeps a c := fun x o v hv => k x o v (h x o v hv)
theorem Keeps.of {w w' : World} (h : Below w.heap.size w w') : Keeps w w' := fun b o _ hv => (h.cell (p := ⟨b, o, none⟩) (World.block_lt_of_cell? (a := ⟨b, o, none⟩) w hv)).trans hv

/-- A row of numbers. -/
def NumsAt (w : World) (v : Value) (r : List Int) : Prop :=
  ∃ a c, v = .slice a r.length c ∧ r.length ≤ maxLen ∧ (0 < r.length → ∃ g o, a = some ⟨g, o, none⟩ ∧ ∀ j, j < r.length → w.cell? ⟨g, o + j, none⟩ = some (.int .i64 (r.getD j 0)))
/-- A row of rows of numbers. -/
def MatAt (w : World) (v : Value) (R : Rws) : Prop :=
  ∃ a c, v = .slice a R.length c ∧ R.length ≤ maxLen ∧ (0 < R.length → ∃ g o, a = some ⟨g, o, none⟩ ∧ ∀ j, j < R.length → ∃ u, w.cell? ⟨g, o + j, none⟩ = some u ∧ NumsAt w u (R.getD j []))
theorem NumsAt.on {w w' : World} {v : Value} {r : List Int} (h : NumsAt w v r) (k : Keeps w w') : NumsAt w' v r := by
  obtain ⟨a, c, e, hm, h⟩ := h
  refine ⟨a, c, e, hm, fun h0 => ?_⟩
  obtain ⟨g, o, ea, hc⟩ := h h0
  exact ⟨g, o, ea, fun j hj => k _ _ _ (hc j hj)⟩
theorem MatAt.on {w w' : World} {v : Value} {R : Rws} (h : MatAt w v R) (k : Keeps w w') : MatAt w' v R := by
  obtain ⟨a, c, e, hm, h⟩ := h
  refine ⟨a, c, e, hm, fun h0 => ?_⟩
  obtain ⟨g, o, ea, hc⟩ := h h0
  refine ⟨g, o, ea, fun j hj => ?_⟩
  obtain ⟨u, hu, hn⟩ := hc j hj
  exact ⟨u, k _ _ _ hu, hn.on k⟩
theorem NumsAt.below {w w' : World} {v : Value} {r : List Int} (h : NumsAt w v r) (k : Below w.heap.size w w') : NumsAt w' v r := h.on (.of k)
theorem MatAt.below {w w' : World} {v : Value} {R : Rws} (h : MatAt w v R) (k : Below w.heap.size w w') : MatAt w' v R := h.on (.of k)
theorem MatAt.nil (w : World) : MatAt w (.slice none 0 0) [] := ⟨none, 0, rfl, by simp, fun h => by simp at h⟩
theorem NumsAt.nil (w : World) : NumsAt w (.slice none 0 0) [] := ⟨none, 0, rfl, by simp, fun h => by simp at h⟩

/-- A token as a value: v reads as its parameters. -/
abbrev tokV (t : Tok) (v : Value) : Value := .agg #[.int .i64 t.kind, .int .i32 t.rune, .int .u8 t.priv, v, .string t.inter, .int .u8 t.fin, .string t.data]

/-- Is a number from one to another one? -/
def btw (a b x : Int) : Bool := decide (a ≤ x ∧ x ≤ b)
theorem btw_yes {a b x : Int} (h0 : a ≤ x) (h1 : x ≤ b) : btw a b x = true := by simp [btw, h0, h1]
theorem btw_iff {a b x : Int} : btw a b x = true ↔ a ≤ x ∧ x ≤ b := by simp [btw]
def ctlB (c : Int) : Bool := decide (c < 32 ∧ c ≠ 24 ∧ c ≠ 26 ∧ c ≠ 27)
def prnB (r : Int) : Bool := Utf8.valid r && decide (32 ≤ r) && !btw 127 159 r
theorem prn_iff {r : Int} : prnB r = true ↔ prnOk r := by
  unfold prnB prnOk
  rw [Bool.and_eq_true, Bool.and_eq_true, decide_eq_true_eq, Bool.not_eq_true', ← Bool.not_eq_true, btw_iff]
  exact ⟨fun ⟨⟨a, b⟩, c⟩ => ⟨a, b, c⟩, fun ⟨a, b, c⟩ => ⟨⟨a, b⟩, c⟩⟩
theorem ctl_iff {c : Int} : ctlB c = true ↔ ctlOk c := by simp [ctlB, ctlOk]

set_option maxHeartbeats 1000000 in
theorem within_u8 (x a b : Int) (w : World) : Calls Tryd.prog 46 #[.int .u8 x, .int .u8 a, .int .u8 b] w fun e w' => e = .returned (.bool (btw a b x)) ∧ w = w' := by
  have HB := Lib.hid (show btw a b x = (decide (a ≤ x) && decide (x ≤ b)) by simp [btw])
  by_cases h : a ≤ x
  all_goals
    by_cases h2 : x ≤ b
    all_goals
      go_enter Tryd.func46, Tryd.ntmps46
      go_wp2
      go_ret
      exact ⟨by rw [HB.out]; simp [h, h2], rfl⟩
set_option maxHeartbeats 1000000 in
theorem within_i32 (x a b : Int) (w : World) : Calls Tryd.prog 60 #[.int .i32 x, .int .i32 a, .int .i32 b] w fun e w' => e = .returned (.bool (btw a b x)) ∧ w = w' := by
  have HB := Lib.hid (show btw a b x = (decide (a ≤ x) && decide (x ≤ b)) by simp [btw])
  by_cases h : a ≤ x
  all_goals
    by_cases h2 : x ≤ b
    all_goals
      go_enter Tryd.func60, Tryd.ntmps60
      go_wp2
      go_ret
      exact ⟨by rw [HB.out]; simp [h, h2], rfl⟩
set_option maxHeartbeats 1000000 in
theorem within_i64 (x a b : Int) (w : World) : Calls Tryd.prog 77 #[.int .i64 x, .int .i64 a, .int .i64 b] w fun e w' => e = .returned (.bool (btw a b x)) ∧ w = w' := by
  have HB := Lib.hid (show btw a b x = (decide (a ≤ x) && decide (x ≤ b)) by simp [btw])
  by_cases h : a ≤ x
  all_goals
    by_cases h2 : x ≤ b
    all_goals
      go_enter Tryd.func77, Tryd.ntmps77
      go_wp2
      go_ret
      exact ⟨by rw [HB.out]; simp [h, h2], rfl⟩
end Go.Proofs.YtclaopidjfekmaaDoor.Lab
