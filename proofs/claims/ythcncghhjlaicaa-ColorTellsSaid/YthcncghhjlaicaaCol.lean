/- What each function of package color answers to any arguments: contracts, each for every text, value, number and memory. -/
import Derived.Test.YthcncghhjlaicaaShelf
import Derived.WalkKit
import Derived.Deep.QuietTactic
import Derived.BigQuiet
import Derived.LoopTactic
import Derived.Outline
import Derived.Lib.Hide
import Derived.WalkSpells
import Derived.WalkLawsBesides
import Derived.Below
import Derived.Laws.BitsAllLaws
namespace Go.Proofs.Ythcncghhjlaicaa.Lab
open Go.RowKit

theorem ret_bool {a b : Bool} (h : a = b) : Ending.returned (.bool a) = .returned (.bool b) := by rw [h]
theorem ret_int {k : IntKind} {a b : Int} (h : a = b) : Ending.returned (.int k a) = .returned (.int k b) := by rw [h]

abbrev val (a b c : Int) : Value := .agg #[.int .u16 a, .int .u16 b, .int .u16 c]

theorem or_high (a b i m : Nat) (hm : m = 2 ^ i) (h : a < m) : b * m ||| a = b * m + a := by
  subst hm
  rw [← Nat.shiftLeft_eq, Nat.shiftLeft_add_eq_or_of_lt h]

theorem or16 (a b : Nat) (h : a < 16) (hb : b * 16 < 65536) : bits BinOp.or IntKind.u16 ((b : Int) * 16) (a : Int) = ((b * 16 + a : Nat) : Int) := by
  have e : ((b : Int) * 16) = ((b * 16 : Nat) : Int) := by omega
  rw [e, u16_or_nat (b * 16) a hb (by omega), or_high a b 4 16 (by decide) h]

theorem or256 (a b : Nat) (h : a < 256) (hb : b * 256 < 65536) : bits BinOp.or IntKind.u16 ((b : Int) * 256) (a : Int) = ((b * 256 + a : Nat) : Int) := by
  have e : ((b : Int) * 256) = ((b * 256 : Nat) : Int) := by omega
  rw [e, u16_or_nat (b * 256) a hb (by omega), or_high a b 8 256 (by decide) h]

theorem twice_any (b : Nat) (hb : b < 256) (w : World) : Calls Try.prog 30 #[.int .u8 b] w fun e w' => e = .returned (.int .u16 (257 * b : Nat)) ∧ w = w' := by
  have h := Lib.hid (or256 b b hb (by omega))
  go_enter Try.func30, Try.ntmps30
  go_wp2
  go_ret
  exact ⟨ret_int (by rw [h.out]; omega), rfl⟩

/-- A digit's number; whether it is one. -/
def digV (c : Nat) : Nat := if 48 ≤ c ∧ c ≤ 57 then c - 48 else if 97 ≤ c ∧ c ≤ 102 then c - 87 else if 65 ≤ c ∧ c ≤ 70 then c - 55 else 0
def digB (c : Nat) : Bool := decide (48 ≤ c ∧ c ≤ 57) || decide (97 ≤ c ∧ c ≤ 102) || decide (65 ≤ c ∧ c ≤ 70)

theorem digV_lt (c : Nat) : digV c < 16 := by unfold digV; split <;> (try split) <;> (try split) <;> omega

theorem ret_ib {a b : Int} {p q : Bool} (h : a = b) (h2 : p = q) : Ending.returned (.tuple #[.int .u16 a, .bool p]) = .returned (.tuple #[.int .u16 b, .bool q]) := by rw [h, h2]

set_option maxHeartbeats 1000000 in
theorem digit_any (c : Nat) (hc : c < 256) (w : World) : Calls Try.prog 43 #[.int .u8 c] w fun e w' => e = .returned (.tuple #[.int .u16 (digV c : Nat), .bool (digB c)]) ∧ w = w' := by
  by_cases h1 : 48 ≤ c ∧ c ≤ 57
  · obtain ⟨a, b⟩ := h1
    go_enter Try.func43, Try.ntmps43
    go_wp2
    go_ret2
    exact ⟨ret_ib (by unfold digV; rw [if_pos ⟨a, b⟩]; omega) (by simp [digB, a, b]), rfl⟩
  · by_cases h2 : 97 ≤ c ∧ c ≤ 102
    · obtain ⟨a, b⟩ := h2
      have n1 : ¬ c ≤ 57 := by omega
      go_enter Try.func43, Try.ntmps43
      go_wp2
      go_ret2
      exact ⟨ret_ib (by unfold digV; rw [if_neg h1, if_pos ⟨a, b⟩]; omega) (by simp [digB, a, b]), rfl⟩
    · by_cases h3 : 65 ≤ c ∧ c ≤ 70
      · obtain ⟨a, b⟩ := h3
        have n1 : ¬ c ≤ 57 := by omega
        have n2 : ¬ 97 ≤ c := by omega
        go_enter Try.func43, Try.ntmps43
        go_wp2
        go_ret2
        exact ⟨ret_ib (by unfold digV; rw [if_neg h1, if_neg h2, if_pos ⟨a, b⟩]; omega) (by simp [digB, a, b]), rfl⟩
      · have e1 : digV c = 0 := by unfold digV; rw [if_neg h1, if_neg h2, if_neg h3]
        have e2 : digB c = false := by simp only [digB, decide_eq_false h1, decide_eq_false h2, decide_eq_false h3]; rfl
        rw [e1, e2]
        clear e1 e2
        go_enter Try.func43, Try.ntmps43
        go_wp2
        all_goals first | (exfalso; omega) | (go_ret2; exact ⟨rfl, rfl⟩)
end Go.Proofs.Ythcncghhjlaicaa.Lab
