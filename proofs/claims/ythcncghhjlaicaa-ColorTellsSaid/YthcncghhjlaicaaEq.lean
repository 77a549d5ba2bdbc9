/- What == tells of two values of package color. -/
import Derived.Test.YthcncghhjlaicaaRgb
namespace Go.Proofs.Ythcncghhjlaicaa.Lab
open Go.RowKit

def eq3 (a b c d e f : Int) : Bool := a == d && (b == e && c == f)

theorem eqVal (a b c d e f : Int) (w : World) : (Op.equalIn 10000 35 (.agg #[.int .u16 a, .int .u16 b, .int .u16 c]) (.agg #[.int .u16 d, .int .u16 e, .int .u16 f])).run Try.prog w = .ok (eq3 a b c d e f) w := by
  have u3 := Try.underlying22
  have a3 := Try.isAgg22
  have z3 := Try.sizeOf22
  rw [show (10000 : Nat) = 9999 + 1 from rfl, Op.equalIn]
  simp only [Sem.run_bind, run_underlying Try.underlying35, Result.andThen_ok]
  simp only [Std.Legacy.Range.forIn_eq_forIn_range', Std.Legacy.Range.size, Nat.sub_zero, Nat.add_sub_cancel, Nat.div_one, List.range'_succ, List.range'_zero, List.forIn_cons, List.forIn_nil]
  go_simp
  by_cases h1 : a = d <;> by_cases h2 : b = e <;> by_cases h3 : c = f <;> simp [h1, h2, h3, eq3]

theorem eq3_nat (v u : Nat × Nat × Nat) : eq3 v.1 v.2.1 v.2.2 u.1 u.2.1 u.2.2 = decide (v = u) := by
  obtain ⟨a, b, c⟩ := v
  obtain ⟨d, e, f⟩ := u
  have k : ∀ m n : Nat, ((m : Int) == (n : Int)) = decide (m = n) := by
    intro m n
    by_cases h : m = n
    · simp [h]
    · rw [decide_eq_false h]
      simp
      omega
  unfold eq3
  rw [k, k, k]
  by_cases h1 : a = d <;> by_cases h2 : b = e <;> by_cases h3 : c = f <;> simp [h1, h2, h3]
end Go.Proofs.Ythcncghhjlaicaa.Lab
