/- What == tells of two tab stops. -/
import Derived.Test.YtmfbknmcmopjnaaTbMath
import Derived.Test.YtmfbknmcmopjnaaProg
import Derived.ChangeKeysEq
import Derived.Laws.StructEq
namespace Go.Proofs.Ytmfbknmcmopjnaa.Lab
open Go Go.RowKit

set_option maxHeartbeats 2000000 in
theorem eqWords (n : Nat) (w : World) (a b c d e f g h a' b' c' d' e' f' g' h' : Int) : (Op.equalIn (n + 1 + 1) 25 (.agg #[.int .u64 a, .int .u64 b, .int .u64 c, .int .u64 d, .int .u64 e, .int .u64 f, .int .u64 g, .int .u64 h]) (.agg #[.int .u64 a', .int .u64 b', .int .u64 c', .int .u64 d', .int .u64 e', .int .u64 f', .int .u64 g', .int .u64 h'])).run Try.prog w = .ok (decide (a = a' ∧ b = b' ∧ c = c' ∧ d = d' ∧ e = e' ∧ f = f' ∧ g = g' ∧ h = h')) w := by
  have u3 := Try.underlying24
  have a3 := Try.isAgg24
  have z3 := Try.sizeOf24
  rw [Op.equalIn]
  simp only [Sem.run_bind, run_underlying Try.underlying25, Result.andThen_ok]
  simp only [Std.Legacy.Range.forIn_eq_forIn_range', Std.Legacy.Range.size, Nat.sub_zero, Nat.add_sub_cancel, Nat.div_one, List.range'_succ, List.range'_zero, List.forIn_cons, List.forIn_nil]
  go_simp
  by_cases h0 : a = a'
  case neg => simp [h0]
  by_cases h1 : b = b'
  case neg => simp [h0, h1]
  by_cases h2 : c = c'
  case neg => simp [h0, h1, h2]
  by_cases h3 : d = d'
  case neg => simp [h0, h1, h2, h3]
  by_cases h4 : e = e'
  case neg => simp [h0, h1, h2, h3, h4]
  by_cases h5 : f = f'
  case neg => simp [h0, h1, h2, h3, h4, h5]
  by_cases h6 : g = g'
  case neg => simp [h0, h1, h2, h3, h4, h5, h6]
  by_cases h7 : h = h' <;> simp [h0, h1, h2, h3, h4, h5, h6, h7]
theorem fieldsT : (Try.prog.fieldsOf 28).toList = [{ name := "stops", type := 25, offset := 0, embedded := false, tag := "", pkgPath := "marquee/tabs", byteOffset := 0 }, { name := "cols", type := 3, offset := 8, embedded := false, tag := "", pkgPath := "marquee/tabs", byteOffset := 64 }, { name := "base", type := 26, offset := 9, embedded := false, tag := "", pkgPath := "marquee/tabs", byteOffset := 72 }, { name := "label", type := 26, offset := 10, embedded := false, tag := "", pkgPath := "marquee/tabs", byteOffset := 73 }] := by kernel_rfl
set_option maxHeartbeats 2000000 in
theorem eqTabs (w : World) (a b c d e f g h x y z a' b' c' d' e' f' g' h' x' y' z' : Int) : (Op.equalIn 10000 28 (.agg #[.int .u64 a, .int .u64 b, .int .u64 c, .int .u64 d, .int .u64 e, .int .u64 f, .int .u64 g, .int .u64 h, .int .i64 x, .int .u8 y, .int .u8 z]) (.agg #[.int .u64 a', .int .u64 b', .int .u64 c', .int .u64 d', .int .u64 e', .int .u64 f', .int .u64 g', .int .u64 h', .int .i64 x', .int .u8 y', .int .u8 z'])).run Try.prog w = .ok (decide ((a = a' ∧ b = b' ∧ c = c' ∧ d = d' ∧ e = e' ∧ f = f' ∧ g = g' ∧ h = h') ∧ x = x' ∧ y = y' ∧ z = z')) w := by
  have hA := eqWords 9997 w a b c d e f g h a' b' c' d' e' f' g' h'
  generalize hp : decide (a = a' ∧ b = b' ∧ c = c' ∧ d = d' ∧ e = e' ∧ f = f' ∧ g = g' ∧ h = h') = p at hA
  rw [show (10000 : Nat) = 9999 + 1 from rfl, run_equalIn_struct w 9999 _ _ _ (by kernel_rfl) Try.stoodInHeld28, fieldsT]
  simp only [Op.eqFields]
  rw [Bool.decide_and, hp]
  clear hp
  go_simp
  cases p
  · simp
  by_cases h1 : x = x'
  case neg => simp [h1]
  by_cases h2 : y = y'
  case neg => simp [h1, h2]
  by_cases h3 : z = z' <;> simp [h1, h2, h3]
theorem eqTb (t u : Tb) (ht : t.Ok) (w : World) : (Op.equalIn 10000 28 (tbV t) (tbV u)).run Try.prog w = .ok (decide (t.L = u.L ∧ t.b = u.b ∧ t.l = u.l)) w := by
  refine (eqTabs w _ _ _ _ _ _ _ _ _ _ _ _ _ _ _ _ _ _ _ _ _ _).trans ?_
  congr 2
  apply propext
  constructor
  · rintro ⟨⟨h0, h1, h2, h3, h4, h5, h6, h7⟩, hx, hy, hz⟩
    refine ⟨wd_inj (by omega) ht.len ?_, by omega, by omega⟩
    intro k hk
    match k, hk with
    | 0, _ => omega
    | 1, _ => omega
    | 2, _ => omega
    | 3, _ => omega
    | 4, _ => omega
    | 5, _ => omega
    | 6, _ => omega
    | 7, _ => omega
  · rintro ⟨h1, h2, h3⟩
    rw [h1, h2, h3]
    exact ⟨⟨rfl, rfl, rfl, rfl, rfl, rfl, rfl, rfl⟩, rfl, rfl, rfl⟩
end Go.Proofs.Ytmfbknmcmopjnaa.Lab
