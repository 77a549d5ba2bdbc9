/- A choice, its changes by the document's words, and what == tells of two. -/
import Derived.Test.YtdphccjeikiciaaChOf
import Derived.Laws.StructEq
namespace Go.Proofs.Ytdphccjeikiciaa.Lab
open Go.RowKit

structure Ch where
  a : Int
  b : Int
  c : Int
  d : Int
  l : Int
  s : Int

abbrev Ch.val (k : Ch) : Value := .agg #[.int .i64 k.a, .int .i64 k.b, .int .i64 k.c, .int .i64 k.d, .int .i64 k.l, .int .i64 k.s]
abbrev Ch.sets (k : Ch) : Value := .agg #[.int .i64 k.a, .int .i64 k.b, .int .i64 k.c, .int .i64 k.d]
def Ch.now (k : Ch) : Int := if k.s = 0 then k.l else k.s
def Ch.at (k : Ch) (p : Int) : Int := if p = 0 then k.a else if p = 1 then k.b else if p = 2 then k.c else k.d
def Ch.put (k : Ch) (p v : Int) : Ch := if p = 0 then { k with a := v } else if p = 1 then { k with b := v } else if p = 2 then { k with c := v } else { k with d := v }
def setOf (f : Int) : Int := if f = 48 then 1 else if f = 65 then 2 else 0
def isSet (f : Int) : Bool := decide (f = 66) || (decide (f = 48) || decide (f = 65))
def Ch.des (k : Ch) (p f : Int) : Ch × Bool := if isSet f = true ∧ 0 ≤ p ∧ p ≤ 3 then (k.put p (setOf f), true) else (k, false)
def Ch.lock (k : Ch) (x : Int) : Ch × Bool := if x = 15 then ({ k with l := 0 }, true) else if x = 14 then ({ k with l := 1 }, true) else (k, false)
def Ch.one (k : Ch) (p : Int) : Ch × Bool := if p = 2 ∨ p = 3 then ({ k with s := p }, true) else (k, false)
def Ch.map (k : Ch) (r : Int) : Ch × Int := ({ k with s := 0 }, ofM (k.at k.now) r)
def Ch.Ok (k : Ch) : Prop := (k.s = 0 ∨ k.s = 2 ∨ k.s = 3) ∧ (k.l = 0 ∨ k.l = 1)
abbrev Ch.zero : Ch := ⟨0, 0, 0, 0, 0, 0⟩
theorem Ch.Ok.zero : Ch.zero.Ok := ⟨.inl rfl, .inl rfl⟩

theorem Ch.Ok.des {k : Ch} (h : k.Ok) (p f : Int) : (k.des p f).1.Ok := by
  unfold Ch.des
  split
  · unfold Ch.put
    repeat' split
    all_goals exact h
  · exact h
theorem Ch.Ok.lock {k : Ch} (h : k.Ok) (x : Int) : (k.lock x).1.Ok := by
  unfold Ch.lock
  repeat' split
  · exact ⟨h.1, .inl rfl⟩
  · exact ⟨h.1, .inr rfl⟩
  · exact h
theorem Ch.Ok.one {k : Ch} (h : k.Ok) (p : Int) : (k.one p).1.Ok := by
  unfold Ch.one
  split
  · rename_i h2
    exact ⟨.inr h2, h.2⟩
  · exact h
theorem Ch.Ok.map {k : Ch} (h : k.Ok) (r : Int) : (k.map r).1.Ok := ⟨.inl rfl, h.2⟩
theorem Ch.Ok.now {k : Ch} (h : k.Ok) : 0 ≤ k.now ∧ k.now ≤ 3 := by
  obtain ⟨h1, h2⟩ := h
  unfold Ch.now
  split <;> omega

/-- What == tells of two choices. -/
def eqC (k m : Ch) : Bool := k.a == m.a && (k.b == m.b && (k.c == m.c && (k.d == m.d && (k.l == m.l && k.s == m.s))))
theorem eqC_iff (k m : Ch) : eqC k m = true ↔ k = m := by
  obtain ⟨a, b, c, d, l, s⟩ := k
  obtain ⟨a', b', c', d', l', s'⟩ := m
  simp [eqC]

theorem eqArr (n : Nat) (w : World) (a b c d a' b' c' d' : Int) : (Op.equalIn (n + 1 + 1) 23 (.agg #[.int .i64 a, .int .i64 b, .int .i64 c, .int .i64 d]) (.agg #[.int .i64 a', .int .i64 b', .int .i64 c', .int .i64 d'])).run Try.prog w = .ok (a == a' && (b == b' && (c == c' && d == d'))) w := by
  have u3 := Try.underlying3
  have a3 := Try.isAgg3
  have z3 := Try.sizeOf3
  rw [Op.equalIn]
  simp only [Sem.run_bind, run_underlying Try.underlying23, Result.andThen_ok]
  simp only [Std.Legacy.Range.forIn_eq_forIn_range', Std.Legacy.Range.size, Nat.sub_zero, Nat.add_sub_cancel, Nat.div_one, List.range'_succ, List.range'_zero, List.forIn_cons, List.forIn_nil]
  go_simp
  by_cases h1 : a = a' <;> by_cases h2 : b = b' <;> by_cases h3 : c = c' <;> by_cases h4 : d = d' <;> simp [h1, h2, h3, h4]

theorem eqSets (k m : Ch) (w : World) : (Op.equalIn 10000 23 k.sets m.sets).run Try.prog w = .ok (k.a == m.a && (k.b == m.b && (k.c == m.c && k.d == m.d))) w := eqArr 9998 w _ _ _ _ _ _ _ _

theorem eqVal (k m : Ch) (w : World) : (Op.equalIn 10000 25 k.val m.val).run Try.prog w = .ok (eqC k m) w := by
  obtain ⟨a, b, c, d, l, s⟩ := k
  obtain ⟨a', b', c', d', l', s'⟩ := m
  have hA := eqArr 9997 w a b c d a' b' c' d'
  rw [show (10000 : Nat) = 9999 + 1 from rfl, run_equalIn_struct w 9999 _ _ _ (by kernel_rfl) Try.stoodInHeld25]
  rw [show (Try.prog.fieldsOf 25).toList = [{ name := "sets", type := 23, offset := 0, embedded := false, tag := "", pkgPath := "marquee/charset", byteOffset := 0 }, { name := "locked", type := 3, offset := 4, embedded := false, tag := "", pkgPath := "marquee/charset", byteOffset := 32 }, { name := "single", type := 3, offset := 5, embedded := false, tag := "", pkgPath := "marquee/charset", byteOffset := 40 }] from by kernel_rfl]
  simp only [Op.eqFields]
  go_simp
  by_cases h1 : a = a' <;> by_cases h2 : b = b' <;> by_cases h3 : c = c' <;> by_cases h4 : d = d' <;> by_cases h5 : l = l' <;> by_cases h6 : s = s' <;> simp [eqC, h1, h2, h3, h4, h5, h6]
end Go.Proofs.Ytdphccjeikiciaa.Lab
