/- How many parameters there are, and that those ahead of the last one stay: plain mathematics. -/
import Derived.Test.YtlmhnebgkginkaaDoorPaWrite
namespace Go.Proofs.YtlmhnebgkginkaaDoor.Lab
open Go.RowKit

def runS (s : PS) (l : List UInt8) : PS := l.foldl PS.byte s
theorem foldO_some (s : PS) : ∀ l : List UInt8, l.foldl stepO (some s) = some (runS s l)
  | [] => rfl
  | c :: l => by
    rw [List.foldl_cons]
    exact foldO_some (s.byte c) l
theorem runO_append (a b : List UInt8) : runO (a ++ b) = b.foldl stepO (runO a) := by simp [runO]
theorem runO_cons (c : UInt8) (l : List UInt8) : runO (c :: l) = some (runS PS.start (c :: l)) := by
  show List.foldl stepO (stepO none c) l = _
  rw [show stepO none c = some (PS.start.byte c) from rfl, foldO_some]
  rfl
theorem runO_ne {l : List UInt8} (h : l ≠ []) : runO l = some (runS PS.start l) := by
  cases l with
  | nil => exact absurd rfl h
  | cons c l => exact runO_cons c l
theorem runO_ne_append {a : List UInt8} (h : a ≠ []) (b : List UInt8) : runO (a ++ b) = some (runS (runS PS.start a) b) := by
  rw [runO_append, runO_ne h, foldO_some]

theorem byte_len (s : PS) (c : UInt8) (h : s.D.length + 1 ≤ 32) : (s.byte c).D.length + 1 = min 32 (s.D.length + 1 + if c.toNat = 59 then 1 else 0) := by
  unfold PS.byte
  split
  · unfold PS.nxt
    split <;> simp <;> omega
  · split
    · unfold PS.sub
      split
      · omega
      · split <;> simp <;> omega
    · unfold PS.dig
      split <;> simp <;> omega
theorem runS_len : ∀ (l : List UInt8) (s : PS), s.D.length + 1 ≤ 32 → (runS s l).D.length + 1 = min 32 (s.D.length + 1 + l.count 59)
  | [], s, h => by simp [runS]; omega
  | c :: l, s, h => by
    have h1 := byte_len s c h
    have h2 := runS_len l (s.byte c) (by omega)
    show (runS (s.byte c) l).D.length + 1 = _
    rw [h2, h1, List.count_cons]
    have e : (c == 59) = decide (c.toNat = 59) := by
      rw [Bool.eq_iff_iff]
      simp [← UInt8.toNat_inj]
    rw [e]
    by_cases hc : c.toNat = 59
    · simp [hc]; omega
    · simp [hc]; omega
theorem rows_len {l : List UInt8} (h : l ≠ []) : (rowsO (runO l)).length = min 32 (1 + l.count 59) := by
  rw [runO_ne h]
  have := runS_len l PS.start (by simp [PS.start])
  simp only [rowsO, PS.rows, List.length_append, List.length_singleton]
  rw [this]
  simp [PS.start]

theorem byte_pre (s : PS) (c : UInt8) : s.D <+: (s.byte c).D := by
  unfold PS.byte
  split
  · unfold PS.nxt
    split
    · exact List.prefix_refl _
    · exact List.prefix_append _ _
  · split
    · unfold PS.sub
      split
      · exact List.prefix_refl _
      · split <;> exact List.prefix_refl _
    · unfold PS.dig
      split <;> exact List.prefix_refl _
theorem runS_pre : ∀ (l : List UInt8) (s : PS), s.D <+: (runS s l).D
  | [], _ => List.prefix_refl _
  | c :: l, s => (byte_pre s c).trans (runS_pre l (s.byte c))
theorem more_rows (X : Option PS) (l : List UInt8) : (rowsO X).length ≤ (rowsO (l.foldl stepO X)).length ∧ ∀ i, i + 1 < (rowsO X).length → (rowsO (l.foldl stepO X)).getD i [] = (rowsO X).getD i [] := by
  cases X with
  | none => exact ⟨by simp [rowsO], fun i hi => by simp [rowsO] at hi⟩
  | some s =>
    rw [foldO_some]
    obtain ⟨t, ht⟩ := runS_pre l s
    refine ⟨by simp [rowsO, PS.rows, ← ht], fun i hi => ?_⟩
    have hi' : i < s.D.length := by simpa [rowsO, PS.rows] using hi
    simp only [rowsO, PS.rows]
    rw [getD_snoc_lt _ _ _ hi', getD_snoc_lt _ _ _ (by rw [← ht, List.length_append]; omega), ← ht]
    simp [List.getD_eq_getElem?_getD, List.getElem?_append_left hi']

def rep (n : Nat) (l : List UInt8) : List UInt8 := (List.replicate n l).flatten
theorem rep_zero (l : List UInt8) : rep 0 l = [] := rfl
theorem rep_succ (n : Nat) (l : List UInt8) : rep (n + 1) l = rep n l ++ l := by
  unfold rep
  rw [List.replicate_succ', List.flatten_append]
  simp
theorem rep_count (l : List UInt8) (c : UInt8) : ∀ n, (rep n l).count c = n * l.count c
  | 0 => by simp [rep]
  | n + 1 => by rw [rep_succ, List.count_append, rep_count l c n, Nat.add_mul, Nat.one_mul]
theorem rep_ne {l : List UInt8} (h : l ≠ []) (n : Nat) : rep (n + 1) l ≠ [] := by
  rw [rep_succ]
  simp [h]

theorem RowsAt.slice {w : World} {lo : Nat} {v : Value} {R : Rws} (h : RowsAt w lo v R) : ∃ a c, v = .slice a R.length c := by
  rcases h.open with ⟨rfl, e⟩ | ⟨g, c, rfl, _⟩
  · subst e
    exact ⟨_, _, rfl⟩
  · exact ⟨_, _, rfl⟩
theorem RowsAt.row {w : World} {lo n c : Nat} {a : Option Addr} {R : Rws} (h : RowsAt w lo (.slice a n c) R) {i : Nat} (hi : i < R.length) :
    ∃ g u, a = some ⟨g, 0, none⟩ ∧ g < w.heap.size ∧ lo ≤ g ∧ w.cell? ⟨g, i, none⟩ = some u ∧ IntsAt w lo u (R.getD i []) := by
  rcases h.open with ⟨_, e⟩ | ⟨g, c, e, h1, h2, _, _, k⟩
  · subst e
    simp at hi
  · obtain ⟨u, hu, I⟩ := k i hi
    simp at e
    exact ⟨g, u, e.1, h2, h1, hu, I⟩
theorem LAt.okR {w : World} {B : Nat} {s : Option PS} (h : LAt w B s) : (rowsO s).length ≤ 32 ∧ ∀ r ∈ rowsO s, okRow r := by
  obtain ⟨_, _, _, T⟩ := h
  exact ⟨T.len, T.ok⟩

end Go.Proofs.YtlmhnebgkginkaaDoor.Lab
