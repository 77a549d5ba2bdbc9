/- Modes as bits: which there are, which are set, what is put. -/
import Derived.Test.YtjdfinimbdcmbaaAtMath
namespace Go.Proofs.Ytjdfinimbdcmbaa.Lab
open Go Go.RowKit

/-- A mode: private or not, and its number. -/
abbrev Mo := Bool × Int
/-- The modes that there are, in order, each with the number of its bit. -/
def tabM : List (Mo × Nat) := [((false, 4), 0), ((false, 20), 1), ((true, 1), 2), ((true, 5), 3), ((true, 6), 4), ((true, 7), 5), ((true, 25), 6), ((true, 47), 7), ((true, 1004), 8), ((true, 1047), 7), ((true, 1048), 9), ((true, 1049), 7), ((true, 2004), 10)]
def findM : List (Mo × Nat) → Mo → Option Nat
  | [], _ => none
  | e :: r, x => if e.1 = x then some e.2 else findM r x
def bitM (x : Mo) : Option Nat := findM tabM x
def modB (s j : Nat) (on : Bool) : Nat := if on then s ||| 2 ^ j else s ^^^ (s &&& 2 ^ j)
theorem modB_bit (s j : Nat) (on : Bool) (i : Nat) : (modB s j on).testBit i = if i = j then on else s.testBit i := by
  unfold modB
  by_cases h : i = j
  · subst h
    cases on <;> simp [Nat.testBit_or, Nat.testBit_xor, Nat.testBit_and]
  · have h' : ¬ j = i := fun e => h e.symm
    rw [if_neg h]
    cases on
    · rw [if_neg (by decide), Nat.testBit_xor, Nat.testBit_and, Nat.testBit_two_pow]
      simp [h']
    · rw [if_pos rfl, Nat.testBit_or, Nat.testBit_two_pow]
      simp [h']
theorem modB_lt {s j : Nat} (on : Bool) (hs : s < 2048) (hj : j < 11) : modB s j on < 2048 := by
  rw [show 2048 = 2 ^ 11 by rfl] at *
  refine Nat.lt_pow_two_of_testBit _ fun i hi => ?_
  rw [modB_bit, if_neg (by omega)]
  exact Nat.testBit_lt_two_pow (Nat.lt_of_lt_of_le hs (Nat.pow_le_pow_right (by decide) hi))
theorem findM_lt {x : Mo} {j : Nat} : ∀ {l : List (Mo × Nat)}, (∀ e ∈ l, e.2 < 11) → findM l x = some j → j < 11
  | [], _, h => by cases h
  | e :: r, hl, h => by
    unfold findM at h
    split at h
    · injection h with h
      rw [← h]
      exact hl e (List.mem_cons_self ..)
    · exact findM_lt (fun e he => hl e (List.mem_cons_of_mem _ he)) h
theorem bitM_lt {x : Mo} {j : Nat} (h : bitM x = some j) : j < 11 := findM_lt (by decide) h
def putM (on : Bool) (s : Nat) (x : Mo) : Nat := match bitM x with
  | none => s
  | some j => modB s j on
theorem putM_lt {s : Nat} (on : Bool) (x : Mo) (hs : s < 2048) : putM on s x < 2048 := by
  unfold putM
  cases h : bitM x with
  | none => exact hs
  | some j => exact modB_lt on hs (bitM_lt h)
/-- How many of them are known. -/
def knownN (l : List Mo) : Nat := (l.filter fun x => (bitM x).isSome).length
def putL (on : Bool) (s : Nat) (l : List Mo) : Nat := l.foldl (putM on) s
theorem putL_lt {on : Bool} : ∀ {l : List Mo} {s : Nat}, s < 2048 → putL on s l < 2048
  | [], _, h => h
  | x :: l, s, h => by
    show putL on (putM on s x) l < 2048
    exact putL_lt (putM_lt on x h)
def isM (s : Nat) (x : Mo) : Bool := match bitM x with
  | none => false
  | some j => s.testBit j
def stateM (s : Nat) (x : Mo) : Nat := match bitM x with
  | none => 0
  | some j => if s.testBit j then 1 else 2
def softM (s : Nat) : Nat := modB (modB (modB (modB s 0 false) 4 false) 5 true) 6 true
theorem softM_lt {s : Nat} (h : s < 2048) : softM s < 2048 := modB_lt _ (modB_lt _ (modB_lt _ (modB_lt _ h (by decide)) (by decide)) (by decide)) (by decide)
def allM (s : Nat) : List Mo := (tabM.filter fun e => s.testBit e.2).map (·.1)
def altM (x : Mo) : Bool := bitM x == some 7
theorem allM_le (s : Nat) : (allM s).length ≤ 13 := by
  unfold allM
  rw [List.length_map]
  exact List.length_filter_le _ _
theorem putL_snoc (on : Bool) (s : Nat) (l : List Mo) (x : Mo) : putL on s (l ++ [x]) = putM on (putL on s l) x := by simp [putL]
theorem knownN_snoc (l : List Mo) (x : Mo) : knownN (l ++ [x]) = knownN l + if (bitM x).isSome then 1 else 0 := by
  unfold knownN
  rw [List.filter_append, List.length_append]
  by_cases h : (bitM x).isSome <;> simp [h]
theorem knownN_le (l : List Mo) : knownN l ≤ l.length := List.length_filter_le _ _
theorem same_bits {s t : Nat} (h : ∀ i, s.testBit i = t.testBit i) : s = t := Nat.eq_of_testBit_eq h
theorem modB_twice (s j : Nat) (a b : Bool) : modB (modB s j a) j b = modB s j b := same_bits fun i => by
  rw [modB_bit, modB_bit, modB_bit]
  by_cases h : i = j <;> simp [h]
/-! ### the theorem: a mode is as it was put last -/
theorem putM_twice (s : Nat) (x : Mo) (a b : Bool) (h : (bitM x).isSome) : putM b (putM a s x) x = putM b s x := by
  unfold putM
  cases e : bitM x with
  | none => simp [e] at h
  | some j => exact modB_twice s j a b
theorem isM_put (s : Nat) (on : Bool) (x y : Mo) : isM (putM on s x) y = if bitM x = bitM y ∧ (bitM x).isSome then on else isM s y := by
  unfold isM putM
  cases ex : bitM x with
  | none => cases ey : bitM y <;> simp
  | some j =>
    cases ey : bitM y with
    | none => simp
    | some i =>
      simp only [modB_bit]
      by_cases h : i = j
      · subst h
        simp
      · have h' : ¬ j = i := fun e => h e.symm
        simp [h, h']
theorem stateM_put (s : Nat) (on : Bool) (x y : Mo) (h : ¬ bitM x = bitM y) : stateM (putM on s x) y = stateM s y := by
  unfold stateM putM
  cases ex : bitM x with
  | none => rfl
  | some j =>
    cases ey : bitM y with
    | none => rfl
    | some i =>
      have h' : ¬ i = j := fun e => h (by rw [ex, ey, e])
      simp only [modB_bit, if_neg h']
/-- Two modes have one bit if they are the same, or both of the alternate screen. -/
theorem findM_some {x : Mo} {j : Nat} : ∀ {l : List (Mo × Nat)}, findM l x = some j → (x, j) ∈ l
  | [], h => by cases h
  | e :: r, h => by
    unfold findM at h
    split at h
    · rename_i hx
      injection h with h
      rw [← h, ← hx]
      exact List.mem_cons_self ..
    · exact List.mem_cons_of_mem _ (findM_some h)
theorem one_bit_tab : ∀ e ∈ tabM, ∀ f ∈ tabM, (e.2 = f.2 ↔ (e.1 = f.1 ∨ (e.2 = 7 ∧ f.2 = 7))) := by decide +kernel
theorem one_bit {x y : Mo} (hx : (bitM x).isSome) : bitM x = bitM y ↔ (x = y ∨ (altM x = true ∧ altM y = true)) := by
  unfold altM
  cases ex : bitM x with
  | none => rw [ex] at hx; cases hx
  | some j =>
    cases ey : bitM y with
    | none =>
      constructor
      · intro h; cases h
      · rintro (h | ⟨_, h⟩)
        · rw [← h, ex] at ey; cases ey
        · cases h
    | some i =>
      have := one_bit_tab _ (findM_some ex) _ (findM_some ey)
      simp only at this
      constructor
      · intro h
        injection h with h
        rcases this.1 h with h1 | ⟨h1, h2⟩
        · exact .inl h1
        · exact .inr ⟨by rw [h1]; rfl, by rw [h2]; rfl⟩
      · rintro (h | ⟨h1, h2⟩)
        · rw [h, ey] at ex
          exact ex.symm
        · have h1 : j = 7 := by simpa using h1
          have h2 : i = 7 := by simpa using h2
          rw [h1, h2]
/-! ### closed facts over all that may be set -/
theorem under2048 {p : Nat → Bool} (h : (List.range 2048).all p = true) {s : Nat} (hs : s < 2048) : p s = true := List.all_eq_true.1 h s (List.mem_range.2 hs)
theorem all_again {s : Nat} (hs : s < 2048) : putL true 0 (allM s) = s := by
  have := under2048 (p := fun s => putL true 0 (allM s) == s) (by decide +kernel) hs
  simpa using this
theorem all_none {s : Nat} (hs : s < 2048) : putL false s (allM s) = 0 := by
  have := under2048 (p := fun s => putL false s (allM s) == 0) (by decide +kernel) hs
  simpa using this
theorem mem_all {s : Nat} {x : Mo} : x ∈ allM s ↔ isM s x = true := by
  unfold allM isM
  constructor
  · intro h
    obtain ⟨e, he, rfl⟩ := List.mem_map.1 h
    obtain ⟨h1, h2⟩ := List.mem_filter.1 he
    have hb : bitM e.1 = some e.2 := (by decide +kernel : ∀ e ∈ tabM, bitM e.1 = some e.2) e h1
    rw [hb]
    exact h2
  · intro h
    cases e : bitM x with
    | none => rw [e] at h; cases h
    | some j =>
      rw [e] at h
      exact List.mem_map.2 ⟨(x, j), List.mem_filter.2 ⟨findM_some e, h⟩, rfl⟩
theorem mem_known {s : Nat} {x : Mo} (h : x ∈ allM s) : (bitM x).isSome = true := by
  have := mem_all.1 h
  unfold isM at this
  cases e : bitM x with
  | none => rw [e] at this; cases this
  | some j => rfl
theorem all_known (s : Nat) : knownN (allM s) = (allM s).length := by
  unfold knownN
  rw [List.filter_eq_self.2 fun x hx => mem_known hx]
theorem isM_state {s : Nat} {x : Mo} (h : isM s x = true) : stateM s x = 1 := by
  unfold isM at h
  unfold stateM
  cases e : bitM x with
  | none => rw [e] at h; cases h
  | some j => rw [e] at h; simp only [] at h ⊢; rw [if_pos h]
theorem is_state (s : Nat) (x : Mo) : isM s x = (stateM s x == 1) := by
  unfold isM stateM
  cases e : bitM x with
  | none => rfl
  | some j => simp only []; cases s.testBit j <;> rfl
/-- ANSI's first, each rising. -/
def ltM (x y : Mo) : Bool := (!x.1 && y.1) || (x.1 == y.1 && decide (x.2 < y.2))
theorem ltM_tab : tabM.Pairwise (fun e f => ltM e.1 f.1 = true) := by decide +kernel
theorem all_rising (s : Nat) : (allM s).Pairwise (fun x y => ltM x y = true) := by
  unfold allM
  exact List.Pairwise.map _ (fun _ _ h => h) (List.Pairwise.filter _ ltM_tab)
end Go.Proofs.Ytjdfinimbdcmbaa.Lab
