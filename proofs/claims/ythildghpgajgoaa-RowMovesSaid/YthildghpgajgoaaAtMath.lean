/- What parameters make of an attribute: plain mathematics. -/
import Derived.Test.YthildghpgajgoaaPaMath
namespace Go.Proofs.Ythildghpgajgoaa.Lab
open Go.RowKit

/-- A colour, an attribute. -/
structure Cl where
  k : Int
  r : Int
  g : Int
  b : Int
deriving DecidableEq
structure At where
  fg : Cl
  bg : Cl
  fl : Nat
deriving DecidableEq
abbrev Cl.zero : Cl := ⟨0, 0, 0, 0⟩
abbrev At.zero : At := ⟨Cl.zero, Cl.zero, 0⟩
/-- Of bytes. -/
def Cl.ok (c : Cl) : Prop := (0 ≤ c.k ∧ c.k ≤ 255) ∧ (0 ≤ c.r ∧ c.r ≤ 255) ∧ (0 ≤ c.g ∧ c.g ≤ 255) ∧ (0 ≤ c.b ∧ c.b ≤ 255)
def At.ok (a : At) : Prop := a.fg.ok ∧ a.bg.ok ∧ a.fl < 65536

def flagsM (f set clear : Nat) : Nat := f &&& (65535 - clear) ||| set
theorem flagsM_lt {f set clear : Nat} (h : f < 65536) (hs : set < 65536) : flagsM f set clear < 65536 := by
  unfold flagsM
  exact Nat.or_lt_two_pow (n := 16) (Nat.lt_of_le_of_lt Nat.and_le_left h) hs

/-- The number of a parameter that has one. -/
def valM (x : Int) : Int := if x = -1 then 0 else x
def onlyM (row : List Int) : Option Int := match row with | [x] => some (valM x) | _ => none
def partM (x : Int) : Option Int := if 0 ≤ valM x ∧ valM x ≤ 255 then some (valM x) else none
def partRow (row : List Int) : Option Int := match onlyM row with | some x => partM x | none => none
/-- Up to the first that is none. -/
def partsM {α : Type} (read : α → Option Int) : List α → List Int
  | [] => []
  | x :: t => match read x with | some b => b :: partsM read t | none => []
def needed (k : Int) : Nat := if k = 5 then 1 else if k = 2 then 3 else 0
def madeM (k : Int) (l : List Int) : Option Cl :=
  if l.length < needed k then none else if k = 5 then some ⟨1, l.getD 0 0, 0, 0⟩ else if k = 2 then some ⟨2, l.getD 0 0, l.getD 1 0, l.getD 2 0⟩ else none
/-- The kind, and what the colour is, by the parameters behind. -/
def kindM : Rws → Int
  | [] => 0
  | row :: _ => (onlyM row).getD 0
def colorM (L : Rws) : Option Cl := madeM (kindM L) (partsM partRow ((L.drop 1).take (needed (kindM L))))
def leftM (L : Rws) : Rws := (L.drop 1).drop (needed (kindM L))
/-- The numbers of one parameter, which are two at least. -/
def tailM (row : List Int) : List Int := if row.getD 1 0 = 2 ∧ (row.drop 2).length = 4 then row.drop 3 else row.drop 2
def withinM (row : List Int) : Option Cl := if (tailM row).length = needed (row.getD 1 0) then madeM (row.getD 1 0) (partsM partM (tailM row)) else none

def At.setFg (a : At) (c : Option Cl) : At := match c with | some c => { a with fg := c } | none => a
def At.setBg (a : At) (c : Option Cl) : At := match c with | some c => { a with bg := c } | none => a
def At.flags (a : At) (set clear : Nat) : At := { a with fl := flagsM a.fl set clear }

/-- A number alone, but 38 and 48. -/
def simpleM (a : At) (n : Int) : At :=
  if n = 0 then At.zero else if n = 1 then a.flags 1 0 else if n = 2 then a.flags 2 0 else if n = 3 then a.flags 4 0 else if n = 4 then a.flags 8 256
  else if n = 5 then a.flags 16 0 else if n = 7 then a.flags 32 0 else if n = 8 then a.flags 64 0 else if n = 9 then a.flags 128 0 else if n = 21 then a.flags 256 8
  else if n = 22 then a.flags 0 3 else if n = 23 then a.flags 0 4 else if n = 24 then a.flags 0 264 else if n = 25 then a.flags 0 16 else if n = 27 then a.flags 0 32
  else if n = 28 then a.flags 0 64 else if n = 29 then a.flags 0 128
  else if 30 ≤ n ∧ n ≤ 37 then { a with fg := ⟨1, n - 30, 0, 0⟩ } else if n = 39 then { a with fg := Cl.zero }
  else if 40 ≤ n ∧ n ≤ 47 then { a with bg := ⟨1, n - 40, 0, 0⟩ } else if n = 49 then { a with bg := Cl.zero }
  else if 90 ≤ n ∧ n ≤ 97 then { a with fg := ⟨1, n - 82, 0, 0⟩ } else if 100 ≤ n ∧ n ≤ 107 then { a with bg := ⟨1, n - 92, 0, 0⟩ } else a
/-- A parameter of several numbers. -/
def severalM (a : At) (row : List Int) : At :=
  if row.length < 2 then a
  else if row.getD 0 0 = 4 then (if row.length = 2 then (if row.getD 1 0 = 0 then a.flags 0 264 else if row.getD 1 0 = 1 then a.flags 8 256 else if row.getD 1 0 = 2 then a.flags 256 8 else a) else a)
  else if row.getD 0 0 = 38 then a.setFg (withinM row) else if row.getD 0 0 = 48 then a.setBg (withinM row) else a
/-- One parameter, and those behind it. -/
def stepM (a : At) (row : List Int) (L : Rws) : At × Rws :=
  match onlyM row with
  | none => (severalM a row, L)
  | some n => if n = 38 then (a.setFg (colorM L), leftM L) else if n = 48 then (a.setBg (colorM L), leftM L) else (simpleM a n, L)
theorem leftM_len (L : Rws) : (leftM L).length ≤ L.length := by simp only [leftM, List.length_drop]; omega
theorem stepM_len (a : At) (row : List Int) (L : Rws) : (stepM a row L).2.length ≤ L.length := by
  unfold stepM
  split
  · exact Nat.le_refl _
  · split
    · exact leftM_len L
    · split
      · exact leftM_len L
      · exact Nat.le_refl _
def runM : Nat → At → Rws → At
  | 0, a, _ => a
  | _ + 1, a, [] => a
  | n + 1, a, row :: L => runM n (stepM a row L).1 (stepM a row L).2
theorem runM_nil (n : Nat) (a : At) : runM n a [] = a := by cases n <;> rfl
theorem runM_more : ∀ (n m : Nat) (a : At) (L : Rws), L.length ≤ n → L.length ≤ m → runM n a L = runM m a L
  | n, m, a, [], _, _ => by rw [runM_nil, runM_nil]
  | 0, _, _, _ :: _, h, _ => by simp at h
  | _ + 1, 0, _, _ :: _, _, h => by simp at h
  | n + 1, m + 1, a, row :: L, h, h' => by
    have := stepM_len a row L
    simp at h h'
    exact runM_more n m _ _ (by omega) (by omega)
def loopM (a : At) (L : Rws) : At := runM L.length a L
theorem loopM_nil (a : At) : loopM a [] = a := rfl
theorem loopM_cons (a : At) (row : List Int) (L : Rws) : loopM a (row :: L) = loopM (stepM a row L).1 (stepM a row L).2 := by
  show runM L.length _ _ = runM _ _ _
  exact runM_more _ _ _ _ (stepM_len a row L) (Nat.le_refl _)
def sgrM (a : At) (P : Rws) : At := if P = [] then At.zero else loopM a P

theorem partM_bd {x y : Int} (h : partM x = some y) : 0 ≤ y ∧ y ≤ 255 := by
  unfold partM at h
  split at h
  · simp at h
    omega
  · simp at h
theorem partRow_bd {x : List Int} {y : Int} (h : partRow x = some y) : 0 ≤ y ∧ y ≤ 255 := by
  unfold partRow at h
  split at h
  · exact partM_bd h
  · simp at h
theorem partsM_bd {α : Type} {read : α → Option Int} (hr : ∀ x y, read x = some y → 0 ≤ y ∧ y ≤ 255) : ∀ (l : List α), ∀ y ∈ partsM read l, 0 ≤ y ∧ y ≤ 255
  | [], y, h => by simp [partsM] at h
  | x :: t, y, h => by
    unfold partsM at h
    split at h
    · rename_i b hb
      rcases List.mem_cons.1 h with e | e
      · subst e; exact hr _ _ hb
      · exact partsM_bd hr t y e
    · simp at h
theorem partsM_len {α : Type} (read : α → Option Int) : ∀ l : List α, (partsM read l).length ≤ l.length
  | [] => by simp [partsM]
  | x :: t => by
    unfold partsM
    split
    · have := partsM_len read t
      simp
      omega
    · simp
theorem getD_bd {l : List Int} (h : ∀ y ∈ l, 0 ≤ y ∧ y ≤ 255) (i : Nat) : 0 ≤ l.getD i 0 ∧ l.getD i 0 ≤ 255 := by
  by_cases hi : i < l.length
  · exact h _ (getD_mem 0 hi)
  · rw [List.getD_eq_getElem?_getD, List.getElem?_eq_none (by omega)]
    simp
theorem bd0 : (0 : Int) ≤ 0 ∧ (0 : Int) ≤ 255 := by decide
theorem bd1 : (0 : Int) ≤ 1 ∧ (1 : Int) ≤ 255 := by decide
theorem bd2 : (0 : Int) ≤ 2 ∧ (2 : Int) ≤ 255 := by decide
theorem madeM_ok {k : Int} {l : List Int} {c : Cl} (h : ∀ y ∈ l, 0 ≤ y ∧ y ≤ 255) (hm : madeM k l = some c) : c.ok ∧ ((c.k = 1 ∧ c.g = 0 ∧ c.b = 0) ∨ c.k = 2) := by
  unfold madeM at hm
  have g := getD_bd h
  split at hm
  · simp at hm
  · split at hm
    · obtain rfl := Option.some.inj hm
      exact ⟨⟨bd1, g 0, bd0, bd0⟩, .inl ⟨rfl, rfl, rfl⟩⟩
    · split at hm
      · obtain rfl := Option.some.inj hm
        exact ⟨⟨bd2, g 0, g 1, g 2⟩, .inr rfl⟩
      · simp at hm
theorem colorM_ok {L : Rws} {c : Cl} (h : colorM L = some c) : c.ok ∧ ((c.k = 1 ∧ c.g = 0 ∧ c.b = 0) ∨ c.k = 2) := madeM_ok (partsM_bd (fun _ _ => partRow_bd) _) h
theorem withinM_ok {row : List Int} {c : Cl} (h : withinM row = some c) : c.ok ∧ ((c.k = 1 ∧ c.g = 0 ∧ c.b = 0) ∨ c.k = 2) := by
  unfold withinM at h
  split at h
  · exact madeM_ok (partsM_bd (fun _ _ => partM_bd) _) h
  · simp at h
theorem zero_ok : Cl.zero.ok := by unfold Cl.ok; simp
theorem At.zero_ok : At.zero.ok := ⟨Lab.zero_ok, Lab.zero_ok, by decide⟩
theorem At.setFg_ok {a : At} (h : a.ok) {c : Option Cl} (hc : ∀ x, c = some x → x.ok) : (a.setFg c).ok := by
  cases c with
  | none => exact h
  | some c => exact ⟨hc c rfl, h.2.1, h.2.2⟩
theorem At.setBg_ok {a : At} (h : a.ok) {c : Option Cl} (hc : ∀ x, c = some x → x.ok) : (a.setBg c).ok := by
  cases c with
  | none => exact h
  | some c => exact ⟨h.1, hc c rfl, h.2.2⟩
theorem At.flags_ok {a : At} (h : a.ok) {set : Nat} (hs : set < 65536) (clear : Nat) : (a.flags set clear).ok := ⟨h.1, h.2.1, flagsM_lt h.2.2 hs⟩
theorem idx_ok {x : Int} (h0 : 0 ≤ x) (h1 : x ≤ 255) : (⟨1, x, 0, 0⟩ : Cl).ok := ⟨bd1, ⟨h0, h1⟩, bd0, bd0⟩
theorem ite_ok {c : Prop} [Decidable c] {x y : At} (h : c → x.ok) (k : y.ok) : (if c then x else y).ok := by
  by_cases hc : c
  · rw [if_pos hc]; exact h hc
  · rw [if_neg hc]; exact k
theorem simpleM_ok {a : At} (h : a.ok) (n : Int) : (simpleM a n).ok := by
  unfold simpleM
  refine ite_ok (fun _ => At.zero_ok) ?_
  iterate 16 refine ite_ok (fun _ => At.flags_ok h (by decide) _) ?_
  refine ite_ok (fun hc => ⟨idx_ok (by omega) (by omega), h.2.1, h.2.2⟩) ?_
  refine ite_ok (fun hc => ⟨Lab.zero_ok, h.2.1, h.2.2⟩) ?_
  refine ite_ok (fun hc => ⟨h.1, idx_ok (by omega) (by omega), h.2.2⟩) ?_
  refine ite_ok (fun hc => ⟨h.1, Lab.zero_ok, h.2.2⟩) ?_
  refine ite_ok (fun hc => ⟨idx_ok (by omega) (by omega), h.2.1, h.2.2⟩) ?_
  exact ite_ok (fun hc => ⟨h.1, idx_ok (by omega) (by omega), h.2.2⟩) h
theorem severalM_ok {a : At} (h : a.ok) (row : List Int) : (severalM a row).ok := by
  unfold severalM
  split
  · exact h
  split
  · split
    · split
      · exact At.flags_ok h (by decide) _
      split
      · exact At.flags_ok h (by decide) _
      split
      · exact At.flags_ok h (by decide) _
      · exact h
    · exact h
  split
  · exact At.setFg_ok h fun x hx => (withinM_ok hx).1
  split
  · exact At.setBg_ok h fun x hx => (withinM_ok hx).1
  · exact h
theorem stepM_ok {a : At} (h : a.ok) (row : List Int) (L : Rws) : (stepM a row L).1.ok := by
  unfold stepM
  split
  · exact severalM_ok h row
  · split
    · exact At.setFg_ok h fun x hx => (colorM_ok hx).1
    · split
      · exact At.setBg_ok h fun x hx => (colorM_ok hx).1
      · exact simpleM_ok h _
theorem runM_ok : ∀ (n : Nat) {a : At} (_ : a.ok) (L : Rws), (runM n a L).ok
  | 0, _, h, _ => h
  | _ + 1, _, h, [] => h
  | n + 1, _, h, row :: L => runM_ok n (stepM_ok h row L) _
theorem sgrM_ok {a : At} (h : a.ok) (P : Rws) : (sgrM a P).ok := by
  unfold sgrM
  split
  · exact At.zero_ok
  · exact runM_ok _ h _
end Go.Proofs.Ythildghpgajgoaa.Lab
