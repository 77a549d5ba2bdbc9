/- Texts split at slashes, and what that has to do with cutting them (for the document's answer for Parse). -/
import Derived.Test.YthcncghhjlaicaaTextMath
namespace Go.Proofs.Ythcncghhjlaicaa.Lab
open Go.RowKit

def splitL : List UInt8 → List (List UInt8)
  | [] => [[]]
  | x :: xs => if x = 47 then [] :: splitL xs else (x :: (splitL xs).headD []) :: (splitL xs).tail

theorem splitL_ne (l : List UInt8) : ∃ p ps, splitL l = p :: ps := by
  cases l with
  | nil => exact ⟨_, _, rfl⟩
  | cons x xs => unfold splitL; split <;> exact ⟨_, _, rfl⟩

theorem splitL_at : ∀ (l : List UInt8) (m : Nat), (∀ j, j < m → l[j]? ≠ some 47) → l[m]? = some 47 → splitL l = l.take m :: splitL (l.drop (m + 1))
  | [], m, _, h => by simp at h
  | x :: xs, 0, _, h => by
    have h0 : x = 47 := by simpa using h
    rw [splitL, if_pos h0]
    rfl
  | x :: xs, m + 1, h, h2 => by
    have h0 : x ≠ 47 := fun e => h 0 (by omega) (by simp [e])
    have ih := splitL_at xs m (fun j hj => by simpa using h (j + 1) (by omega)) (by simpa using h2)
    rw [splitL, if_neg h0, ih]
    rfl

theorem splitL_none : ∀ l : List UInt8, (∀ j : Nat, l[j]? ≠ some 47) → splitL l = [l]
  | [], _ => rfl
  | x :: xs, h => by
    have h0 : x ≠ 47 := fun e => h 0 (by simp [e])
    have ih := splitL_none xs (fun j => by simpa using h (j + 1))
    rw [splitL, if_neg h0, ih]
    rfl

theorem splitL_one {l : List UInt8} (h : (splitL l).length = 1) : ∀ j : Nat, l[j]? ≠ some 47 := by
  induction l with
  | nil => simp
  | cons x xs ih =>
    intro j hj
    obtain ⟨p, ps, hp⟩ := splitL_ne xs
    unfold splitL at h
    by_cases h0 : x = 47
    · rw [if_pos h0, hp] at h; simp at h
    · rw [if_neg h0] at h
      cases j with
      | zero => simp at hj; exact h0 hj
      | succ j =>
        refine ih ?_ j (by simpa using hj)
        rw [hp] at h ⊢
        simpa using h

theorem splitL_cons (x : UInt8) (xs : List UInt8) : splitL (x :: xs) = if x = 47 then [] :: splitL xs else (x :: (splitL xs).headD []) :: (splitL xs).tail := rfl
theorem cutL_cons (x : UInt8) (xs : List UInt8) : cutL (x :: xs) = if x = 47 then ([], xs, true) else (x :: (cutL xs).1, (cutL xs).2.1, (cutL xs).2.2) := rfl

theorem splitL_cut : ∀ l : List UInt8, splitL l = if (cutL l).2.2 = true then (cutL l).1 :: splitL (cutL l).2.1 else [l]
  | [] => rfl
  | x :: xs => by
    have ih := splitL_cut xs
    rw [splitL_cons, cutL_cons]
    by_cases h0 : x = 47
    · rw [if_pos h0, if_pos h0, if_pos rfl]
    · rw [if_neg h0, if_neg h0, ih]
      cases h : (cutL xs).2.2
      · rfl
      · rfl

theorem slash_no {l : List UInt8} (h : (splitL l).length ≠ 1) : partB l = false := by
  rw [Bool.eq_false_iff]
  intro hp
  exact h (by rw [splitL_none l (noslash (partB_all hp))]; rfl)

theorem part_none (l : List UInt8) (h : partB l = false) : partV l = 0 := by unfold partV; rw [h]; rfl

/-- What a text behind 'rgb:' is read as, by its pieces. -/
theorem rgb_split {l : List UInt8} (hp : Lib.hasPrefix l rgbP = true) :
    (∃ a b c, splitL (l.drop 4) = [a, b, c] ∧ rgbB l = rowsB a b c ∧ rgbV l = rowsV a b c) ∨ ((splitL (l.drop 4)).length ≠ 3 ∧ rgbB l = false) := by
  have h1 := splitL_cut (l.drop 4)
  by_cases q1 : (cutL (l.drop 4)).2.2 = true
  · rw [if_pos q1] at h1
    have h2 := splitL_cut (rgbR l)
    by_cases q2 : (cutL (rgbR l)).2.2 = true
    · rw [if_pos q2] at h2
      by_cases q3 : (splitL (cutL (rgbR l)).2.1).length = 1
      · left
        refine ⟨rgbA l, (cutL (rgbR l)).1, (cutL (rgbR l)).2.1, ?_, ?_, ?_⟩
        · rw [h1]
          show rgbA l :: splitL (rgbR l) = _
          rw [h2, splitL_none _ (splitL_one q3)]
        · unfold rgbB; rw [hp, q1, q2]; simp
        · unfold rgbV
          have e : rgbB l = rowsB (rgbA l) (cutL (rgbR l)).1 (cutL (rgbR l)).2.1 := by unfold rgbB; rw [hp, q1, q2]; simp
          rw [e]
          cases hr : rowsB (rgbA l) (cutL (rgbR l)).1 (cutL (rgbR l)).2.1
          · rw [rowsV_none hr]; rfl
          · rfl
      · right
        constructor
        · rw [h1]
          show (rgbA l :: splitL (rgbR l)).length ≠ 3
          rw [h2]
          simp only [List.length_cons]
          omega
        · unfold rgbB rowsB
          rw [slash_no q3]
          simp
    · rw [if_neg q2] at h2
      right
      constructor
      · rw [h1]
        show (rgbA l :: splitL (rgbR l)).length ≠ 3
        rw [h2]
        simp
      · unfold rgbB
        simp [q2]
  · rw [if_neg q1] at h1
    right
    exact ⟨by rw [h1]; simp, by unfold rgbB; simp [q1]⟩

theorem no_hash {l : List UInt8} (hp : Lib.hasPrefix l rgbP = true) : Lib.hasPrefix l [35] = false := by
  unfold Lib.hasPrefix at *
  match l, hp with
  | [], _ => rfl
  | x :: xs, hp =>
    simp only [List.isPrefixOf, Bool.and_eq_true, beq_iff_eq] at hp
    simp only [List.isPrefixOf, Bool.and_eq_false_iff]
    left
    rw [← hp.1]
    decide
theorem no_rgb {l : List UInt8} (hp : Lib.hasPrefix l [35] = true) : Lib.hasPrefix l rgbP = false := by
  cases h : Lib.hasPrefix l rgbP
  · rfl
  · rw [no_hash h] at hp; cases hp

/-- The three ways, held against each other. -/
theorem parse_hash {d : Nat} (hd : d = 1 ∨ d = 2) {l : List UInt8} (hp : Lib.hasPrefix l [35] = true) (hl : l.length = 3 * d + 1) :
    parseB l = rowsB ((l.drop 1).take d) (((l.drop 1).drop d).take d) ((l.drop 1).drop (2 * d)) ∧ parseV l = rowsV ((l.drop 1).take d) (((l.drop 1).drop d).take d) ((l.drop 1).drop (2 * d)) := by
  have hr : rgbB l = false := by unfold rgbB; rw [no_rgb hp]; rfl
  have hh : hashB d l = rowsB ((l.drop 1).take d) (((l.drop 1).drop d).take d) ((l.drop 1).drop (2 * d)) := by
    unfold hashB; rw [hp, decide_eq_true (by simp; omega)]; simp
  have ho : ∀ d', d' ≠ d → hashB d' l = false := by
    intro d' h; unfold hashB; rw [decide_eq_false (by simp; omega)]; simp
  have hv : hashV d l = rowsV ((l.drop 1).take d) (((l.drop 1).drop d).take d) ((l.drop 1).drop (2 * d)) := by
    unfold hashV
    cases h : hashB d l
    · rw [rowsV_none (by rw [← hh, h])]; rfl
    · rfl
  rcases hd with rfl | rfl
  · refine ⟨by unfold parseB; rw [hr, ho 2 (by decide), hh]; simp, ?_⟩
    unfold parseV
    rw [hr, ← hv]
    cases h : hashB 1 l
    · have e1 : hashV 1 l = (0, 0, 0) := by unfold hashV; rw [h]; rfl
      have e2 : hashV 2 l = (0, 0, 0) := by unfold hashV; rw [ho 2 (by decide)]; rfl
      rw [e1, e2]; rfl
    · rfl
  · refine ⟨by unfold parseB; rw [hr, ho 1 (by decide), hh]; simp, ?_⟩
    unfold parseV
    rw [hr, ho 1 (by decide), ← hv]
    rfl

theorem parse_no {l : List UInt8} (h1 : Lib.hasPrefix l rgbP = false) (h2 : Lib.hasPrefix l [35] = false ∨ (l.length ≠ 4 ∧ l.length ≠ 7)) : parseB l = false := by
  have hr : rgbB l = false := by unfold rgbB; rw [h1]; rfl
  have hh : ∀ d, d = 1 ∨ d = 2 → hashB d l = false := by
    intro d hd
    unfold hashB
    rcases h2 with h | h
    · rw [h]; rfl
    · rw [decide_eq_false (by simp; omega)]; simp
  unfold parseB
  rw [hr, hh 1 (Or.inl rfl), hh 2 (Or.inr rfl)]
  rfl

theorem parse_pre {l : List UInt8} (hp : Lib.hasPrefix l rgbP = true) : parseB l = rgbB l ∧ parseV l = rgbV l := by
  have hh : ∀ d, hashB d l = false := by intro d; unfold hashB; rw [no_hash hp]; rfl
  refine ⟨by unfold parseB; rw [hh, hh]; simp, ?_⟩
  unfold parseV
  cases h : rgbB l
  · rw [hh]
    have e1 : hashV 2 l = (0, 0, 0) := by unfold hashV; rw [hh]; rfl
    have e2 : rgbV l = (0, 0, 0) := by unfold rgbV; rw [h]; rfl
    rw [e2]; exact e1
  · rfl
end Go.Proofs.Ythcncghhjlaicaa.Lab
