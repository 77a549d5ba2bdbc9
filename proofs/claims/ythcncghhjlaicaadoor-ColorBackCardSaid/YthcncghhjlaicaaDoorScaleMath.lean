/- Short digits: read, held against each other, trimmed (for ColorScales). -/
import Derived.Test.YthcncghhjlaicaaDoorTextMath
import Derived.Lib.TrimByte
import Derived.Lib.Repeat
namespace Go.Proofs.YthcncghhjlaicaaDoor.Lab
open Go.RowKit

theorem dropw_nil (p : UInt8 → Bool) (l : List UInt8) : l.dropWhile p = [] ↔ ∀ b ∈ l, p b = true := by
  induction l with
  | nil => simp
  | cons a l ih =>
    rw [List.dropWhile_cons]
    by_cases h : p a = true
    · rw [if_pos h, ih]; simp [h]
    · rw [if_neg h]; simp [h]

theorem ba_beq (x y : ByteArray) : (x == y) = true ↔ x = y := by
  obtain ⟨a⟩ := x
  obtain ⟨b⟩ := y
  have e : ((⟨a⟩ : ByteArray) == ⟨b⟩) = (a == b) := rfl
  rw [e, beq_iff_eq]
  simp

theorem trim_nil (l : List UInt8) (c : UInt8) : Lib.trimB l c = [] ↔ ∀ b ∈ l, b = c := by
  unfold Lib.trimB Lib.trimLeftB Lib.trimRightB
  rw [dropw_nil]
  constructor
  · intro h b hb
    cases hd : l.reverse.dropWhile (· == c) with
    | nil =>
      rw [dropw_nil] at hd
      simpa using hd b (by simpa using hb)
    | cons x r =>
      exfalso
      have h1 := List.head_dropWhile_not (p := (· == c)) (l := l.reverse) (by rw [hd]; simp)
      have h2 := h x (by rw [hd]; simp)
      simp only [hd, List.head_cons] at h1
      rw [h2] at h1
      cases h1
  · intro h b hb
    have h1 : b ∈ l.reverse := (List.dropWhile_sublist (· == c)).subset (by simpa using hb)
    simp [h b (by simpa using h1)]

theorem hexC_zero (n : Nat) (h : n < 16) : hexC n = 48 ↔ n = 0 := by
  obtain rfl | rfl | rfl | rfl | rfl | rfl | rfl | rfl | rfl | rfl | rfl | rfl | rfl | rfl | rfl | rfl : n = 0 ∨ n = 1 ∨ n = 2 ∨ n = 3 ∨ n = 4 ∨ n = 5 ∨ n = 6 ∨ n = 7 ∨ n = 8 ∨ n = 9 ∨ n = 10 ∨ n = 11 ∨ n = 12 ∨ n = 13 ∨ n = 14 ∨ n = 15 := by omega
  all_goals decide

theorem trim_low (k n : Nat) (h1 : 1 ≤ k) (h4 : k ≤ 4) (hn : n < 16 ^ k) : Lib.trimB (lowD k n) 48 = [] ↔ n = 0 := by
  rw [trim_nil]
  have hn4 : n < 65536 := by
    obtain rfl | rfl | rfl | rfl : k = 1 ∨ k = 2 ∨ k = 3 ∨ k = 4 := by omega
    all_goals omega
  have a1 := hexC_zero (n / 4096) (by omega)
  have a2 := hexC_zero (n / 256 % 16) (by omega)
  have a3 := hexC_zero (n / 16 % 16) (by omega)
  have a4 := hexC_zero (n % 16) (by omega)
  obtain rfl | rfl | rfl | rfl : k = 1 ∨ k = 2 ∨ k = 3 ∨ k = 4 := by omega
  · simp [lowD, hex4, a4]; omega
  · simp [lowD, hex4, a3, a4]; omega
  · simp [lowD, hex4, a2, a3, a4]; omega
  · simp [lowD, hex4, a1, a2, a3, a4]; omega

theorem parse_short (k P Q : Nat) (h1 : 1 ≤ k) (h4 : k ≤ 4) (hP : P < 16 ^ k) (hQ : Q < 16 ^ k) (S : ByteArray)
    (hS : S.data.toList = [114, 103, 98, 58] ++ (lowD k P ++ 47 :: (lowD k Q ++ 47 :: List.replicate k 102))) (w : World) :
    Calls Tryd.prog 10 #[.string S] w fun e w' => e = .returned (.tuple #[val (scale k P : Nat) (scale k Q : Nat) 65535, .bool true]) ∧ Below w.heap.size w w' := by
  have e1 := low_ok k P h1 h4 hP
  have e2 := low_ok k Q h1 h4 hQ
  have e3 := effs_ok k h1 h4
  have hp := parse_rgb e1.1 e2.1 e3.1
  rw [e1.2, e2.2, e3.2] at hp
  have hl : (lowD k P).length = k ∧ (lowD k Q).length = k := by constructor <;> (simp [lowD, hex4]; omega)
  have hsz : S.size ≤ maxLen := by
    rw [Lib.size_eq, hS]
    simp [hl.1, hl.2]
    unfold maxLen
    omega
  refine (parse_any S hsz w).mono ?_
  rintro e w' ⟨he, hb⟩
  rw [hS, hp.1, hp.2] at he
  exact ⟨he, hb⟩

/-- The three parts as the walk asks of them. -/
theorem short_facts (k P Q : Nat) (h1 : 1 ≤ k) (h4 : k ≤ 4) (hP : P < 16 ^ k) (hQ : Q < 16 ^ k) (hPQ : P ≤ Q) (x y t : ByteArray) (hx : x.data.toList = lowD k P) (hy : y.data.toList = lowD k Q)
    (ht : t = ⟨(Lib.trimB x.data.toList 48).toArray⟩) :
    ∃ (A B : Nat) (e f : Bool), scale k P = A ∧ scale k Q = B ∧ ((A : Int) == (B : Int)) = e ∧ (x.toList == y.toList) = e ∧ ((A : Int) == 0) = f ∧ t.toList.isEmpty = f ∧ A ≤ B := by
  refine ⟨_, _, _, _, rfl, rfl, rfl, ?_, rfl, ?_, scale_le k P Q hPQ⟩
  · rw [← beq_toListBytes, Bool.eq_iff_iff, ba_beq, beq_iff_eq]
    have e1 : x = y ↔ lowD k P = lowD k Q := by
      rw [← hx, ← hy]
      constructor
      · rintro rfl; rfl
      · intro h; obtain ⟨⟨a⟩⟩ := x; obtain ⟨⟨b⟩⟩ := y; simp at h; subst h; rfl
    rw [e1, low_inj k P Q h1 h4 hP hQ]
    have := scale_eq k P Q
    omega
  · subst ht
    rw [Bool.eq_iff_iff, List.isEmpty_iff, beq_iff_eq, ByteArray.toList_eq, hx]
    have e1 : ((⟨(Lib.trimB (lowD k P) 48).toArray⟩ : ByteArray).data.toList = []) ↔ Lib.trimB (lowD k P) 48 = [] := Iff.rfl
    rw [e1, trim_low k P h1 h4 hP]
    have := scale_zero k P
    omega
end Go.Proofs.YthcncghhjlaicaaDoor.Lab
