/- What strings.CutPrefix and strings.Cut at a slash answer to any text. -/
import Derived.Test.YthcncghhjlaicaaRowsOf
import Derived.Lib.IndexLaws
import Derived.RegionTactic
import Derived.ChangeAlike
namespace Go.Proofs.Ythcncghhjlaicaa.Lab
open Go.RowKit

abbrev bs (l : List UInt8) : ByteArray := ⟨l.toArray⟩

/-- A text up to its first slash, what stands behind it, and whether there is one. -/
def cutL : List UInt8 → List UInt8 × List UInt8 × Bool
  | [] => ([], [], false)
  | x :: xs => if x = 47 then ([], xs, true) else (x :: (cutL xs).1, (cutL xs).2.1, (cutL xs).2.2)

theorem cutL_none : ∀ l : List UInt8, (∀ k : Nat, l[k]? ≠ some 47) → cutL l = (l, [], false)
  | [], _ => rfl
  | x :: xs, h => by
    have h0 : x ≠ 47 := fun e => h 0 (by simp [e])
    have ih := cutL_none xs (fun k => h (k + 1))
    rw [cutL, if_neg h0, ih]

theorem cutL_some : ∀ (l : List UInt8) (i : Nat), l[i]? = some 47 → (∀ k : Nat, k < i → l[k]? ≠ some 47) → cutL l = (l.take i, l.drop (i + 1), true)
  | [], i, h, _ => by simp at h
  | x :: xs, 0, h, _ => by
    have h0 : x = 47 := by simpa using h
    rw [cutL, if_pos h0]
    rfl
  | x :: xs, i + 1, h, h2 => by
    have h0 : x ≠ 47 := fun e => h2 0 (by omega) (by simp [e])
    have ih := cutL_some xs i (by simpa using h) (fun k hk => h2 (k + 1) (by omega))
    rw [cutL, if_neg h0, ih]
    rfl

theorem cutI (s : ByteArray) : (Lib.indexByte s.data.toList 47 = -1 ∧ cutL s.data.toList = (s.data.toList, [], false)) ∨ ∃ i : Nat, i < s.size ∧ Lib.indexByte s.data.toList 47 = i ∧ cutL s.data.toList = (s.data.toList.take i, s.data.toList.drop (i + 1), true) := by
  have hg := Lib.indexByte_ge s.data.toList 47
  by_cases h : Lib.indexByte s.data.toList 47 = -1
  · exact .inl ⟨h, cutL_none _ (Lib.indexByte_none h)⟩
  · obtain ⟨i, hi⟩ := Int.eq_ofNat_of_zero_le (show 0 ≤ Lib.indexByte s.data.toList 47 by omega)
    obtain ⟨h1, h2⟩ := Lib.indexByte_some hi
    refine .inr ⟨i, ?_, hi, cutL_some _ i h1 h2⟩
    have := (List.getElem?_eq_some_iff.1 h1).1
    simpa using this

theorem ret_ssb {a b c d : ByteArray} {p q : Bool} (h : a = c) (h2 : b = d) (h3 : p = q) : Ending.returned (.tuple #[.string a, .string b, .bool p]) = .returned (.tuple #[.string c, .string d, .bool q]) := by rw [h, h2, h3]

def CutPost (l : List UInt8) (w : World) (e : Ending) (w' : World) : Prop := e = .returned (.tuple #[.string (bs (cutL l).1), .string (bs (cutL l).2.1), .bool (cutL l).2.2]) ∧ ∃ n, w' = w.drewN n

set_option maxHeartbeats 1000000 in
theorem scut_any (s : ByteArray) (hs : s.size ≤ maxLen) (w : World) : Calls Try.prog 40 #[.string s, .string ⟨#[47]⟩] w (CutPost s.data.toList w) := by
  unfold maxLen at hs
  rcases cutI s with ⟨hi, hc⟩ | ⟨i, hlt, hi, hc⟩
  · have HC := Lib.hid hc
    clear hc
    go_enter Try.func40, Try.ntmps40
    go_wp2_with fail
    refine (Try.stringslite_Index_one _ _ _).mono ?_
    rintro e w' ⟨rfl, rfl⟩
    rw [hi]
    clear hi
    go_wp2
    go_ret3
    refine ⟨?_, 0, rfl⟩
    rw [HC.out]
    exact ret_ssb (Lib.mk_data s).symm rfl rfl
  · have HC := Lib.hid hc
    clear hc
    have c1 : (0 : Int) ≤ ↑i := by omega
    have c2 : (↑i : Int) ≤ ↑s.size := by omega
    have c3 : (0 : Int) ≤ ↑i + 1 := by omega
    have c4 : (↑i + 1 : Int) ≤ ↑s.size := by omega
    go_enter Try.func40, Try.ntmps40
    go_wp2_with fail
    refine (Try.stringslite_Index_one _ _ _).mono ?_
    rintro e w' ⟨rfl, rfl⟩
    rw [hi]
    clear hi
    go_wp2
    go_quiet (fail)
    go_wp2
    go_ret3
    refine ⟨?_, _, rfl⟩
    rw [HC.out]
    exact ret_ssb (Lib.extract_eq s 0 i) (by rw [Lib.extract_eq, List.take_of_length_le (by simp)]) rfl

theorem cut_any (s : ByteArray) (hs : s.size ≤ maxLen) (w : World) : Calls Try.prog 36 #[.string s, .string ⟨#[47]⟩] w (CutPost s.data.toList w) := by
  go_enter Try.func36, Try.ntmps36
  go_wp2_with fail
  refine (scut_any _ hs _).mono ?_
  rintro e w' ⟨rfl, n, rfl⟩
  go_wp2
  go_ret3
  exact ⟨rfl, n, rfl⟩

theorem cutL_length : ∀ l : List UInt8, (cutL l).1.length + (cutL l).2.1.length ≤ l.length
  | [] => by simp [cutL]
  | x :: xs => by
    have := cutL_length xs
    unfold cutL
    split <;> simp <;> omega
end Go.Proofs.Ythcncghhjlaicaa.Lab
