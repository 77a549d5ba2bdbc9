/- The list's method Byte: one byte more. -/
import Derived.Test.YtlmhnebgkginkaaDoorPaMath
import Derived.Test.YtlmhnebgkginkaaDoorPaNumber
namespace Go.Proofs.YtlmhnebgkginkaaDoor.Lab
open Go.RowKit

def nxtO (s : Option PS) : PS := match s with | none => PS.start | some s => s.nxt

theorem LAt.mk {w : World} {B n : Nat} {num : Nat → Int} {sub : Nat → Nat} {o : Bool} {R : Rws} {s : Option PS} (L : Low w B num sub n o) (T : Tied num sub R) (hr : rowsO s = R) (hn : n = R.length) (ho : outO s = o) : LAt w B s := by
  subst hr hn ho
  exact ⟨num, sub, L, T⟩

theorem next_at (w : World) (B : Nat) (s : Option PS) (c : Value) (h : LAt w B s) :
    Calls Tryd.prog 62 #[.pointer (some ⟨B, 0, none⟩), c] w fun e w' => e = .returned (.tuple #[]) ∧ LAt w' B (some (nxtO s)) ∧ But B w w' := by
  obtain ⟨num, sub, L, T⟩ := h
  by_cases hl : (rowsO s).length < 32
  · obtain ⟨h0, T'⟩ := T.next hl
    refine (next_more w B _ 0 num sub _ c L hl h0 (by omega)).mono ?_
    rintro e w' ⟨rfl, L', b⟩
    refine ⟨rfl, LAt.mk L' T' ?_ (by simp) ?_, b⟩
    all_goals
      cases s with
      | none => rfl
      | some s =>
        have e1 : ¬ s.D.length + 1 = 32 := by simp [rowsO, PS.rows] at hl; omega
        simp [nxtO, PS.nxt, e1, rowsO, outO, PS.rows]
  · have hl2 : (rowsO s).length = 32 := by have := T.len; omega
    rw [hl2] at L
    refine (next_full w B num sub _ c L).mono ?_
    rintro e w' ⟨rfl, L', b⟩
    cases s with
    | none => simp [rowsO] at hl2
    | some s =>
      have e1 : s.D.length + 1 = 32 := by simpa [rowsO, PS.rows] using hl2
      exact ⟨rfl, LAt.mk L' T (by simp [nxtO, PS.nxt, e1, rowsO, PS.rows]) hl2.symm (by simp [nxtO, PS.nxt, e1, outO]), b⟩

theorem sub_at (w : World) (B : Nat) (s : PS) (c : Value) (h : LAt w B (some s)) :
    Calls Tryd.prog 73 #[.pointer (some ⟨B, 0, none⟩), c] w fun e w' => e = .returned (.tuple #[]) ∧ LAt w' B (some s.sub) ∧ But B w w' := by
  obtain ⟨num, sub, L, T⟩ := h
  obtain ⟨D, r, x, o⟩ := s
  simp only [rowsO, outO, PS.rows, List.length_append, List.length_singleton] at L T
  obtain ⟨s1, s2, s3⟩ := T.sub_at
  simp only [List.length_append, List.length_singleton] at s1
  have s4 := s3.2.1
  simp only [List.length_append, List.length_singleton] at s4
  cases o with
  | true =>
    refine (sub_out w B _ num sub c L).mono ?_
    rintro e w' ⟨rfl, L', b⟩
    exact ⟨rfl, LAt.mk L' T (by simp [PS.sub, rowsO, PS.rows]) (by simp) (by simp [PS.sub, outO]), b⟩
  | false =>
    by_cases h8 : r.length + 1 = 8
    · refine (sub_full w B D.length num sub c L s2 (s1.trans h8)).mono ?_
      rintro e w' ⟨rfl, L', b⟩
      exact ⟨rfl, LAt.mk L' T (by simp [PS.sub, h8, rowsO, PS.rows]) (by simp) (by simp [PS.sub, h8, outO]), b⟩
    · have T' := T.more (by simp; omega) (-1) (by omega) (by omega)
      simp only [List.length_append, List.length_singleton] at T'
      refine (sub_more w B D.length (r.length + 1) num sub c L s2 s1 (by omega)).mono ?_
      rintro e w' ⟨rfl, L', b⟩
      exact ⟨rfl, LAt.mk L' T' (by simp [PS.sub, h8, rowsO, PS.rows]) (by simp) (by simp [PS.sub, h8, outO]), b⟩

theorem dig_at (w : World) (B : Nat) (s : PS) (c : Nat) (h48 : 48 ≤ c) (h57 : c ≤ 57) (h : LAt w B (some s)) :
    Calls Tryd.prog 72 #[.pointer (some ⟨B, 0, none⟩), .int .u8 c] w fun e w' => e = .returned (.tuple #[]) ∧ LAt w' B (some (s.dig c)) ∧ But B w w' := by
  obtain ⟨num, sub, L, T⟩ := h
  obtain ⟨D, r, x, o⟩ := s
  simp only [rowsO, outO, PS.rows, List.length_append, List.length_singleton] at L T
  cases o with
  | true =>
    refine (digit_out w B _ num sub (.int .u8 c) L).mono ?_
    rintro e w' ⟨rfl, L', b⟩
    exact ⟨rfl, LAt.mk L' T (by simp [PS.dig, rowsO, PS.rows]) (by simp) (by simp [PS.dig, outO]), b⟩
  | false =>
    obtain ⟨n1, s1, s2, s3, x0, x1, T'⟩ := T.dig (min (10 * max x 0 + ((c : Int) - 48)) 65535) (by omega) (by omega)
    refine (digit_any w B D.length r.length x num sub c L s2 s1 s3 n1 x0 x1 (by omega) (by omega)).mono ?_
    rintro e w' ⟨rfl, L', b⟩
    exact ⟨rfl, LAt.mk L' T' (by simp [PS.dig, rowsO, PS.rows]) (by simp) (by simp [PS.dig, outO]), b⟩
end Go.Proofs.YtlmhnebgkginkaaDoor.Lab
