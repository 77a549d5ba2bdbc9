/- What the document's answer for three parts is, of any three texts; three numbers below 256. -/
import Derived.Test.YthcncghhjlaicaaRPart
import Derived.Test.YthcncghhjlaicaaForms
import Derived.Test.YthcncghhjlaicaaBytes
namespace Go.Proofs.Ythcncghhjlaicaa.Lab
open Go.RowKit

set_option maxHeartbeats 2000000 in
theorem rthree_any (s1 s2 s3 : ByteArray) (h1 : s1.size ≤ maxLen) (h2 : s2.size ≤ maxLen) (h3 : s3.size ≤ maxLen) (w : World) :
    Calls Try.prog 27 #[.string s1, .string s2, .string s3] w (RowsPost s1.data.toList s2.data.toList s3.data.toList w) := by
  have hsum : (partB s1.data.toList = true ∧ partB s2.data.toList = true ∧ partB s3.data.toList = true) ∨ rowsB s1.data.toList s2.data.toList s3.data.toList = false := by
    unfold rowsB
    cases partB s1.data.toList <;> cases partB s2.data.toList <;> cases partB s3.data.toList <;> simp
  have HSUM := Lib.hid hsum
  clear hsum
  go_enter Try.func27, Try.ntmps27
  go_wp2_with fail
  refine (rpart_any _ h1 _).mono ?_
  rintro e w1 ⟨rfl, rfl⟩
  go_wp2_with fail
  refine (rpart_any _ h2 _).mono ?_
  rintro e w1 ⟨rfl, rfl⟩
  go_wp2_with fail
  refine (rpart_any _ h3 _).mono ?_
  rintro e w1 ⟨rfl, rfl⟩
  by_cases hr : rowsB s1.data.toList s2.data.toList s3.data.toList = false
  · have HR := Lib.hid hr
    have hcase : partB s1.data.toList = false ∨ (partB s1.data.toList = true ∧ partB s2.data.toList = false) ∨ (partB s1.data.toList = true ∧ partB s2.data.toList = true ∧ partB s3.data.toList = false) := by
      unfold rowsB at hr
      revert hr
      cases partB s1.data.toList <;> cases partB s2.data.toList <;> cases partB s3.data.toList <;> simp
    clear hr
    rcases hcase with p1 | ⟨p1, p2⟩ | ⟨p1, p2, p3⟩
    all_goals
      go_wp2
      refine bodyPost_ret (v := .tuple #[val 0 0 0, .bool false]) (by simp [results, Try.results27, go_sem]) rfl (rows_none HR.out rfl ?_)
      exact (Below.refl _ _).alloc (Nat.le_refl _) _
  · have hp : partB s1.data.toList = true ∧ partB s2.data.toList = true ∧ partB s3.data.toList = true := by
      rcases HSUM.out with h | h
      · exact h
      · exact absurd h hr
    obtain ⟨p1, p2, p3⟩ := hp
    clear hr
    go_wp2
    refine bodyPost_ret (v := .tuple #[val (partV s1.data.toList) (partV s2.data.toList) (partV s3.data.toList), .bool true]) (by simp [results, Try.results27, go_sem]) rfl (rows_some p1 p2 p3 rfl ?_)
    exact (Below.refl _ _).alloc (Nat.le_refl _) _

theorem rof_any (a b c : Nat) (ha : a < 256) (hb : b < 256) (hc : c < 256) (w : World) :
    Calls Try.prog 23 #[.int .i64 a, .int .i64 b, .int .i64 c] w (ValPost (257 * a, 257 * b, 257 * c) w) := by
  have e1 : (a : Int) * 257 = ((257 * a : Nat) : Int) := by omega
  have e2 : (b : Int) * 257 = ((257 * b : Nat) : Int) := by omega
  have e3 : (c : Int) * 257 = ((257 * c : Nat) : Int) := by omega
  have E1 := Lib.hid e1
  have E2 := Lib.hid e2
  have E3 := Lib.hid e3
  clear e1 e2 e3
  go_enter Try.func23, Try.ntmps23
  go_wp2
  refine bodyPost_ret (v := val ((a : Int) * 257) ((b : Int) * 257) ((c : Int) * 257)) (by simp [results, Try.results23, go_sem]) rfl ⟨by rw [E1.out, E2.out, E3.out], ?_⟩
  exact (Below.refl _ _).alloc (Nat.le_refl _) _
end Go.Proofs.Ythcncghhjlaicaa.Lab
