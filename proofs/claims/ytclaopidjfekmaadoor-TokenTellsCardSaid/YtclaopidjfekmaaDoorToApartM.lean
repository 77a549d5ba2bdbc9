/- Two rows of right tokens that differ at one place at most: the same bytes only if they are the same. -/
import Derived.Test.YtclaopidjfekmaaDoorToRowsS
import Derived.Test.YtclaopidjfekmaaDoorToDraftsR
namespace Go.Proofs.YtclaopidjfekmaaDoor.Lab
open Go Go.RowKit

/-- All are right. -/
def AllR (l : List Tok) : Prop := ∀ t ∈ l, Right t ∧ t.wf
theorem AllR.rightB {l : List Tok} (h : AllR l) : l.all rightB = true := by
  rw [List.all_eq_true]
  exact fun t ht => right_of (h t ht).2 (h t ht).1
theorem AllR.ok {l : List Tok} (h : AllR l) : ∀ t ∈ l, TokOk t := fun t ht => tokOk_of (h t ht).2 (h t ht).1
theorem AllR.set {l : List Tok} (h : AllR l) {x : Tok} (hx : Right x ∧ x.wf) (k : Nat) : AllR (l.set k x) := fun t ht => by
  rcases List.mem_or_eq_of_mem_set ht with h1 | h1
  · exact h t h1
  · rw [h1]; exact hx
theorem AllR.snoc {l : List Tok} (h : AllR l) {x : Tok} (hx : Right x ∧ x.wf) : AllR (l ++ [x]) := fun t ht => by
  rcases List.mem_append.1 ht with h1 | h1
  · exact h t h1
  · rw [List.mem_singleton.1 h1]; exact hx
theorem bl_putS {l : List Tok} (h : AllR l) : bl (putS l) = putL l := by
  unfold putS
  rw [if_pos h.rightB]
theorem putE_ok {l : List Tok} (h : AllR l) : putE l = 0 := by rw [putE, if_pos h.rightB]
theorem putL_set (l : List Tok) (k : Nat) (hk : k < l.length) (x : Tok) : putL (l.set k x) = putL (l.take k) ++ (tokL x ++ putL (l.drop (k + 1))) := by
  rw [List.set_eq_take_append_cons_drop, if_pos hk]
  simp [putL]
theorem putL_at (l : List Tok) (k : Nat) (hk : k < l.length) : putL l = putL (l.take k) ++ (tokL l[k] ++ putL (l.drop (k + 1))) := by
  rw [← putL_set l k hk l[k], List.set_getElem_self]
/-- One token instead of another one: the bytes are the same only if the rows are. -/
theorem put_same {l : List Tok} (h : AllR l) {k : Nat} (hk : k < l.length) {x : Tok} (hx : Right x ∧ x.wf) : ((putS l).toList == (putS (l.set k x)).toList) = rowsB l (l.set k x) := by
  rw [Bool.eq_iff_iff, beq_iff_eq, rowsB_iff, ByteArray.toList_eq, ByteArray.toList_eq]
  show bl (putS l) = bl (putS (l.set k x)) ↔ _
  rw [bl_putS h, bl_putS (h.set hx k), putL_at l k hk, putL_set l k hk]
  constructor
  · intro e
    have e1 := List.append_cancel_right (List.append_cancel_left e)
    have e2 : l[k] = x := tok_inj (h _ (List.getElem_mem hk)).1 hx.1 (h _ (List.getElem_mem hk)).2 hx.2 e1
    rw [← e2, List.set_getElem_self]
    exact ⟨rfl, fun _ _ => rfl⟩
  · intro e
    have e1 := e.2 k hk
    have e2 : l[k] = x := by
      simpa [List.getD_eq_getElem?_getD, hk] using e1
    rw [e2]
theorem put_self {l : List Tok} : ((putS l).toList == (putS l).toList) = rowsB l l := by
  rw [Bool.eq_iff_iff, beq_iff_eq, rowsB_iff]
  exact ⟨fun _ => ⟨rfl, fun _ _ => rfl⟩, fun _ => rfl⟩
/-- One more token: more bytes, the others ahead of them. -/
theorem put_more {l : List Tok} (h : AllR l) {x : Tok} (hx : Right x ∧ x.wf) : bl (putS (l ++ [x])) = bl (putS l) ++ tokL x ∧ 1 ≤ (tokL x).length := by
  refine ⟨?_, (right_len hx.1).1⟩
  rw [bl_putS h, bl_putS (h.snoc hx), putL_snoc]
end Go.Proofs.YtclaopidjfekmaaDoor.Lab
