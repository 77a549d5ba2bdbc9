/- A list of parameters in memory, cell by cell: 256 numbers, how many each parameter has, how many parameters, and whether what comes is left out. -/
import Derived.WalkKit
import Derived.BigRegion
import Derived.BigQuiet
import Derived.Deep.QuietTactic
import Derived.IntWalk
import Derived.Below
import Derived.Lib.Hide
import Derived.Test.YthildghpgajgoaaTakes
namespace Go.Proofs.Ythildghpgajgoaa.Lab
open Go.RowKit

def upd {α : Type} (f : Nat → α) (k : Nat) (x : α) : Nat → α := fun i => if i = k then x else f i
theorem upd_same {α : Type} (f : Nat → α) (k : Nat) (x : α) : upd f k x k = x := by simp [upd]
theorem upd_other {α : Type} (f : Nat → α) {k i : Nat} (x : α) (h : i ≠ k) : upd f k x i = f i := by simp [upd, h]

theorem cell_far {w : World} {B i k : Nat} {v : Value} (h : k ≠ i) : (w.setCell ⟨B, k, none⟩ v).cell? ⟨B, i, none⟩ = w.cell? ⟨B, i, none⟩ :=
  World.cell?_setCell_other _ _ _ _ (fun e => h (by injection e))

/-- The list's cells. -/
structure Low (w : World) (B : Nat) (num : Nat → Int) (sub : Nat → Nat) (n : Nat) (o : Bool) : Prop where
  cn : ∀ k, k < 256 → w.cell? ⟨B, k, none⟩ = some (.int .i64 (num k))
  cs : ∀ k, k < 32 → w.cell? ⟨B, 256 + k, none⟩ = some (.int .i64 (sub k))
  cp : w.cell? ⟨B, 288, none⟩ = some (.int .i64 n)
  co : w.cell? ⟨B, 289, none⟩ = some (.bool o)
  fr : ∀ k, w.frozen? ⟨B, k, none⟩ = false

theorem Low.lt {w : World} {B n : Nat} {num : Nat → Int} {sub : Nat → Nat} {o : Bool} (h : Low w B num sub n o) : B < w.heap.size := World.block_lt_of_cell? (a := ⟨B, 289, none⟩) w h.co

theorem Low.same {w w' : World} {B n : Nat} {num : Nat → Int} {sub : Nat → Nat} {o : Bool} (h : Low w B num sub n o) (hb : w'.heap[B]? = w.heap[B]?) : Low w' B num sub n o := by
  have c : ∀ i, w'.cell? ⟨B, i, none⟩ = w.cell? ⟨B, i, none⟩ := fun i => World.cell?_of_block hb
  have f : ∀ i, w'.frozen? ⟨B, i, none⟩ = w.frozen? ⟨B, i, none⟩ := fun i => World.frozen?_of_block hb
  exact ⟨fun k hk => (c k).trans (h.cn k hk), fun k hk => (c _).trans (h.cs k hk), (c _).trans h.cp, (c _).trans h.co, fun k => (f k).trans (h.fr k)⟩
theorem Low.below {w w' : World} {B n : Nat} {num : Nat → Int} {sub : Nat → Nat} {o : Bool} (h : Low w B num sub n o) (hb : Below w.heap.size w w') : Low w' B num sub n o := h.same (hb.block B h.lt)
theorem Low.drew {w : World} {B n : Nat} {num : Nat → Int} {sub : Nat → Nat} {o : Bool} (h : Low w B num sub n o) : Low w.drew B num sub n o := h.same rfl
theorem Low.drewN {w : World} {B n : Nat} {num : Nat → Int} {sub : Nat → Nat} {o : Bool} (h : Low w B num sub n o) (q : Nat) : Low (w.drewN q) B num sub n o := by
  induction q with
  | zero => exact h
  | succ q ih => exact ih.drew

theorem Low.setNum {w : World} {B n : Nat} {num : Nat → Int} {sub : Nat → Nat} {o : Bool} (h : Low w B num sub n o) (k : Nat) (hk : k < 256) (x : Int) : Low (w.setCell ⟨B, k, none⟩ (.int .i64 x)) B (upd num k x) sub n o := by
  refine ⟨fun i hi => ?_, fun i hi => ?_, ?_, ?_, fun i => ?_⟩
  · by_cases e : i = k
    · subst e
      rw [upd_same]
      exact World.cell?_setCell_same _ _ _ (h.cn i hi)
    · rw [upd_other _ _ e, cell_far (by omega)]
      exact h.cn i hi
  · rw [cell_far (by omega)]
    exact h.cs i hi
  · rw [cell_far (by omega)]
    exact h.cp
  · rw [cell_far (by omega)]
    exact h.co
  · rw [World.frozen?_setCell]
    exact h.fr i
theorem Low.setSub {w : World} {B n : Nat} {num : Nat → Int} {sub : Nat → Nat} {o : Bool} (h : Low w B num sub n o) (k : Nat) (hk : k < 32) (x : Nat) : Low (w.setCell ⟨B, 256 + k, none⟩ (.int .i64 x)) B num (upd sub k x) n o := by
  refine ⟨fun i hi => ?_, fun i hi => ?_, ?_, ?_, fun i => ?_⟩
  · rw [cell_far (by omega)]
    exact h.cn i hi
  · by_cases e : i = k
    · subst e
      rw [upd_same]
      exact World.cell?_setCell_same _ _ _ (h.cs i hi)
    · rw [upd_other _ _ e, cell_far (by omega)]
      exact h.cs i hi
  · rw [cell_far (by omega)]
    exact h.cp
  · rw [cell_far (by omega)]
    exact h.co
  · rw [World.frozen?_setCell]
    exact h.fr i
theorem Low.setN {w : World} {B n : Nat} {num : Nat → Int} {sub : Nat → Nat} {o : Bool} (h : Low w B num sub n o) (x : Nat) : Low (w.setCell ⟨B, 288, none⟩ (.int .i64 x)) B num sub x o := by
  refine ⟨fun i hi => ?_, fun i hi => ?_, ?_, ?_, fun i => ?_⟩
  · rw [cell_far (by omega)]
    exact h.cn i hi
  · rw [cell_far (by omega)]
    exact h.cs i hi
  · exact World.cell?_setCell_same _ _ _ h.cp
  · rw [cell_far (by omega)]
    exact h.co
  · rw [World.frozen?_setCell]
    exact h.fr i
theorem Low.setO {w : World} {B n : Nat} {num : Nat → Int} {sub : Nat → Nat} {o : Bool} (h : Low w B num sub n o) (x : Bool) : Low (w.setCell ⟨B, 289, none⟩ (.bool x)) B num sub n x := by
  refine ⟨fun i hi => ?_, fun i hi => ?_, ?_, ?_, fun i => ?_⟩
  · rw [cell_far (by omega)]
    exact h.cn i hi
  · rw [cell_far (by omega)]
    exact h.cs i hi
  · rw [cell_far (by omega)]
    exact h.cp
  · exact World.cell?_setCell_same _ _ _ h.co
  · rw [World.frozen?_setCell]
    exact h.fr i

/-- Nothing but block B has turned. -/
abbrev But (B : Nat) (w w' : World) : Prop := w.grownBy w' (some B)
theorem But.refl (B : Nat) (w : World) : But B w w := ⟨rfl, rfl, rfl, Nat.le_refl _, fun _ _ _ => rfl⟩
theorem But.trans {B : Nat} {a b c : World} (h : But B a b) (k : But B b c) : But B a c :=
  ⟨k.os.trans h.os, k.tape.trans h.tape, k.output.trans h.output, Nat.le_trans h.size k.size, fun i hi hn => (k.block i (Nat.lt_of_lt_of_le hi h.size) hn).trans (h.block i hi hn)⟩
theorem But.of {B : Nat} {a b : World} (h : Below a.heap.size a b) : But B a b := ⟨h.os, h.tape, h.output, h.size, fun i hi _ => h.block i hi⟩
theorem But.set (w : World) (B k : Nat) (v : Value) : But B w (w.setCell ⟨B, k, none⟩ v) :=
  ⟨rfl, rfl, rfl, by simp, fun i hi hn => Below.heap_setCell _ _ _ _ (by simpa using hn)⟩
theorem But.drew {B : Nat} {a b : World} (h : But B a b) : But B a b.drew := ⟨h.os, h.tape, h.output, h.size, h.block⟩
theorem But.drewN {B : Nat} {a b : World} (h : But B a b) (q : Nat) : But B a (b.drewN q) := by
  induction q with
  | zero => exact h
  | succ q ih => exact ih.drew
theorem But.below {B C : Nat} {a b : World} (h : But B a b) (hB : C ≤ B) (hC : C ≤ a.heap.size) : Below C a b :=
  ⟨h.os, h.tape, h.output, h.size, fun i hi => h.block i (by omega) (by simp; omega)⟩
end Go.Proofs.Ythildghpgajgoaa.Lab
