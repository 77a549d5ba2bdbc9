/- Rows of numbers as they can be read, whoever has made them; attributes, colours and a reading in blocks; boxes. -/
import Derived.Test.YtnefamgjlhdffaaAtMath
import Derived.Test.YtnefamgjlhdffaaProg
import Derived.WalkKit
import Derived.BigRegion
import Derived.BigQuiet
import Derived.Deep.QuietTactic
import Derived.IntWalk
import Derived.Below
import Derived.Lib.Hide
import Derived.Deep.Draws
import Derived.Laws.BitsAllLaws
import Derived.OwnWalk
import Derived.Laws.OwnMore
import Derived.Outline
import Derived.LoopTactic
import Derived.Deep.LoopGhost
namespace Go.Proofs.Ytnefamgjlhdffaa.Lab
open Go Go.RowKit

/-- What a world holds, the other one holds too. -/
def Keeps (w w' : World) : Prop := ∀ b o v, w.cell? ⟨b, o, none⟩ = some v → w'.cell? ⟨b, o, none⟩ = some v
theorem Keeps.refl (w : World) : Keeps w w := fun _ _ _ h => h
theorem Keeps.of {w w' : World} (h : Below w.heap.size w w') : Keeps w w' := fun b o _ hv => (h.cell (p := ⟨b, o, none⟩) (World.block_lt_of_cell? (a := ⟨b, o, none⟩) w hv)).trans hv
/-- .. but for one block, at whose head a reading's cells lie. -/
def NumsAt (w : World) (X : Nat → Prop) (v : Value) (r : List Int) : Prop :=
  ∃ a c, v = .slice a r.length c ∧ r.length ≤ c ∧ r.length ≤ maxLen ∧ (0 < r.length → ∃ g o, a = some ⟨g, o, none⟩ ∧ X g ∧ g < w.heap.size ∧ ∀ j, j < r.length → w.cell? ⟨g, o + j, none⟩ = some (.int .i64 (r.getD j 0)))
/-- A row of rows of numbers; its blocks are of X. -/
def MatAt (w : World) (X : Nat → Prop) (v : Value) (R : Rws) : Prop :=
  ∃ a c, v = .slice a R.length c ∧ R.length ≤ c ∧ R.length ≤ maxLen ∧ (0 < R.length → ∃ g o, a = some ⟨g, o, none⟩ ∧ X g ∧ g < w.heap.size ∧ ∀ j, j < R.length → ∃ u, w.cell? ⟨g, o + j, none⟩ = some u ∧ NumsAt w X u (R.getD j []))
theorem NumsAt.keep {w w' : World} {X : Nat → Prop} {v : Value} {r : List Int} (h : NumsAt w X v r) (hs : w.heap.size ≤ w'.heap.size) (k : ∀ g, X g → g < w.heap.size → w'.heap[g]? = w.heap[g]?) : NumsAt w' X v r := by
  obtain ⟨a, c, e, hc, hm, h⟩ := h
  refine ⟨a, c, e, hc, hm, fun h0 => ?_⟩
  obtain ⟨g, o, ea, hx, hl, hcell⟩ := h h0
  exact ⟨g, o, ea, hx, by omega, fun j hj => (World.cell?_of_block (a := ⟨g, o + j, none⟩) (k g hx hl)).trans (hcell j hj)⟩
theorem MatAt.keep {w w' : World} {X : Nat → Prop} {v : Value} {R : Rws} (h : MatAt w X v R) (hs : w.heap.size ≤ w'.heap.size) (k : ∀ g, X g → g < w.heap.size → w'.heap[g]? = w.heap[g]?) : MatAt w' X v R := by
  obtain ⟨a, c, e, hc, hm, h⟩ := h
  refine ⟨a, c, e, hc, hm, fun h0 => ?_⟩
  obtain ⟨g, o, ea, hx, hl, hcell⟩ := h h0
  refine ⟨g, o, ea, hx, by omega, fun j hj => ?_⟩
  obtain ⟨u, hu, hn⟩ := hcell j hj
  exact ⟨u, (World.cell?_of_block (a := ⟨g, o + j, none⟩) (k g hx hl)).trans hu, hn.keep hs k⟩
theorem NumsAt.below {w w' : World} {X : Nat → Prop} {v : Value} {r : List Int} (h : NumsAt w X v r) (k : Below w.heap.size w w') : NumsAt w' X v r := h.keep k.size fun g _ hl => k.block g hl
theorem MatAt.below {w w' : World} {X : Nat → Prop} {v : Value} {R : Rws} (h : MatAt w X v R) (k : Below w.heap.size w w') : MatAt w' X v R := h.keep k.size fun g _ hl => k.block g hl
theorem NumsAt.mono {w : World} {X Y : Nat → Prop} {v : Value} {r : List Int} (h : NumsAt w X v r) (k : ∀ g, X g → Y g) : NumsAt w Y v r := by
  obtain ⟨a, c, e, hc, hm, h⟩ := h
  refine ⟨a, c, e, hc, hm, fun h0 => ?_⟩
  obtain ⟨g, o, ea, hx, hl, hcell⟩ := h h0
  exact ⟨g, o, ea, k g hx, hl, hcell⟩
theorem MatAt.mono {w : World} {X Y : Nat → Prop} {v : Value} {R : Rws} (h : MatAt w X v R) (k : ∀ g, X g → Y g) : MatAt w Y v R := by
  obtain ⟨a, c, e, hc, hm, h⟩ := h
  refine ⟨a, c, e, hc, hm, fun h0 => ?_⟩
  obtain ⟨g, o, ea, hx, hl, hcell⟩ := h h0
  refine ⟨g, o, ea, k g hx, hl, fun j hj => ?_⟩
  obtain ⟨u, hu, hn⟩ := hcell j hj
  exact ⟨u, hu, hn.mono k⟩
theorem MatAt.nil (w : World) (X : Nat → Prop) (a : Option Addr) (c : Nat) : MatAt w X (.slice a 0 c) [] := ⟨a, c, rfl, by simp, by simp, fun h => by simp at h⟩
theorem NumsAt.nil (w : World) (X : Nat → Prop) (a : Option Addr) (c : Nat) : NumsAt w X (.slice a 0 c) [] := ⟨a, c, rfl, by simp, by simp, fun h => by simp at h⟩
theorem NumsAt.open {w : World} {X : Nat → Prop} {v : Value} {r : List Int} (h : NumsAt w X v r) (h0 : 0 < r.length) : ∃ g o c, v = .slice (some ⟨g, o, none⟩) r.length c ∧ r.length ≤ c ∧ r.length ≤ maxLen ∧ X g ∧ g < w.heap.size ∧ ∀ j, j < r.length → w.cell? ⟨g, o + j, none⟩ = some (.int .i64 (r.getD j 0)) := by
  obtain ⟨a, c, e, hc, hm, h⟩ := h
  obtain ⟨g, o, ea, hx, hl, hcell⟩ := h h0
  exact ⟨g, o, c, by rw [e, ea], hc, hm, hx, hl, hcell⟩
theorem MatAt.open {w : World} {X : Nat → Prop} {v : Value} {R : Rws} (h : MatAt w X v R) (h0 : 0 < R.length) : ∃ g o c, v = .slice (some ⟨g, o, none⟩) R.length c ∧ R.length ≤ c ∧ R.length ≤ maxLen ∧ X g ∧ g < w.heap.size ∧ ∀ j, j < R.length → ∃ u, w.cell? ⟨g, o + j, none⟩ = some u ∧ NumsAt w X u (R.getD j []) := by
  obtain ⟨a, c, e, hc, hm, h⟩ := h
  obtain ⟨g, o, ea, hx, hl, hcell⟩ := h h0
  exact ⟨g, o, c, by rw [e, ea], hc, hm, hx, hl, hcell⟩
theorem NumsAt.shape {w : World} {X : Nat → Prop} {v : Value} {r : List Int} (h : NumsAt w X v r) : ∃ a c, v = .slice a r.length c := by
  obtain ⟨a, c, e, _⟩ := h
  exact ⟨a, c, e⟩
theorem MatAt.shape {w : World} {X : Nat → Prop} {v : Value} {R : Rws} (h : MatAt w X v R) : ∃ a c, v = .slice a R.length c := by
  obtain ⟨a, c, e, _⟩ := h
  exact ⟨a, c, e⟩
theorem getD_drop {α : Type} (l : List α) (k j : Nat) (d : α) : (l.drop k).getD j d = l.getD (k + j) d := by
  simp [List.getD_eq_getElem?_getD]
theorem getD_takeK {α : Type} (l : List α) (k j : Nat) (d : α) (h : j < k) : (l.take k).getD j d = l.getD j d := by
  simp [List.getD_eq_getElem?_getD, h]
/-- The beginning of a row, cut to its length. -/
theorem MatAt.take {w : World} {X : Nat → Prop} {a : Option Addr} {n c : Nat} {R : Rws} (h : MatAt w X (.slice a n c) R) {k : Nat} (hk : k ≤ R.length) : MatAt w X (.slice a k k) (R.take k) := by
  obtain ⟨a', c', e, hc, hm, hh⟩ := h
  injection e with e1 e2 e3
  subst e1 e3
  have hl : (R.take k).length = k := by rw [List.length_take]; omega
  refine ⟨_, _, by rw [hl], by omega, by omega, fun h0 => ?_⟩
  obtain ⟨g, o, ea, hx, hg, hcell⟩ := hh (by omega)
  refine ⟨g, o, ea, hx, hg, fun j hj => ?_⟩
  rw [hl] at hj
  rw [getD_takeK R k j [] hj]
  exact hcell j (by omega)
/-- What is behind the first k. -/
theorem MatAt.drop {w : World} {X : Nat → Prop} {g o n c : Nat} {R : Rws} (h : MatAt w X (.slice (some ⟨g, o, none⟩) n c) R) {k : Nat} (hk : k < R.length) : MatAt w X (.slice (some ⟨g, o + k, none⟩) (n - k) (n - k)) (R.drop k) := by
  obtain ⟨a', c', e, hc, hm, hh⟩ := h
  injection e with e1 e2 e3
  subst e2
  have hl : (R.drop k).length = R.length - k := List.length_drop
  refine ⟨_, _, by rw [hl], by omega, by omega, fun h0 => ?_⟩
  obtain ⟨g', o', ea, hx, hg, hcell⟩ := hh (by omega)
  rw [ea] at e1
  injection e1 with e1
  injection e1 with e1 e4
  subst e1 e4
  refine ⟨g, o + k, rfl, hx, hg, fun j hj => ?_⟩
  rw [hl] at hj
  rw [getD_drop, Nat.add_assoc]
  exact hcell (k + j) (by omega)
theorem NumsAt.drop {w : World} {X : Nat → Prop} {g o n c : Nat} {r : List Int} (h : NumsAt w X (.slice (some ⟨g, o, none⟩) n c) r) {k : Nat} (hk : k < r.length) : NumsAt w X (.slice (some ⟨g, o + k, none⟩) (n - k) (n - k)) (r.drop k) := by
  obtain ⟨a', c', e, hc, hm, hh⟩ := h
  injection e with e1 e2 e3
  subst e2
  have hl : (r.drop k).length = r.length - k := List.length_drop
  refine ⟨_, _, by rw [hl], by omega, by omega, fun h0 => ?_⟩
  obtain ⟨g', o', ea, hx, hg, hcell⟩ := hh (by omega)
  rw [ea] at e1
  injection e1 with e1
  injection e1 with e1 e4
  subst e1 e4
  refine ⟨g, o + k, rfl, hx, hg, fun j hj => ?_⟩
  rw [hl] at hj
  rw [getD_drop, Nat.add_assoc]
  exact hcell (k + j) (by omega)

/-- Slices as rest and next cut them. -/
theorem slice_mid {T E : TypeId} (hT : Try.prog.underlying T = some (.slice E)) (hE : Try.prog.elem T = E) (hs : ∀ w, (sizeOf E).run Try.prog w = .ok 1 w) (a : Option Addr) (n c k : Nat) (hk : k ≤ n) (hc : n ≤ c) (w : World) :
    (Instr.sliceAt T (.slice a n c) (some (.int .i64 k)) (some (.int .i64 n)) (some (.int .i64 n))).run Try.prog w = .ok (.slice (if n - k = 0 then a else a.map fun x => x.add k) (n - k) (n - k)) w := by
  have hT' : Try.prog.underlying T = some (.slice (Try.prog.elem T)) := by rw [hE]; exact hT
  rw [run_sliceAt_slice w T _ _ _ _ hT', run_slice_lhm (P := Try.prog) (w := w) (t := T) (ht := hT') (kl := .i64) (kh := .i64) (km := .i64) (l := (k : Int)) (h := (n : Int)) (m := (n : Int)) (h0 := by omega) (h1 := by omega) (h2 := by omega) (h3 := by omega), hE, hs]
  simp only [Result.andThen, sliced, Int.toNat_natCast, Nat.mul_one]
  by_cases h : n = k
  · subst h
    simp
  · rw [if_neg (show ¬ n - k = 0 by omega)]
    rw [if_neg (by omega)]
theorem slice_head {T E : TypeId} (hT : Try.prog.underlying T = some (.slice E)) (hE : Try.prog.elem T = E) (hs : ∀ w, (sizeOf E).run Try.prog w = .ok 1 w) (a : Option Addr) (n c k : Nat) (hk : k ≤ c) (w : World) :
    (Instr.sliceAt T (.slice a n c) none (some (.int .i64 k)) (some (.int .i64 k))).run Try.prog w = .ok (.slice a k k) w := by
  have hT' : Try.prog.underlying T = some (.slice (Try.prog.elem T)) := by rw [hE]; exact hT
  rw [run_sliceAt_slice w T _ _ _ _ hT', run_slice_hm (P := Try.prog) (w := w) (t := T) (ht := hT') (kh := .i64) (km := .i64) (h := (k : Int)) (m := (k : Int)) (h0 := by omega) (h2 := by omega) (h3 := by omega), hE, hs]
  have e : (if k = 0 then a else a.map fun x => x.add (0 * 1)) = a := by
    split
    · rfl
    · cases a with
      | none => rfl
      | some a =>
        cases a with
        | mk b o s => simp [Addr.add]
  simp only [Result.andThen, sliced, Int.toNat_natCast, Nat.sub_zero]
  rw [e]

/-- An attribute as a value, a colour as one. -/
abbrev colV (c : Cl) : Value := .agg #[.int .u8 c.k, .int .u8 c.r, .int .u8 c.g, .int .u8 c.b]
abbrev attV (a : At) : Value := .agg #[.int .u8 a.fg.k, .int .u8 a.fg.r, .int .u8 a.fg.g, .int .u8 a.fg.b, .int .u8 a.bg.k, .int .u8 a.bg.r, .int .u8 a.bg.g, .int .u8 a.bg.b, .int .u16 (a.fl : Nat)]

/-- A block's head holds an attribute, and can be written. -/
def C9 (w : World) (b : Nat) (a : At) : Prop :=
  w.cell? ⟨b, 0, none⟩ = some (.int .u8 a.fg.k) ∧ w.cell? ⟨b, 1, none⟩ = some (.int .u8 a.fg.r) ∧ w.cell? ⟨b, 2, none⟩ = some (.int .u8 a.fg.g) ∧ w.cell? ⟨b, 3, none⟩ = some (.int .u8 a.fg.b) ∧
  w.cell? ⟨b, 4, none⟩ = some (.int .u8 a.bg.k) ∧ w.cell? ⟨b, 5, none⟩ = some (.int .u8 a.bg.r) ∧ w.cell? ⟨b, 6, none⟩ = some (.int .u8 a.bg.g) ∧ w.cell? ⟨b, 7, none⟩ = some (.int .u8 a.bg.b) ∧ w.cell? ⟨b, 8, none⟩ = some (.int .u16 (a.fl : Nat))
def AtAt (w : World) (b : Nat) (a : At) : Prop := b < w.heap.size ∧ C9 w b a ∧ ∀ i, w.frozen? ⟨b, i, none⟩ = false
theorem C9.same {w w' : World} {b : Nat} {a : At} (h : C9 w b a) (e : w'.heap[b]? = w.heap[b]?) : C9 w' b a := by
  have c : ∀ i, w'.cell? ⟨b, i, none⟩ = w.cell? ⟨b, i, none⟩ := fun i => World.cell?_of_block e
  obtain ⟨h1, h2, h3, h4, h5, h6, h7, h8, h9⟩ := h
  exact ⟨(c 0).trans h1, (c 1).trans h2, (c 2).trans h3, (c 3).trans h4, (c 4).trans h5, (c 5).trans h6, (c 6).trans h7, (c 7).trans h8, (c 8).trans h9⟩
theorem AtAt.same {w w' : World} {b : Nat} {a : At} (h : AtAt w b a) (hs : w.heap.size ≤ w'.heap.size) (e : w'.heap[b]? = w.heap[b]?) : AtAt w' b a :=
  ⟨by have := h.1; omega, h.2.1.same e, fun i => (World.frozen?_of_block (a := ⟨b, i, none⟩) e).trans (h.2.2 i)⟩
theorem AtAt.below {w w' : World} {b : Nat} {a : At} (h : AtAt w b a) (hb : Below w.heap.size w w') : AtAt w' b a := h.same hb.size (hb.block b h.1)
theorem AtAt.past {w : World} {b : Nat} {a : At} (h : AtAt w b a) (o : Obj) : AtAt (w.alloc o) b a := h.below ((Below.refl _ _).alloc (Nat.le_refl _) _)
theorem AtAt.newAt (w : World) (n : Nat) (hn : n = w.heap.size) (a : At) (T : TypeId) : AtAt (w.alloc (.cells #[.int .u8 a.fg.k, .int .u8 a.fg.r, .int .u8 a.fg.g, .int .u8 a.fg.b, .int .u8 a.bg.k, .int .u8 a.bg.r, .int .u8 a.bg.g, .int .u8 a.bg.b, .int .u16 (a.fl : Nat)] T)) n a := by
  subst hn
  refine ⟨by simp, ⟨by simp, by simp, by simp, by simp, by simp, by simp, by simp, by simp, by simp⟩, fun i => by simp⟩
/-- Nine cells written, four, one. -/
def putC (w : World) (b o : Nat) (c : Cl) : World := (((w.setCell ⟨b, o, none⟩ (.int .u8 c.k)).setCell ⟨b, o + 1, none⟩ (.int .u8 c.r)).setCell ⟨b, o + 2, none⟩ (.int .u8 c.g)).setCell ⟨b, o + 3, none⟩ (.int .u8 c.b)
def putA (w : World) (b : Nat) (a : At) : World := (putC (putC w b 0 a.fg) b 4 a.bg).setCell ⟨b, 8, none⟩ (.int .u16 (a.fl : Nat))
theorem putC_size (w : World) (b o : Nat) (c : Cl) : (putC w b o c).heap.size = w.heap.size := by simp [putC]
theorem putA_size (w : World) (b : Nat) (a : At) : (putA w b a).heap.size = w.heap.size := by simp [putA, putC]
theorem putC_heap (w : World) (b o b' : Nat) (c : Cl) (h : b' ≠ b) : (putC w b o c).heap[b']? = w.heap[b']? := by
  unfold putC
  rw [Below.heap_setCell _ _ _ _ h, Below.heap_setCell _ _ _ _ h, Below.heap_setCell _ _ _ _ h, Below.heap_setCell _ _ _ _ h]
theorem putA_heap (w : World) (b b' : Nat) (a : At) (h : b' ≠ b) : (putA w b a).heap[b']? = w.heap[b']? := by
  unfold putA
  rw [Below.heap_setCell _ _ _ _ h, putC_heap _ _ _ _ _ h, putC_heap _ _ _ _ _ h]
theorem putC_but (w : World) (b o : Nat) (c : Cl) : But b w (putC w b o c) := (((But.set w b o _).trans (But.set _ b (o + 1) _)).trans (But.set _ b (o + 2) _)).trans (But.set _ b (o + 3) _)
theorem putA_but (w : World) (b : Nat) (a : At) : But b w (putA w b a) := ((putC_but w b 0 a.fg).trans (putC_but _ b 4 a.bg)).trans (But.set _ b 8 _)
theorem AtAt.putA {w : World} {b : Nat} {a0 : At} (h : AtAt w b a0) (a : At) : AtAt (putA w b a) b a := by
  obtain ⟨h0, ⟨h1, h2, h3, h4, h5, h6, h7, h8, h9⟩, hf⟩ := h
  refine ⟨by rw [putA_size]; exact h0, ?_, fun i => by simp [Lab.putA, putC, hf i]⟩
  unfold Lab.putA putC
  refine ⟨?_, ?_, ?_, ?_, ?_, ?_, ?_, ?_, ?_⟩ <;> simp [World.cell?_setCell_other, World.cell?_setCell_same', h1, h2, h3, h4, h5, h6, h7, h8, h9]
theorem AtAt.putFl {w : World} {b : Nat} {a : At} (h : AtAt w b a) (f : Nat) : AtAt (w.setCell ⟨b, 8, none⟩ (.int .u16 (f : Nat))) b { a with fl := f } := by
  obtain ⟨h0, ⟨h1, h2, h3, h4, h5, h6, h7, h8, h9⟩, hf⟩ := h
  refine ⟨by simpa using h0, ?_, fun i => by simp [hf i]⟩
  refine ⟨?_, ?_, ?_, ?_, ?_, ?_, ?_, ?_, ?_⟩ <;> simp [World.cell?_setCell_other, World.cell?_setCell_same', h1, h2, h3, h4, h5, h6, h7, h8, h9]
theorem AtAt.putFg {w : World} {b : Nat} {a : At} (h : AtAt w b a) (c : Cl) : AtAt (putC w b 0 c) b { a with fg := c } := by
  obtain ⟨h0, ⟨h1, h2, h3, h4, h5, h6, h7, h8, h9⟩, hf⟩ := h
  refine ⟨by rw [putC_size]; exact h0, ?_, fun i => by simp [putC, hf i]⟩
  unfold putC
  refine ⟨?_, ?_, ?_, ?_, ?_, ?_, ?_, ?_, ?_⟩ <;> simp [World.cell?_setCell_other, World.cell?_setCell_same', h1, h2, h3, h4, h5, h6, h7, h8, h9]
theorem AtAt.putBg {w : World} {b : Nat} {a : At} (h : AtAt w b a) (c : Cl) : AtAt (putC w b 4 c) b { a with bg := c } := by
  obtain ⟨h0, ⟨h1, h2, h3, h4, h5, h6, h7, h8, h9⟩, hf⟩ := h
  refine ⟨by rw [putC_size]; exact h0, ?_, fun i => by simp [putC, hf i]⟩
  unfold putC
  refine ⟨?_, ?_, ?_, ?_, ?_, ?_, ?_, ?_, ?_⟩ <;> simp [World.cell?_setCell_other, World.cell?_setCell_same', h1, h2, h3, h4, h5, h6, h7, h8, h9]

/-- A reading: an attribute, and what is left. -/
def RdAt (w : World) (b : Nat) (a : At) (v : Value) : Prop := AtAt w b a ∧ w.cell? ⟨b, 9, none⟩ = some v
theorem RdAt.same {w w' : World} {b : Nat} {a : At} {v : Value} (h : RdAt w b a v) (hs : w.heap.size ≤ w'.heap.size) (e : w'.heap[b]? = w.heap[b]?) : RdAt w' b a v :=
  ⟨h.1.same hs e, (World.cell?_of_block (a := ⟨b, 9, none⟩) e).trans h.2⟩
theorem RdAt.below {w w' : World} {b : Nat} {a : At} {v : Value} (h : RdAt w b a v) (hb : Below w.heap.size w w') : RdAt w' b a v := h.same hb.size (hb.block b h.1.1)
theorem RdAt.past {w : World} {b : Nat} {a : At} {v : Value} (h : RdAt w b a v) (o : Obj) : RdAt (w.alloc o) b a v := h.below ((Below.refl _ _).alloc (Nat.le_refl _) _)
theorem RdAt.newAt (w : World) (n : Nat) (hn : n = w.heap.size) (a : At) (v : Value) (T : TypeId) : RdAt (w.alloc (.cells #[.int .u8 a.fg.k, .int .u8 a.fg.r, .int .u8 a.fg.g, .int .u8 a.fg.b, .int .u8 a.bg.k, .int .u8 a.bg.r, .int .u8 a.bg.g, .int .u8 a.bg.b, .int .u16 (a.fl : Nat), v] T)) n a v := by
  subst hn
  refine ⟨⟨by simp, ⟨by simp, by simp, by simp, by simp, by simp, by simp, by simp, by simp, by simp⟩, fun i => by simp⟩, by simp⟩
theorem RdAt.putA {w : World} {b : Nat} {a0 : At} {v : Value} (h : RdAt w b a0 v) (a : At) : RdAt (putA w b a) b a v :=
  ⟨h.1.putA a, by simp [Lab.putA, putC, World.cell?_setCell_other, h.2]⟩
theorem RdAt.putFg {w : World} {b : Nat} {a : At} {v : Value} (h : RdAt w b a v) (c : Cl) : RdAt (putC w b 0 c) b { a with fg := c } v :=
  ⟨h.1.putFg c, by simp [putC, World.cell?_setCell_other, h.2]⟩
theorem RdAt.putBg {w : World} {b : Nat} {a : At} {v : Value} (h : RdAt w b a v) (c : Cl) : RdAt (putC w b 4 c) b { a with bg := c } v :=
  ⟨h.1.putBg c, by simp [putC, World.cell?_setCell_other, h.2]⟩
theorem RdAt.putL {w : World} {b : Nat} {a : At} {v : Value} (h : RdAt w b a v) (u : Value) : RdAt (w.setCell ⟨b, 9, none⟩ u) b a u := by
  obtain ⟨⟨h0, ⟨h1, h2, h3, h4, h5, h6, h7, h8, h9⟩, hf⟩, h10⟩ := h
  refine ⟨⟨by simpa using h0, ?_, fun i => by simp [hf i]⟩, World.cell?_setCell_same _ _ _ h10⟩
  refine ⟨?_, ?_, ?_, ?_, ?_, ?_, ?_, ?_, ?_⟩ <;> simp [World.cell?_setCell_other, h1, h2, h3, h4, h5, h6, h7, h8, h9]

/-- A box: a block of one cell. -/
def Box (w : World) (b : Nat) (v : Value) : Prop := ∃ T, w.heap[b]? = some (.cells #[v] T (0, 0))
theorem Box.lt {w : World} {b : Nat} {v : Value} (h : Box w b v) : b < w.heap.size := by obtain ⟨_, h⟩ := h; exact (Array.getElem?_eq_some_iff.1 h).1
theorem Box.cell {w : World} {b : Nat} {v : Value} (h : Box w b v) : w.cell? ⟨b, 0, none⟩ = some v := by
  obtain ⟨T, h⟩ := h
  unfold World.cell?
  rw [h]
  rfl
theorem Box.ne_rd {w : World} {b B : Nat} {v u : Value} {a : At} (h : Box w b v) (k : RdAt w B a u) : b ≠ B := by
  rintro rfl
  obtain ⟨T, h⟩ := h
  have := k.2
  unfold World.cell? at this
  rw [h] at this
  simp at this
theorem Box.same {w w' : World} {b : Nat} {v : Value} (h : Box w b v) (e : w'.heap[b]? = w.heap[b]?) : Box w' b v := by
  obtain ⟨T, h⟩ := h
  exact ⟨T, e.trans h⟩
theorem Box.below {w w' : World} {b : Nat} {v : Value} (h : Box w b v) (hb : Below w.heap.size w w') : Box w' b v := h.same (hb.block b h.lt)
theorem Box.but {w w' : World} {b B : Nat} {v u : Value} {a : At} (h : Box w b v) (k : RdAt w B a u) (hb : But B w w') : Box w' b v := h.same (hb.block b h.lt (by have := h.ne_rd k; simp; omega))
theorem Box.newAt (w : World) (n : Nat) (hn : n = w.heap.size) (v : Value) (T : TypeId) : Box (w.alloc (.cells #[v] T)) n v := by
  subst hn
  exact ⟨T, heap_alloc_new w _⟩
theorem MatAt.but {w w' : World} {X : Nat → Prop} {v : Value} {R : Rws} {B : Nat} (h : MatAt w X v R) (hX : ¬ X B) (hb : But B w w') : MatAt w' X v R := h.keep hb.size fun g hg hl => hb.block g hl (fun e => hX (by simp at e; rw [← e]; exact hg))
theorem NumsAt.but {w w' : World} {X : Nat → Prop} {v : Value} {r : List Int} {B : Nat} (h : NumsAt w X v r) (hX : ¬ X B) (hb : But B w w') : NumsAt w' X v r := h.keep hb.size fun g hg hl => hb.block g hl (fun e => hX (by simp at e; rw [← e]; exact hg))
end Go.Proofs.Ytnefamgjlhdffaa.Lab
