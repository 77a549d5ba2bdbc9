/- What package color's basic answers to each of the first sixteen numbers. -/
import Derived.Test.YthcncghhjlaicaaBytes
import Derived.Maps.Own
import Derived.Maps.OwnSet
import Derived.DeepKeys5
import Derived.Deep.DeepCutAuto
import Derived.Deep.CutBlock
import Derived.Deep.RegionHeld3
namespace Go.Proofs.Ythcncghhjlaicaa.Lab
open Go.RowKit Go.Maps

theorem laidOut0 : laidOutB Try.prog = true := by kernel_rfl
theorem keyed4 : Keyed Try.prog 65 := Keyed.of_law (deep_law_gate laidOut0 (by decide) (by decide) (by kernel_rfl) (by kernel_rfl))

abbrev key4 (a b c d : Int) : Value := .agg #[.int .u8 a, .int .u8 b, .int .u8 c, .int .u8 d]
def klOf (P : Program) (T : TypeId) (a b c d : Int) : Lit := (keyOf P T (key4 a b c d)).getD (.bool false)


theorem step_insert {H : Type} {P : Program} {ops : Array Oper} {o : Oper} {a : Act} {w : World} {K : Act → World → Prop} {Q : Exit → Act → World → Prop} {E : Prop}
    (hg : o.guard = none) (m x v : Operand) (t : TypeId) (hop : o.op = Op.insert t m x v)
    (k e : TypeId) (K' : Keyed P k) (ht : P.underlying t = some (.map k e)) (R : Value → Option (DataW H × List MemPlace)) (b n : Nat) (D : DataW H)
    (hm : a.eval m = .map (some b)) (hown : w.ownsMap P k R b n D) (hn : n < maxLen) (key val : Value) (kl : Lit) (hx : a.eval x = key) (hv : a.eval v = val) (hkey : keyOf P k key = some kl)
    (d : DataW H) (ps : List MemPlace) (hval : R val = some (d, ps))
    (hK : ∀ w', w'.ownsMap P k R b (n + 1) (D.put kl d) → w.grownBy w' (some b) → K (a.put o.dst undef) w') :
    if Region.wanted o (yielded ops a.tmps) = true then Oper.wp P o a w K Q else E := by
  have hw : Region.wanted o (yielded ops a.tmps) = true := by simp [Region.wanted, hg]
  rw [if_pos hw]
  obtain ⟨w', hrun, r1, r2⟩ := hown.update K' ht hn hkey hval
  unfold Oper.wp
  simp [execOp, hop, hm, hx, hv, hrun, Result.andThen]
  exact hK w' r1 r2

abbrev lit32 (n : Int) : DataW Unit := .lit (.int .u32 n)

/-- What the table of colours that are made otherwise tells of a key, and whether it is there. -/
def otherV (n : Nat) : Int := if n = 4 then 238 else if n = 7 then 15066597 else if n = 8 then 8355711 else if n = 12 then 6053119 else 0
def otherB (n : Nat) : Bool := n == 4 || n == 7 || n == 8 || n == 12
def tellsAt (D : DataW Unit) (n : Nat) : Prop := D.atKey (klOf Try.prog 65 ((n : Int) % 2) ((n : Int) / 2 % 2) ((n : Int) / 4 % 2) ((n : Int) / 8 % 2)) (lit32 0) = lit32 (otherV n) ∧ Maps.has D (klOf Try.prog 65 ((n : Int) % 2) ((n : Int) / 2 % 2) ((n : Int) / 4 % 2) ((n : Int) / 8 % 2)) = otherB n
def Tells (D : DataW Unit) : Prop := ∀ n, n < 16 → tellsAt D n

theorem all16 {p : Nat → Prop} (h0 : p 0) (h1 : p 1) (h2 : p 2) (h3 : p 3) (h4 : p 4) (h5 : p 5) (h6 : p 6) (h7 : p 7) (h8 : p 8) (h9 : p 9) (h10 : p 10) (h11 : p 11) (h12 : p 12) (h13 : p 13) (h14 : p 14) (h15 : p 15) : ∀ n, n < 16 → p n := by
  intro n hn
  obtain rfl | rfl | rfl | rfl | rfl | rfl | rfl | rfl | rfl | rfl | rfl | rfl | rfl | rfl | rfl | rfl : n = 0 ∨ n = 1 ∨ n = 2 ∨ n = 3 ∨ n = 4 ∨ n = 5 ∨ n = 6 ∨ n = 7 ∨ n = 8 ∨ n = 9 ∨ n = 10 ∨ n = 11 ∨ n = 12 ∨ n = 13 ∨ n = 14 ∨ n = 15 := by omega
  all_goals assumption

theorem keyAt (n : Nat) (hn : n < 16) : keyOf Try.prog 65 (key4 ((n : Int) % 2) ((n : Int) / 2 % 2) ((n : Int) / 4 % 2) ((n : Int) / 8 % 2)) = some (klOf Try.prog 65 ((n : Int) % 2) ((n : Int) / 2 % 2) ((n : Int) / 4 % 2) ((n : Int) / 8 % 2)) := by
  revert n
  exact all16 (by kernel_rfl) (by kernel_rfl) (by kernel_rfl) (by kernel_rfl) (by kernel_rfl) (by kernel_rfl) (by kernel_rfl) (by kernel_rfl) (by kernel_rfl) (by kernel_rfl) (by kernel_rfl) (by kernel_rfl) (by kernel_rfl) (by kernel_rfl) (by kernel_rfl) (by kernel_rfl)

theorem and1 (x : Int) (h0 : 0 ≤ x) (h1 : x < 16) : bits BinOp.and IntKind.i64 x 1 = x % 2 := by
  obtain rfl | rfl | rfl | rfl | rfl | rfl | rfl | rfl | rfl | rfl | rfl | rfl | rfl | rfl | rfl | rfl : x = 0 ∨ x = 1 ∨ x = 2 ∨ x = 3 ∨ x = 4 ∨ x = 5 ∨ x = 6 ∨ x = 7 ∨ x = 8 ∨ x = 9 ∨ x = 10 ∨ x = 11 ∨ x = 12 ∨ x = 13 ∨ x = 14 ∨ x = 15 := by omega
  all_goals decide

theorem other_lt (n : Nat) (hn : n < 16) : 0 ≤ otherV n ∧ otherV n < 16777216 := by
  revert n
  exact all16 (by decide) (by decide) (by decide) (by decide) (by decide) (by decide) (by decide) (by decide) (by decide) (by decide) (by decide) (by decide) (by decide) (by decide) (by decide) (by decide)

theorem packed_of {i : Int} (m : Nat) (hm : m < 16777216) (e : i = m) (w : World) : Calls Try.prog 28 #[.int .u32 i] w (ValPost (257 * (m / 65536), 257 * (m / 256 % 256), 257 * (m % 256)) w) := by
  subst e
  exact packed_any m hm w

theorem lit32_inj {c d : Int} (h : lit32 c = lit32 d) : c = d := by
  injection h with h
  injection h

/-- The table, as it lies in a world, and what lies beside it. -/
def Tab (w0 w : World) (B n : Nat) (D : DataW Unit) : Prop := w.ownsMap Try.prog 65 (plainElem (H := Unit) Try.prog 66) B n D ∧ w0.heap.size < B ∧ Below w0.heap.size w0 w ∧ V3 w w0.heap.size 0 0 0

theorem V3.block {w w' : World} {b : Nat} {x y z : Int} (h : V3 w b x y z) (hs : w.heap.size ≤ w'.heap.size) (hb : w'.heap[b]? = w.heap[b]?) : V3 w' b x y z := by
  obtain ⟨h0, ⟨h1, h2, h3⟩, h4⟩ := h
  exact ⟨Nat.lt_of_lt_of_le h0 hs, ⟨(World.cell?_of_block (a := ⟨b, 0, none⟩) hb).trans h1, (World.cell?_of_block (a := ⟨b, 1, none⟩) hb).trans h2, (World.cell?_of_block (a := ⟨b, 2, none⟩) hb).trans h3⟩, fun i => (World.frozen?_of_block (a := ⟨b, i, none⟩) hb).trans (h4 i)⟩

theorem Tab.step {w0 w w' : World} {B n : Nat} {D D' : DataW Unit} (h : Tab w0 w B n D) (o : w'.ownsMap Try.prog 65 (plainElem (H := Unit) Try.prog 66) B (n + 1) D') (g : w.grownBy w' (some B)) : Tab w0 w' B (n + 1) D' := by
  obtain ⟨h1, h2, h3, h4⟩ := h
  refine ⟨o, h2, Below.grown h3 g h3.size (by intro k hk; cases hk; omega), h4.block g.size ?_⟩
  exact g.block _ h4.1 (by intro e; cases e; omega)

theorem Tab.start (w : World) (T : TypeId) : Tab w ((w.alloc (.cells #[.int .u16 0, .int .u16 0, .int .u16 0] T)).alloc (.map #[] 0)).drew (w.heap.size + 1) 0 (.map []) := by
  have e : (w.alloc (.cells #[.int .u16 0, .int .u16 0, .int .u16 0] T)).heap.size = w.heap.size + 1 := by simp
  refine ⟨?_, by omega, (((Below.refl _ _).alloc (Nat.le_refl _) _).alloc (by simp) _).drew, ((V3.newAt w w.heap.size rfl 0 0 0 T).past _).drew⟩
  have := World.ownsMap_made (w.alloc (.cells #[.int .u16 0, .int .u16 0, .int .u16 0] T)) Try.prog 65 (plainElem (H := Unit) Try.prog 66)
  rw [e] at this
  exact this
theorem tells2468 : Tells (((((DataW.map [] : DataW Unit).put (klOf Try.prog 65 0 0 1 0) (lit32 238)).put (klOf Try.prog 65 1 1 1 0) (lit32 15066597)).put (klOf Try.prog 65 0 0 0 1) (lit32 8355711)).put (klOf Try.prog 65 0 0 1 1) (lit32 6053119)) := all16 ⟨by kernel_rfl, by kernel_rfl⟩ ⟨by kernel_rfl, by kernel_rfl⟩ ⟨by kernel_rfl, by kernel_rfl⟩ ⟨by kernel_rfl, by kernel_rfl⟩ ⟨by kernel_rfl, by kernel_rfl⟩ ⟨by kernel_rfl, by kernel_rfl⟩ ⟨by kernel_rfl, by kernel_rfl⟩ ⟨by kernel_rfl, by kernel_rfl⟩ ⟨by kernel_rfl, by kernel_rfl⟩ ⟨by kernel_rfl, by kernel_rfl⟩ ⟨by kernel_rfl, by kernel_rfl⟩ ⟨by kernel_rfl, by kernel_rfl⟩ ⟨by kernel_rfl, by kernel_rfl⟩ ⟨by kernel_rfl, by kernel_rfl⟩ ⟨by kernel_rfl, by kernel_rfl⟩ ⟨by kernel_rfl, by kernel_rfl⟩
theorem tells2486 : Tells (((((DataW.map [] : DataW Unit).put (klOf Try.prog 65 0 0 1 0) (lit32 238)).put (klOf Try.prog 65 1 1 1 0) (lit32 15066597)).put (klOf Try.prog 65 0 0 1 1) (lit32 6053119)).put (klOf Try.prog 65 0 0 0 1) (lit32 8355711)) := all16 ⟨by kernel_rfl, by kernel_rfl⟩ ⟨by kernel_rfl, by kernel_rfl⟩ ⟨by kernel_rfl, by kernel_rfl⟩ ⟨by kernel_rfl, by kernel_rfl⟩ ⟨by kernel_rfl, by kernel_rfl⟩ ⟨by kernel_rfl, by kernel_rfl⟩ ⟨by kernel_rfl, by kernel_rfl⟩ ⟨by kernel_rfl, by kernel_rfl⟩ ⟨by kernel_rfl, by kernel_rfl⟩ ⟨by kernel_rfl, by kernel_rfl⟩ ⟨by kernel_rfl, by kernel_rfl⟩ ⟨by kernel_rfl, by kernel_rfl⟩ ⟨by kernel_rfl, by kernel_rfl⟩ ⟨by kernel_rfl, by kernel_rfl⟩ ⟨by kernel_rfl, by kernel_rfl⟩ ⟨by kernel_rfl, by kernel_rfl⟩
theorem tells2648 : Tells (((((DataW.map [] : DataW Unit).put (klOf Try.prog 65 0 0 1 0) (lit32 238)).put (klOf Try.prog 65 0 0 0 1) (lit32 8355711)).put (klOf Try.prog 65 1 1 1 0) (lit32 15066597)).put (klOf Try.prog 65 0 0 1 1) (lit32 6053119)) := all16 ⟨by kernel_rfl, by kernel_rfl⟩ ⟨by kernel_rfl, by kernel_rfl⟩ ⟨by kernel_rfl, by kernel_rfl⟩ ⟨by kernel_rfl, by kernel_rfl⟩ ⟨by kernel_rfl, by kernel_rfl⟩ ⟨by kernel_rfl, by kernel_rfl⟩ ⟨by kernel_rfl, by kernel_rfl⟩ ⟨by kernel_rfl, by kernel_rfl⟩ ⟨by kernel_rfl, by kernel_rfl⟩ ⟨by kernel_rfl, by kernel_rfl⟩ ⟨by kernel_rfl, by kernel_rfl⟩ ⟨by kernel_rfl, by kernel_rfl⟩ ⟨by kernel_rfl, by kernel_rfl⟩ ⟨by kernel_rfl, by kernel_rfl⟩ ⟨by kernel_rfl, by kernel_rfl⟩ ⟨by kernel_rfl, by kernel_rfl⟩
theorem tells2684 : Tells (((((DataW.map [] : DataW Unit).put (klOf Try.prog 65 0 0 1 0) (lit32 238)).put (klOf Try.prog 65 0 0 0 1) (lit32 8355711)).put (klOf Try.prog 65 0 0 1 1) (lit32 6053119)).put (klOf Try.prog 65 1 1 1 0) (lit32 15066597)) := all16 ⟨by kernel_rfl, by kernel_rfl⟩ ⟨by kernel_rfl, by kernel_rfl⟩ ⟨by kernel_rfl, by kernel_rfl⟩ ⟨by kernel_rfl, by kernel_rfl⟩ ⟨by kernel_rfl, by kernel_rfl⟩ ⟨by kernel_rfl, by kernel_rfl⟩ ⟨by kernel_rfl, by kernel_rfl⟩ ⟨by kernel_rfl, by kernel_rfl⟩ ⟨by kernel_rfl, by kernel_rfl⟩ ⟨by kernel_rfl, by kernel_rfl⟩ ⟨by kernel_rfl, by kernel_rfl⟩ ⟨by kernel_rfl, by kernel_rfl⟩ ⟨by kernel_rfl, by kernel_rfl⟩ ⟨by kernel_rfl, by kernel_rfl⟩ ⟨by kernel_rfl, by kernel_rfl⟩ ⟨by kernel_rfl, by kernel_rfl⟩
theorem tells2846 : Tells (((((DataW.map [] : DataW Unit).put (klOf Try.prog 65 0 0 1 0) (lit32 238)).put (klOf Try.prog 65 0 0 1 1) (lit32 6053119)).put (klOf Try.prog 65 1 1 1 0) (lit32 15066597)).put (klOf Try.prog 65 0 0 0 1) (lit32 8355711)) := all16 ⟨by kernel_rfl, by kernel_rfl⟩ ⟨by kernel_rfl, by kernel_rfl⟩ ⟨by kernel_rfl, by kernel_rfl⟩ ⟨by kernel_rfl, by kernel_rfl⟩ ⟨by kernel_rfl, by kernel_rfl⟩ ⟨by kernel_rfl, by kernel_rfl⟩ ⟨by kernel_rfl, by kernel_rfl⟩ ⟨by kernel_rfl, by kernel_rfl⟩ ⟨by kernel_rfl, by kernel_rfl⟩ ⟨by kernel_rfl, by kernel_rfl⟩ ⟨by kernel_rfl, by kernel_rfl⟩ ⟨by kernel_rfl, by kernel_rfl⟩ ⟨by kernel_rfl, by kernel_rfl⟩ ⟨by kernel_rfl, by kernel_rfl⟩ ⟨by kernel_rfl, by kernel_rfl⟩ ⟨by kernel_rfl, by kernel_rfl⟩
theorem tells2864 : Tells (((((DataW.map [] : DataW Unit).put (klOf Try.prog 65 0 0 1 0) (lit32 238)).put (klOf Try.prog 65 0 0 1 1) (lit32 6053119)).put (klOf Try.prog 65 0 0 0 1) (lit32 8355711)).put (klOf Try.prog 65 1 1 1 0) (lit32 15066597)) := all16 ⟨by kernel_rfl, by kernel_rfl⟩ ⟨by kernel_rfl, by kernel_rfl⟩ ⟨by kernel_rfl, by kernel_rfl⟩ ⟨by kernel_rfl, by kernel_rfl⟩ ⟨by kernel_rfl, by kernel_rfl⟩ ⟨by kernel_rfl, by kernel_rfl⟩ ⟨by kernel_rfl, by kernel_rfl⟩ ⟨by kernel_rfl, by kernel_rfl⟩ ⟨by kernel_rfl, by kernel_rfl⟩ ⟨by kernel_rfl, by kernel_rfl⟩ ⟨by kernel_rfl, by kernel_rfl⟩ ⟨by kernel_rfl, by kernel_rfl⟩ ⟨by kernel_rfl, by kernel_rfl⟩ ⟨by kernel_rfl, by kernel_rfl⟩ ⟨by kernel_rfl, by kernel_rfl⟩ ⟨by kernel_rfl, by kernel_rfl⟩
theorem tells4268 : Tells (((((DataW.map [] : DataW Unit).put (klOf Try.prog 65 1 1 1 0) (lit32 15066597)).put (klOf Try.prog 65 0 0 1 0) (lit32 238)).put (klOf Try.prog 65 0 0 0 1) (lit32 8355711)).put (klOf Try.prog 65 0 0 1 1) (lit32 6053119)) := all16 ⟨by kernel_rfl, by kernel_rfl⟩ ⟨by kernel_rfl, by kernel_rfl⟩ ⟨by kernel_rfl, by kernel_rfl⟩ ⟨by kernel_rfl, by kernel_rfl⟩ ⟨by kernel_rfl, by kernel_rfl⟩ ⟨by kernel_rfl, by kernel_rfl⟩ ⟨by kernel_rfl, by kernel_rfl⟩ ⟨by kernel_rfl, by kernel_rfl⟩ ⟨by kernel_rfl, by kernel_rfl⟩ ⟨by kernel_rfl, by kernel_rfl⟩ ⟨by kernel_rfl, by kernel_rfl⟩ ⟨by kernel_rfl, by kernel_rfl⟩ ⟨by kernel_rfl, by kernel_rfl⟩ ⟨by kernel_rfl, by kernel_rfl⟩ ⟨by kernel_rfl, by kernel_rfl⟩ ⟨by kernel_rfl, by kernel_rfl⟩
theorem tells4286 : Tells (((((DataW.map [] : DataW Unit).put (klOf Try.prog 65 1 1 1 0) (lit32 15066597)).put (klOf Try.prog 65 0 0 1 0) (lit32 238)).put (klOf Try.prog 65 0 0 1 1) (lit32 6053119)).put (klOf Try.prog 65 0 0 0 1) (lit32 8355711)) := all16 ⟨by kernel_rfl, by kernel_rfl⟩ ⟨by kernel_rfl, by kernel_rfl⟩ ⟨by kernel_rfl, by kernel_rfl⟩ ⟨by kernel_rfl, by kernel_rfl⟩ ⟨by kernel_rfl, by kernel_rfl⟩ ⟨by kernel_rfl, by kernel_rfl⟩ ⟨by kernel_rfl, by kernel_rfl⟩ ⟨by kernel_rfl, by kernel_rfl⟩ ⟨by kernel_rfl, by kernel_rfl⟩ ⟨by kernel_rfl, by kernel_rfl⟩ ⟨by kernel_rfl, by kernel_rfl⟩ ⟨by kernel_rfl, by kernel_rfl⟩ ⟨by kernel_rfl, by kernel_rfl⟩ ⟨by kernel_rfl, by kernel_rfl⟩ ⟨by kernel_rfl, by kernel_rfl⟩ ⟨by kernel_rfl, by kernel_rfl⟩
theorem tells4628 : Tells (((((DataW.map [] : DataW Unit).put (klOf Try.prog 65 1 1 1 0) (lit32 15066597)).put (klOf Try.prog 65 0 0 0 1) (lit32 8355711)).put (klOf Try.prog 65 0 0 1 0) (lit32 238)).put (klOf Try.prog 65 0 0 1 1) (lit32 6053119)) := all16 ⟨by kernel_rfl, by kernel_rfl⟩ ⟨by kernel_rfl, by kernel_rfl⟩ ⟨by kernel_rfl, by kernel_rfl⟩ ⟨by kernel_rfl, by kernel_rfl⟩ ⟨by kernel_rfl, by kernel_rfl⟩ ⟨by kernel_rfl, by kernel_rfl⟩ ⟨by kernel_rfl, by kernel_rfl⟩ ⟨by kernel_rfl, by kernel_rfl⟩ ⟨by kernel_rfl, by kernel_rfl⟩ ⟨by kernel_rfl, by kernel_rfl⟩ ⟨by kernel_rfl, by kernel_rfl⟩ ⟨by kernel_rfl, by kernel_rfl⟩ ⟨by kernel_rfl, by kernel_rfl⟩ ⟨by kernel_rfl, by kernel_rfl⟩ ⟨by kernel_rfl, by kernel_rfl⟩ ⟨by kernel_rfl, by kernel_rfl⟩
theorem tells4682 : Tells (((((DataW.map [] : DataW Unit).put (klOf Try.prog 65 1 1 1 0) (lit32 15066597)).put (klOf Try.prog 65 0 0 0 1) (lit32 8355711)).put (klOf Try.prog 65 0 0 1 1) (lit32 6053119)).put (klOf Try.prog 65 0 0 1 0) (lit32 238)) := all16 ⟨by kernel_rfl, by kernel_rfl⟩ ⟨by kernel_rfl, by kernel_rfl⟩ ⟨by kernel_rfl, by kernel_rfl⟩ ⟨by kernel_rfl, by kernel_rfl⟩ ⟨by kernel_rfl, by kernel_rfl⟩ ⟨by kernel_rfl, by kernel_rfl⟩ ⟨by kernel_rfl, by kernel_rfl⟩ ⟨by kernel_rfl, by kernel_rfl⟩ ⟨by kernel_rfl, by kernel_rfl⟩ ⟨by kernel_rfl, by kernel_rfl⟩ ⟨by kernel_rfl, by kernel_rfl⟩ ⟨by kernel_rfl, by kernel_rfl⟩ ⟨by kernel_rfl, by kernel_rfl⟩ ⟨by kernel_rfl, by kernel_rfl⟩ ⟨by kernel_rfl, by kernel_rfl⟩ ⟨by kernel_rfl, by kernel_rfl⟩
theorem tells4826 : Tells (((((DataW.map [] : DataW Unit).put (klOf Try.prog 65 1 1 1 0) (lit32 15066597)).put (klOf Try.prog 65 0 0 1 1) (lit32 6053119)).put (klOf Try.prog 65 0 0 1 0) (lit32 238)).put (klOf Try.prog 65 0 0 0 1) (lit32 8355711)) := all16 ⟨by kernel_rfl, by kernel_rfl⟩ ⟨by kernel_rfl, by kernel_rfl⟩ ⟨by kernel_rfl, by kernel_rfl⟩ ⟨by kernel_rfl, by kernel_rfl⟩ ⟨by kernel_rfl, by kernel_rfl⟩ ⟨by kernel_rfl, by kernel_rfl⟩ ⟨by kernel_rfl, by kernel_rfl⟩ ⟨by kernel_rfl, by kernel_rfl⟩ ⟨by kernel_rfl, by kernel_rfl⟩ ⟨by kernel_rfl, by kernel_rfl⟩ ⟨by kernel_rfl, by kernel_rfl⟩ ⟨by kernel_rfl, by kernel_rfl⟩ ⟨by kernel_rfl, by kernel_rfl⟩ ⟨by kernel_rfl, by kernel_rfl⟩ ⟨by kernel_rfl, by kernel_rfl⟩ ⟨by kernel_rfl, by kernel_rfl⟩
theorem tells4862 : Tells (((((DataW.map [] : DataW Unit).put (klOf Try.prog 65 1 1 1 0) (lit32 15066597)).put (klOf Try.prog 65 0 0 1 1) (lit32 6053119)).put (klOf Try.prog 65 0 0 0 1) (lit32 8355711)).put (klOf Try.prog 65 0 0 1 0) (lit32 238)) := all16 ⟨by kernel_rfl, by kernel_rfl⟩ ⟨by kernel_rfl, by kernel_rfl⟩ ⟨by kernel_rfl, by kernel_rfl⟩ ⟨by kernel_rfl, by kernel_rfl⟩ ⟨by kernel_rfl, by kernel_rfl⟩ ⟨by kernel_rfl, by kernel_rfl⟩ ⟨by kernel_rfl, by kernel_rfl⟩ ⟨by kernel_rfl, by kernel_rfl⟩ ⟨by kernel_rfl, by kernel_rfl⟩ ⟨by kernel_rfl, by kernel_rfl⟩ ⟨by kernel_rfl, by kernel_rfl⟩ ⟨by kernel_rfl, by kernel_rfl⟩ ⟨by kernel_rfl, by kernel_rfl⟩ ⟨by kernel_rfl, by kernel_rfl⟩ ⟨by kernel_rfl, by kernel_rfl⟩ ⟨by kernel_rfl, by kernel_rfl⟩
theorem tells6248 : Tells (((((DataW.map [] : DataW Unit).put (klOf Try.prog 65 0 0 0 1) (lit32 8355711)).put (klOf Try.prog 65 0 0 1 0) (lit32 238)).put (klOf Try.prog 65 1 1 1 0) (lit32 15066597)).put (klOf Try.prog 65 0 0 1 1) (lit32 6053119)) := all16 ⟨by kernel_rfl, by kernel_rfl⟩ ⟨by kernel_rfl, by kernel_rfl⟩ ⟨by kernel_rfl, by kernel_rfl⟩ ⟨by kernel_rfl, by kernel_rfl⟩ ⟨by kernel_rfl, by kernel_rfl⟩ ⟨by kernel_rfl, by kernel_rfl⟩ ⟨by kernel_rfl, by kernel_rfl⟩ ⟨by kernel_rfl, by kernel_rfl⟩ ⟨by kernel_rfl, by kernel_rfl⟩ ⟨by kernel_rfl, by kernel_rfl⟩ ⟨by kernel_rfl, by kernel_rfl⟩ ⟨by kernel_rfl, by kernel_rfl⟩ ⟨by kernel_rfl, by kernel_rfl⟩ ⟨by kernel_rfl, by kernel_rfl⟩ ⟨by kernel_rfl, by kernel_rfl⟩ ⟨by kernel_rfl, by kernel_rfl⟩
theorem tells6284 : Tells (((((DataW.map [] : DataW Unit).put (klOf Try.prog 65 0 0 0 1) (lit32 8355711)).put (klOf Try.prog 65 0 0 1 0) (lit32 238)).put (klOf Try.prog 65 0 0 1 1) (lit32 6053119)).put (klOf Try.prog 65 1 1 1 0) (lit32 15066597)) := all16 ⟨by kernel_rfl, by kernel_rfl⟩ ⟨by kernel_rfl, by kernel_rfl⟩ ⟨by kernel_rfl, by kernel_rfl⟩ ⟨by kernel_rfl, by kernel_rfl⟩ ⟨by kernel_rfl, by kernel_rfl⟩ ⟨by kernel_rfl, by kernel_rfl⟩ ⟨by kernel_rfl, by kernel_rfl⟩ ⟨by kernel_rfl, by kernel_rfl⟩ ⟨by kernel_rfl, by kernel_rfl⟩ ⟨by kernel_rfl, by kernel_rfl⟩ ⟨by kernel_rfl, by kernel_rfl⟩ ⟨by kernel_rfl, by kernel_rfl⟩ ⟨by kernel_rfl, by kernel_rfl⟩ ⟨by kernel_rfl, by kernel_rfl⟩ ⟨by kernel_rfl, by kernel_rfl⟩ ⟨by kernel_rfl, by kernel_rfl⟩
theorem tells6428 : Tells (((((DataW.map [] : DataW Unit).put (klOf Try.prog 65 0 0 0 1) (lit32 8355711)).put (klOf Try.prog 65 1 1 1 0) (lit32 15066597)).put (klOf Try.prog 65 0 0 1 0) (lit32 238)).put (klOf Try.prog 65 0 0 1 1) (lit32 6053119)) := all16 ⟨by kernel_rfl, by kernel_rfl⟩ ⟨by kernel_rfl, by kernel_rfl⟩ ⟨by kernel_rfl, by kernel_rfl⟩ ⟨by kernel_rfl, by kernel_rfl⟩ ⟨by kernel_rfl, by kernel_rfl⟩ ⟨by kernel_rfl, by kernel_rfl⟩ ⟨by kernel_rfl, by kernel_rfl⟩ ⟨by kernel_rfl, by kernel_rfl⟩ ⟨by kernel_rfl, by kernel_rfl⟩ ⟨by kernel_rfl, by kernel_rfl⟩ ⟨by kernel_rfl, by kernel_rfl⟩ ⟨by kernel_rfl, by kernel_rfl⟩ ⟨by kernel_rfl, by kernel_rfl⟩ ⟨by kernel_rfl, by kernel_rfl⟩ ⟨by kernel_rfl, by kernel_rfl⟩ ⟨by kernel_rfl, by kernel_rfl⟩
theorem tells6482 : Tells (((((DataW.map [] : DataW Unit).put (klOf Try.prog 65 0 0 0 1) (lit32 8355711)).put (klOf Try.prog 65 1 1 1 0) (lit32 15066597)).put (klOf Try.prog 65 0 0 1 1) (lit32 6053119)).put (klOf Try.prog 65 0 0 1 0) (lit32 238)) := all16 ⟨by kernel_rfl, by kernel_rfl⟩ ⟨by kernel_rfl, by kernel_rfl⟩ ⟨by kernel_rfl, by kernel_rfl⟩ ⟨by kernel_rfl, by kernel_rfl⟩ ⟨by kernel_rfl, by kernel_rfl⟩ ⟨by kernel_rfl, by kernel_rfl⟩ ⟨by kernel_rfl, by kernel_rfl⟩ ⟨by kernel_rfl, by kernel_rfl⟩ ⟨by kernel_rfl, by kernel_rfl⟩ ⟨by kernel_rfl, by kernel_rfl⟩ ⟨by kernel_rfl, by kernel_rfl⟩ ⟨by kernel_rfl, by kernel_rfl⟩ ⟨by kernel_rfl, by kernel_rfl⟩ ⟨by kernel_rfl, by kernel_rfl⟩ ⟨by kernel_rfl, by kernel_rfl⟩ ⟨by kernel_rfl, by kernel_rfl⟩
theorem tells6824 : Tells (((((DataW.map [] : DataW Unit).put (klOf Try.prog 65 0 0 0 1) (lit32 8355711)).put (klOf Try.prog 65 0 0 1 1) (lit32 6053119)).put (klOf Try.prog 65 0 0 1 0) (lit32 238)).put (klOf Try.prog 65 1 1 1 0) (lit32 15066597)) := all16 ⟨by kernel_rfl, by kernel_rfl⟩ ⟨by kernel_rfl, by kernel_rfl⟩ ⟨by kernel_rfl, by kernel_rfl⟩ ⟨by kernel_rfl, by kernel_rfl⟩ ⟨by kernel_rfl, by kernel_rfl⟩ ⟨by kernel_rfl, by kernel_rfl⟩ ⟨by kernel_rfl, by kernel_rfl⟩ ⟨by kernel_rfl, by kernel_rfl⟩ ⟨by kernel_rfl, by kernel_rfl⟩ ⟨by kernel_rfl, by kernel_rfl⟩ ⟨by kernel_rfl, by kernel_rfl⟩ ⟨by kernel_rfl, by kernel_rfl⟩ ⟨by kernel_rfl, by kernel_rfl⟩ ⟨by kernel_rfl, by kernel_rfl⟩ ⟨by kernel_rfl, by kernel_rfl⟩ ⟨by kernel_rfl, by kernel_rfl⟩
theorem tells6842 : Tells (((((DataW.map [] : DataW Unit).put (klOf Try.prog 65 0 0 0 1) (lit32 8355711)).put (klOf Try.prog 65 0 0 1 1) (lit32 6053119)).put (klOf Try.prog 65 1 1 1 0) (lit32 15066597)).put (klOf Try.prog 65 0 0 1 0) (lit32 238)) := all16 ⟨by kernel_rfl, by kernel_rfl⟩ ⟨by kernel_rfl, by kernel_rfl⟩ ⟨by kernel_rfl, by kernel_rfl⟩ ⟨by kernel_rfl, by kernel_rfl⟩ ⟨by kernel_rfl, by kernel_rfl⟩ ⟨by kernel_rfl, by kernel_rfl⟩ ⟨by kernel_rfl, by kernel_rfl⟩ ⟨by kernel_rfl, by kernel_rfl⟩ ⟨by kernel_rfl, by kernel_rfl⟩ ⟨by kernel_rfl, by kernel_rfl⟩ ⟨by kernel_rfl, by kernel_rfl⟩ ⟨by kernel_rfl, by kernel_rfl⟩ ⟨by kernel_rfl, by kernel_rfl⟩ ⟨by kernel_rfl, by kernel_rfl⟩ ⟨by kernel_rfl, by kernel_rfl⟩ ⟨by kernel_rfl, by kernel_rfl⟩
theorem tells8246 : Tells (((((DataW.map [] : DataW Unit).put (klOf Try.prog 65 0 0 1 1) (lit32 6053119)).put (klOf Try.prog 65 0 0 1 0) (lit32 238)).put (klOf Try.prog 65 1 1 1 0) (lit32 15066597)).put (klOf Try.prog 65 0 0 0 1) (lit32 8355711)) := all16 ⟨by kernel_rfl, by kernel_rfl⟩ ⟨by kernel_rfl, by kernel_rfl⟩ ⟨by kernel_rfl, by kernel_rfl⟩ ⟨by kernel_rfl, by kernel_rfl⟩ ⟨by kernel_rfl, by kernel_rfl⟩ ⟨by kernel_rfl, by kernel_rfl⟩ ⟨by kernel_rfl, by kernel_rfl⟩ ⟨by kernel_rfl, by kernel_rfl⟩ ⟨by kernel_rfl, by kernel_rfl⟩ ⟨by kernel_rfl, by kernel_rfl⟩ ⟨by kernel_rfl, by kernel_rfl⟩ ⟨by kernel_rfl, by kernel_rfl⟩ ⟨by kernel_rfl, by kernel_rfl⟩ ⟨by kernel_rfl, by kernel_rfl⟩ ⟨by kernel_rfl, by kernel_rfl⟩ ⟨by kernel_rfl, by kernel_rfl⟩
theorem tells8264 : Tells (((((DataW.map [] : DataW Unit).put (klOf Try.prog 65 0 0 1 1) (lit32 6053119)).put (klOf Try.prog 65 0 0 1 0) (lit32 238)).put (klOf Try.prog 65 0 0 0 1) (lit32 8355711)).put (klOf Try.prog 65 1 1 1 0) (lit32 15066597)) := all16 ⟨by kernel_rfl, by kernel_rfl⟩ ⟨by kernel_rfl, by kernel_rfl⟩ ⟨by kernel_rfl, by kernel_rfl⟩ ⟨by kernel_rfl, by kernel_rfl⟩ ⟨by kernel_rfl, by kernel_rfl⟩ ⟨by kernel_rfl, by kernel_rfl⟩ ⟨by kernel_rfl, by kernel_rfl⟩ ⟨by kernel_rfl, by kernel_rfl⟩ ⟨by kernel_rfl, by kernel_rfl⟩ ⟨by kernel_rfl, by kernel_rfl⟩ ⟨by kernel_rfl, by kernel_rfl⟩ ⟨by kernel_rfl, by kernel_rfl⟩ ⟨by kernel_rfl, by kernel_rfl⟩ ⟨by kernel_rfl, by kernel_rfl⟩ ⟨by kernel_rfl, by kernel_rfl⟩ ⟨by kernel_rfl, by kernel_rfl⟩
theorem tells8426 : Tells (((((DataW.map [] : DataW Unit).put (klOf Try.prog 65 0 0 1 1) (lit32 6053119)).put (klOf Try.prog 65 1 1 1 0) (lit32 15066597)).put (klOf Try.prog 65 0 0 1 0) (lit32 238)).put (klOf Try.prog 65 0 0 0 1) (lit32 8355711)) := all16 ⟨by kernel_rfl, by kernel_rfl⟩ ⟨by kernel_rfl, by kernel_rfl⟩ ⟨by kernel_rfl, by kernel_rfl⟩ ⟨by kernel_rfl, by kernel_rfl⟩ ⟨by kernel_rfl, by kernel_rfl⟩ ⟨by kernel_rfl, by kernel_rfl⟩ ⟨by kernel_rfl, by kernel_rfl⟩ ⟨by kernel_rfl, by kernel_rfl⟩ ⟨by kernel_rfl, by kernel_rfl⟩ ⟨by kernel_rfl, by kernel_rfl⟩ ⟨by kernel_rfl, by kernel_rfl⟩ ⟨by kernel_rfl, by kernel_rfl⟩ ⟨by kernel_rfl, by kernel_rfl⟩ ⟨by kernel_rfl, by kernel_rfl⟩ ⟨by kernel_rfl, by kernel_rfl⟩ ⟨by kernel_rfl, by kernel_rfl⟩
theorem tells8462 : Tells (((((DataW.map [] : DataW Unit).put (klOf Try.prog 65 0 0 1 1) (lit32 6053119)).put (klOf Try.prog 65 1 1 1 0) (lit32 15066597)).put (klOf Try.prog 65 0 0 0 1) (lit32 8355711)).put (klOf Try.prog 65 0 0 1 0) (lit32 238)) := all16 ⟨by kernel_rfl, by kernel_rfl⟩ ⟨by kernel_rfl, by kernel_rfl⟩ ⟨by kernel_rfl, by kernel_rfl⟩ ⟨by kernel_rfl, by kernel_rfl⟩ ⟨by kernel_rfl, by kernel_rfl⟩ ⟨by kernel_rfl, by kernel_rfl⟩ ⟨by kernel_rfl, by kernel_rfl⟩ ⟨by kernel_rfl, by kernel_rfl⟩ ⟨by kernel_rfl, by kernel_rfl⟩ ⟨by kernel_rfl, by kernel_rfl⟩ ⟨by kernel_rfl, by kernel_rfl⟩ ⟨by kernel_rfl, by kernel_rfl⟩ ⟨by kernel_rfl, by kernel_rfl⟩ ⟨by kernel_rfl, by kernel_rfl⟩ ⟨by kernel_rfl, by kernel_rfl⟩ ⟨by kernel_rfl, by kernel_rfl⟩
theorem tells8624 : Tells (((((DataW.map [] : DataW Unit).put (klOf Try.prog 65 0 0 1 1) (lit32 6053119)).put (klOf Try.prog 65 0 0 0 1) (lit32 8355711)).put (klOf Try.prog 65 0 0 1 0) (lit32 238)).put (klOf Try.prog 65 1 1 1 0) (lit32 15066597)) := all16 ⟨by kernel_rfl, by kernel_rfl⟩ ⟨by kernel_rfl, by kernel_rfl⟩ ⟨by kernel_rfl, by kernel_rfl⟩ ⟨by kernel_rfl, by kernel_rfl⟩ ⟨by kernel_rfl, by kernel_rfl⟩ ⟨by kernel_rfl, by kernel_rfl⟩ ⟨by kernel_rfl, by kernel_rfl⟩ ⟨by kernel_rfl, by kernel_rfl⟩ ⟨by kernel_rfl, by kernel_rfl⟩ ⟨by kernel_rfl, by kernel_rfl⟩ ⟨by kernel_rfl, by kernel_rfl⟩ ⟨by kernel_rfl, by kernel_rfl⟩ ⟨by kernel_rfl, by kernel_rfl⟩ ⟨by kernel_rfl, by kernel_rfl⟩ ⟨by kernel_rfl, by kernel_rfl⟩ ⟨by kernel_rfl, by kernel_rfl⟩
theorem tells8642 : Tells (((((DataW.map [] : DataW Unit).put (klOf Try.prog 65 0 0 1 1) (lit32 6053119)).put (klOf Try.prog 65 0 0 0 1) (lit32 8355711)).put (klOf Try.prog 65 1 1 1 0) (lit32 15066597)).put (klOf Try.prog 65 0 0 1 0) (lit32 238)) := all16 ⟨by kernel_rfl, by kernel_rfl⟩ ⟨by kernel_rfl, by kernel_rfl⟩ ⟨by kernel_rfl, by kernel_rfl⟩ ⟨by kernel_rfl, by kernel_rfl⟩ ⟨by kernel_rfl, by kernel_rfl⟩ ⟨by kernel_rfl, by kernel_rfl⟩ ⟨by kernel_rfl, by kernel_rfl⟩ ⟨by kernel_rfl, by kernel_rfl⟩ ⟨by kernel_rfl, by kernel_rfl⟩ ⟨by kernel_rfl, by kernel_rfl⟩ ⟨by kernel_rfl, by kernel_rfl⟩ ⟨by kernel_rfl, by kernel_rfl⟩ ⟨by kernel_rfl, by kernel_rfl⟩ ⟨by kernel_rfl, by kernel_rfl⟩ ⟨by kernel_rfl, by kernel_rfl⟩ ⟨by kernel_rfl, by kernel_rfl⟩

def basicV (n : Nat) : Nat × Nat × Nat :=
  if otherB n = true then (257 * ((otherV n).toNat / 65536), 257 * ((otherV n).toNat / 256 % 256), 257 * ((otherV n).toNat % 256))
  else (257 * (n % 2 * if n / 8 % 2 = 1 then 255 else 205), 257 * (n / 2 % 2 * if n / 8 % 2 = 1 then 255 else 205), 257 * (n / 4 % 2 * if n / 8 % 2 = 1 then 255 else 205))

set_option maxHeartbeats 8000000 in
theorem basic_any (n : Nat) (hn : n < 16) (w : World) : Calls Try.prog 20 #[.int .i64 n] w (ValPost (basicV n) w) := by
  have hmm := @run_makeMap Try.prog
  have e0 := and1 (n : Int) (by omega) (by omega)
  have e1 := and1 ((n : Int) / 2) (by omega) (by omega)
  have e2 := and1 ((n : Int) / 4) (by omega) (by omega)
  have e3 := and1 ((n : Int) / 8) (by omega) (by omega)
  go_enter Try.func20, Try.ntmps20
  go_upto_region 2 with (fail)
  go_cut [7] (fun v wc => ∃ D, v = .map (some (w.heap.size + 1)) ∧ Tab w wc (w.heap.size + 1) 4 D ∧ Tells D)
  case first =>
    refine wp_region_held_drew (S := fun _ => True) (by kernel_rfl) True.intro (fun hHeld => ?_)
    refine wpAnyH_take (i := 1) (v := ?_) rfl (by kernel_rfl) (by kernel_rfl) (by kernel_rfl) (fun _ _ _ h => h) (Or.inl ⟨by rfl, ?_⟩) True.intro ?_
    rotate_left
    · intro w hSw
      go_simp
      try with_reducible rfl
    simp only [Act.put]
    refine wpAnyH_take (i := 3) (v := ?_) rfl (by kernel_rfl) (by kernel_rfl) (by kernel_rfl) (fun _ _ _ h => h) (Or.inl ⟨by rfl, ?_⟩) True.intro ?_
    rotate_left
    · intro w hSw
      go_simp
      try with_reducible rfl
    simp only [Act.put]
    refine wpAnyH_take (i := 5) (v := ?_) rfl (by kernel_rfl) (by kernel_rfl) (by kernel_rfl) (fun _ _ _ h => h) (Or.inl ⟨by rfl, ?_⟩) True.intro ?_
    rotate_left
    · intro w hSw
      go_simp
      try with_reducible rfl
    simp only [Act.put]
    refine wpAnyH_take (i := 7) (v := ?_) rfl (by kernel_rfl) (by kernel_rfl) (by kernel_rfl) (fun _ _ _ h => h) (Or.inl ⟨by rfl, ?_⟩) True.intro ?_
    rotate_left
    · intro w hSw
      go_simp
      try with_reducible rfl
    simp only [Act.put]
    refine wpAnyH_ready (rs := [0]) (by kernel_rfl) (by simp) ?_
    refine AllReadyH.cons rfl (fun K hK => ?_) AllReadyH.nil
    go_simp
    refine hK.out _ _ True.intro (fun hHeld => ?_)
    clear hK K hHeld
    have T0 := Lib.hid (Tab.start w 35)
    refine wpAnyH_ready (rs := [2, 4, 6, 8]) (by kernel_rfl) (by simp) ?_
    refine AllReadyH.cons rfl (fun K hK => ?_) ?_
    · refine step_insert rfl (.tmp 26) (.tmp 27) (.const (.int .u32 238)) 67 rfl 65 66 keyed4 Try.underlying67 (plainElem (H := Unit) Try.prog 66) (w.heap.size + 1) 0 _ (by simp [Act.eval]) T0.out.1 (by unfold maxLen; omega) (key4 0 0 1 0) (.int .u32 238) (klOf Try.prog 65 0 0 1 0) (by simp [Act.eval]) (by simp [Act.eval]) (by kernel_rfl) (lit32 238) [] (plainElem_int Try.underlying66 (by decide)) ?_
      intro w1 own1 grow1
      have T1 := Lib.hid (T0.out.step own1 grow1)
      clear own1 grow1
      refine hK.out _ _ True.intro (fun hHeld => ?_)
      clear hK K hHeld
      simp only [Act.put]
      refine wpAnyH_ready (rs := [4, 6, 8]) (by kernel_rfl) (by simp) ?_
      refine AllReadyH.cons rfl (fun K hK => ?_) ?_
      · refine step_insert rfl (.tmp 26) (.tmp 28) (.const (.int .u32 15066597)) 67 rfl 65 66 keyed4 Try.underlying67 (plainElem (H := Unit) Try.prog 66) (w.heap.size + 1) 1 _ (by simp [Act.eval]) T1.out.1 (by unfold maxLen; omega) (key4 1 1 1 0) (.int .u32 15066597) (klOf Try.prog 65 1 1 1 0) (by simp [Act.eval]) (by simp [Act.eval]) (by kernel_rfl) (lit32 15066597) [] (plainElem_int Try.underlying66 (by decide)) ?_
        intro w2 own2 grow2
        have T2 := Lib.hid (T1.out.step own2 grow2)
        clear own2 grow2
        refine hK.out _ _ True.intro (fun hHeld => ?_)
        clear hK K hHeld
        simp only [Act.put]
        refine wpAnyH_ready (rs := [6, 8]) (by kernel_rfl) (by simp) ?_
        refine AllReadyH.cons rfl (fun K hK => ?_) ?_
        · refine step_insert rfl (.tmp 26) (.tmp 29) (.const (.int .u32 8355711)) 67 rfl 65 66 keyed4 Try.underlying67 (plainElem (H := Unit) Try.prog 66) (w.heap.size + 1) 2 _ (by simp [Act.eval]) T2.out.1 (by unfold maxLen; omega) (key4 0 0 0 1) (.int .u32 8355711) (klOf Try.prog 65 0 0 0 1) (by simp [Act.eval]) (by simp [Act.eval]) (by kernel_rfl) (lit32 8355711) [] (plainElem_int Try.underlying66 (by decide)) ?_
          intro w3 own3 grow3
          have T3 := Lib.hid (T2.out.step own3 grow3)
          clear own3 grow3
          refine hK.out _ _ True.intro (fun hHeld => ?_)
          clear hK K hHeld
          simp only [Act.put]
          refine wpAnyH_ready (rs := [8]) (by kernel_rfl) (by simp) ?_
          refine AllReadyH.cons rfl (fun K hK => ?_) ?_
          · refine step_insert rfl (.tmp 26) (.tmp 30) (.const (.int .u32 6053119)) 67 rfl 65 66 keyed4 Try.underlying67 (plainElem (H := Unit) Try.prog 66) (w.heap.size + 1) 3 _ (by simp [Act.eval]) T3.out.1 (by unfold maxLen; omega) (key4 0 0 1 1) (.int .u32 6053119) (klOf Try.prog 65 0 0 1 1) (by simp [Act.eval]) (by simp [Act.eval]) (by kernel_rfl) (lit32 6053119) [] (plainElem_int Try.underlying66 (by decide)) ?_
            intro w4 own4 grow4
            have T4 := Lib.hid (T3.out.step own4 grow4)
            clear own4 grow4
            refine hK.out _ _ True.intro (fun hHeld => ?_)
            clear hK K hHeld
            simp only [Act.put]
            refine wpAnyH_take (i := 9) (v := ?_) rfl (by kernel_rfl) (by kernel_rfl) (by kernel_rfl) (fun _ _ _ h => h) (Or.inl ⟨by rfl, ?_⟩) True.intro ?_
            rotate_left
            · intro w hSw
              go_simp
              try with_reducible rfl
            simp only [Act.put]
            refine wpAnyH_ready (rs := [10]) (by kernel_rfl) (by simp) ?_
            refine AllReadyH.cons rfl (fun K hK => ?_) AllReadyH.nil
            go_simp
            refine hK.out _ _ True.intro (fun hHeld => ?_)
            clear hK K hHeld
            refine wpAnyH_done (by kernel_rfl) ?_ _
            go_wp2_with fail
            go_meet
            case rel => exact ⟨_, rfl, T4.out, tells2468⟩
          exact AllReadyH.nil
        refine AllReadyH.cons rfl (fun K hK => ?_) ?_
        · refine step_insert rfl (.tmp 26) (.tmp 30) (.const (.int .u32 6053119)) 67 rfl 65 66 keyed4 Try.underlying67 (plainElem (H := Unit) Try.prog 66) (w.heap.size + 1) 2 _ (by simp [Act.eval]) T2.out.1 (by unfold maxLen; omega) (key4 0 0 1 1) (.int .u32 6053119) (klOf Try.prog 65 0 0 1 1) (by simp [Act.eval]) (by simp [Act.eval]) (by kernel_rfl) (lit32 6053119) [] (plainElem_int Try.underlying66 (by decide)) ?_
          intro w3 own3 grow3
          have T3 := Lib.hid (T2.out.step own3 grow3)
          clear own3 grow3
          refine hK.out _ _ True.intro (fun hHeld => ?_)
          clear hK K hHeld
          simp only [Act.put]
          refine wpAnyH_ready (rs := [6]) (by kernel_rfl) (by simp) ?_
          refine AllReadyH.cons rfl (fun K hK => ?_) ?_
          · refine step_insert rfl (.tmp 26) (.tmp 29) (.const (.int .u32 8355711)) 67 rfl 65 66 keyed4 Try.underlying67 (plainElem (H := Unit) Try.prog 66) (w.heap.size + 1) 3 _ (by simp [Act.eval]) T3.out.1 (by unfold maxLen; omega) (key4 0 0 0 1) (.int .u32 8355711) (klOf Try.prog 65 0 0 0 1) (by simp [Act.eval]) (by simp [Act.eval]) (by kernel_rfl) (lit32 8355711) [] (plainElem_int Try.underlying66 (by decide)) ?_
            intro w4 own4 grow4
            have T4 := Lib.hid (T3.out.step own4 grow4)
            clear own4 grow4
            refine hK.out _ _ True.intro (fun hHeld => ?_)
            clear hK K hHeld
            simp only [Act.put]
            refine wpAnyH_take (i := 9) (v := ?_) rfl (by kernel_rfl) (by kernel_rfl) (by kernel_rfl) (fun _ _ _ h => h) (Or.inl ⟨by rfl, ?_⟩) True.intro ?_
            rotate_left
            · intro w hSw
              go_simp
              try with_reducible rfl
            simp only [Act.put]
            refine wpAnyH_ready (rs := [10]) (by kernel_rfl) (by simp) ?_
            refine AllReadyH.cons rfl (fun K hK => ?_) AllReadyH.nil
            go_simp
            refine hK.out _ _ True.intro (fun hHeld => ?_)
            clear hK K hHeld
            refine wpAnyH_done (by kernel_rfl) ?_ _
            go_wp2_with fail
            go_meet
            case rel => exact ⟨_, rfl, T4.out, tells2486⟩
          exact AllReadyH.nil
        exact AllReadyH.nil
      refine AllReadyH.cons rfl (fun K hK => ?_) ?_
      · refine step_insert rfl (.tmp 26) (.tmp 29) (.const (.int .u32 8355711)) 67 rfl 65 66 keyed4 Try.underlying67 (plainElem (H := Unit) Try.prog 66) (w.heap.size + 1) 1 _ (by simp [Act.eval]) T1.out.1 (by unfold maxLen; omega) (key4 0 0 0 1) (.int .u32 8355711) (klOf Try.prog 65 0 0 0 1) (by simp [Act.eval]) (by simp [Act.eval]) (by kernel_rfl) (lit32 8355711) [] (plainElem_int Try.underlying66 (by decide)) ?_
        intro w2 own2 grow2
        have T2 := Lib.hid (T1.out.step own2 grow2)
        clear own2 grow2
        refine hK.out _ _ True.intro (fun hHeld => ?_)
        clear hK K hHeld
        simp only [Act.put]
        refine wpAnyH_ready (rs := [4, 8]) (by kernel_rfl) (by simp) ?_
        refine AllReadyH.cons rfl (fun K hK => ?_) ?_
        · refine step_insert rfl (.tmp 26) (.tmp 28) (.const (.int .u32 15066597)) 67 rfl 65 66 keyed4 Try.underlying67 (plainElem (H := Unit) Try.prog 66) (w.heap.size + 1) 2 _ (by simp [Act.eval]) T2.out.1 (by unfold maxLen; omega) (key4 1 1 1 0) (.int .u32 15066597) (klOf Try.prog 65 1 1 1 0) (by simp [Act.eval]) (by simp [Act.eval]) (by kernel_rfl) (lit32 15066597) [] (plainElem_int Try.underlying66 (by decide)) ?_
          intro w3 own3 grow3
          have T3 := Lib.hid (T2.out.step own3 grow3)
          clear own3 grow3
          refine hK.out _ _ True.intro (fun hHeld => ?_)
          clear hK K hHeld
          simp only [Act.put]
          refine wpAnyH_ready (rs := [8]) (by kernel_rfl) (by simp) ?_
          refine AllReadyH.cons rfl (fun K hK => ?_) ?_
          · refine step_insert rfl (.tmp 26) (.tmp 30) (.const (.int .u32 6053119)) 67 rfl 65 66 keyed4 Try.underlying67 (plainElem (H := Unit) Try.prog 66) (w.heap.size + 1) 3 _ (by simp [Act.eval]) T3.out.1 (by unfold maxLen; omega) (key4 0 0 1 1) (.int .u32 6053119) (klOf Try.prog 65 0 0 1 1) (by simp [Act.eval]) (by simp [Act.eval]) (by kernel_rfl) (lit32 6053119) [] (plainElem_int Try.underlying66 (by decide)) ?_
            intro w4 own4 grow4
            have T4 := Lib.hid (T3.out.step own4 grow4)
            clear own4 grow4
            refine hK.out _ _ True.intro (fun hHeld => ?_)
            clear hK K hHeld
            simp only [Act.put]
            refine wpAnyH_take (i := 9) (v := ?_) rfl (by kernel_rfl) (by kernel_rfl) (by kernel_rfl) (fun _ _ _ h => h) (Or.inl ⟨by rfl, ?_⟩) True.intro ?_
            rotate_left
            · intro w hSw
              go_simp
              try with_reducible rfl
            simp only [Act.put]
            refine wpAnyH_ready (rs := [10]) (by kernel_rfl) (by simp) ?_
            refine AllReadyH.cons rfl (fun K hK => ?_) AllReadyH.nil
            go_simp
            refine hK.out _ _ True.intro (fun hHeld => ?_)
            clear hK K hHeld
            refine wpAnyH_done (by kernel_rfl) ?_ _
            go_wp2_with fail
            go_meet
            case rel => exact ⟨_, rfl, T4.out, tells2648⟩
          exact AllReadyH.nil
        refine AllReadyH.cons rfl (fun K hK => ?_) ?_
        · refine step_insert rfl (.tmp 26) (.tmp 30) (.const (.int .u32 6053119)) 67 rfl 65 66 keyed4 Try.underlying67 (plainElem (H := Unit) Try.prog 66) (w.heap.size + 1) 2 _ (by simp [Act.eval]) T2.out.1 (by unfold maxLen; omega) (key4 0 0 1 1) (.int .u32 6053119) (klOf Try.prog 65 0 0 1 1) (by simp [Act.eval]) (by simp [Act.eval]) (by kernel_rfl) (lit32 6053119) [] (plainElem_int Try.underlying66 (by decide)) ?_
          intro w3 own3 grow3
          have T3 := Lib.hid (T2.out.step own3 grow3)
          clear own3 grow3
          refine hK.out _ _ True.intro (fun hHeld => ?_)
          clear hK K hHeld
          simp only [Act.put]
          refine wpAnyH_ready (rs := [4]) (by kernel_rfl) (by simp) ?_
          refine AllReadyH.cons rfl (fun K hK => ?_) ?_
          · refine step_insert rfl (.tmp 26) (.tmp 28) (.const (.int .u32 15066597)) 67 rfl 65 66 keyed4 Try.underlying67 (plainElem (H := Unit) Try.prog 66) (w.heap.size + 1) 3 _ (by simp [Act.eval]) T3.out.1 (by unfold maxLen; omega) (key4 1 1 1 0) (.int .u32 15066597) (klOf Try.prog 65 1 1 1 0) (by simp [Act.eval]) (by simp [Act.eval]) (by kernel_rfl) (lit32 15066597) [] (plainElem_int Try.underlying66 (by decide)) ?_
            intro w4 own4 grow4
            have T4 := Lib.hid (T3.out.step own4 grow4)
            clear own4 grow4
            refine hK.out _ _ True.intro (fun hHeld => ?_)
            clear hK K hHeld
            simp only [Act.put]
            refine wpAnyH_take (i := 9) (v := ?_) rfl (by kernel_rfl) (by kernel_rfl) (by kernel_rfl) (fun _ _ _ h => h) (Or.inl ⟨by rfl, ?_⟩) True.intro ?_
            rotate_left
            · intro w hSw
              go_simp
              try with_reducible rfl
            simp only [Act.put]
            refine wpAnyH_ready (rs := [10]) (by kernel_rfl) (by simp) ?_
            refine AllReadyH.cons rfl (fun K hK => ?_) AllReadyH.nil
            go_simp
            refine hK.out _ _ True.intro (fun hHeld => ?_)
            clear hK K hHeld
            refine wpAnyH_done (by kernel_rfl) ?_ _
            go_wp2_with fail
            go_meet
            case rel => exact ⟨_, rfl, T4.out, tells2684⟩
          exact AllReadyH.nil
        exact AllReadyH.nil
      refine AllReadyH.cons rfl (fun K hK => ?_) ?_
      · refine step_insert rfl (.tmp 26) (.tmp 30) (.const (.int .u32 6053119)) 67 rfl 65 66 keyed4 Try.underlying67 (plainElem (H := Unit) Try.prog 66) (w.heap.size + 1) 1 _ (by simp [Act.eval]) T1.out.1 (by unfold maxLen; omega) (key4 0 0 1 1) (.int .u32 6053119) (klOf Try.prog 65 0 0 1 1) (by simp [Act.eval]) (by simp [Act.eval]) (by kernel_rfl) (lit32 6053119) [] (plainElem_int Try.underlying66 (by decide)) ?_
        intro w2 own2 grow2
        have T2 := Lib.hid (T1.out.step own2 grow2)
        clear own2 grow2
        refine hK.out _ _ True.intro (fun hHeld => ?_)
        clear hK K hHeld
        simp only [Act.put]
        refine wpAnyH_ready (rs := [4, 6]) (by kernel_rfl) (by simp) ?_
        refine AllReadyH.cons rfl (fun K hK => ?_) ?_
        · refine step_insert rfl (.tmp 26) (.tmp 28) (.const (.int .u32 15066597)) 67 rfl 65 66 keyed4 Try.underlying67 (plainElem (H := Unit) Try.prog 66) (w.heap.size + 1) 2 _ (by simp [Act.eval]) T2.out.1 (by unfold maxLen; omega) (key4 1 1 1 0) (.int .u32 15066597) (klOf Try.prog 65 1 1 1 0) (by simp [Act.eval]) (by simp [Act.eval]) (by kernel_rfl) (lit32 15066597) [] (plainElem_int Try.underlying66 (by decide)) ?_
          intro w3 own3 grow3
          have T3 := Lib.hid (T2.out.step own3 grow3)
          clear own3 grow3
          refine hK.out _ _ True.intro (fun hHeld => ?_)
          clear hK K hHeld
          simp only [Act.put]
          refine wpAnyH_ready (rs := [6]) (by kernel_rfl) (by simp) ?_
          refine AllReadyH.cons rfl (fun K hK => ?_) ?_
          · refine step_insert rfl (.tmp 26) (.tmp 29) (.const (.int .u32 8355711)) 67 rfl 65 66 keyed4 Try.underlying67 (plainElem (H := Unit) Try.prog 66) (w.heap.size + 1) 3 _ (by simp [Act.eval]) T3.out.1 (by unfold maxLen; omega) (key4 0 0 0 1) (.int .u32 8355711) (klOf Try.prog 65 0 0 0 1) (by simp [Act.eval]) (by simp [Act.eval]) (by kernel_rfl) (lit32 8355711) [] (plainElem_int Try.underlying66 (by decide)) ?_
            intro w4 own4 grow4
            have T4 := Lib.hid (T3.out.step own4 grow4)
            clear own4 grow4
            refine hK.out _ _ True.intro (fun hHeld => ?_)
            clear hK K hHeld
            simp only [Act.put]
            refine wpAnyH_take (i := 9) (v := ?_) rfl (by kernel_rfl) (by kernel_rfl) (by kernel_rfl) (fun _ _ _ h => h) (Or.inl ⟨by rfl, ?_⟩) True.intro ?_
            rotate_left
            · intro w hSw
              go_simp
              try with_reducible rfl
            simp only [Act.put]
            refine wpAnyH_ready (rs := [10]) (by kernel_rfl) (by simp) ?_
            refine AllReadyH.cons rfl (fun K hK => ?_) AllReadyH.nil
            go_simp
            refine hK.out _ _ True.intro (fun hHeld => ?_)
            clear hK K hHeld
            refine wpAnyH_done (by kernel_rfl) ?_ _
            go_wp2_with fail
            go_meet
            case rel => exact ⟨_, rfl, T4.out, tells2846⟩
          exact AllReadyH.nil
        refine AllReadyH.cons rfl (fun K hK => ?_) ?_
        · refine step_insert rfl (.tmp 26) (.tmp 29) (.const (.int .u32 8355711)) 67 rfl 65 66 keyed4 Try.underlying67 (plainElem (H := Unit) Try.prog 66) (w.heap.size + 1) 2 _ (by simp [Act.eval]) T2.out.1 (by unfold maxLen; omega) (key4 0 0 0 1) (.int .u32 8355711) (klOf Try.prog 65 0 0 0 1) (by simp [Act.eval]) (by simp [Act.eval]) (by kernel_rfl) (lit32 8355711) [] (plainElem_int Try.underlying66 (by decide)) ?_
          intro w3 own3 grow3
          have T3 := Lib.hid (T2.out.step own3 grow3)
          clear own3 grow3
          refine hK.out _ _ True.intro (fun hHeld => ?_)
          clear hK K hHeld
          simp only [Act.put]
          refine wpAnyH_ready (rs := [4]) (by kernel_rfl) (by simp) ?_
          refine AllReadyH.cons rfl (fun K hK => ?_) ?_
          · refine step_insert rfl (.tmp 26) (.tmp 28) (.const (.int .u32 15066597)) 67 rfl 65 66 keyed4 Try.underlying67 (plainElem (H := Unit) Try.prog 66) (w.heap.size + 1) 3 _ (by simp [Act.eval]) T3.out.1 (by unfold maxLen; omega) (key4 1 1 1 0) (.int .u32 15066597) (klOf Try.prog 65 1 1 1 0) (by simp [Act.eval]) (by simp [Act.eval]) (by kernel_rfl) (lit32 15066597) [] (plainElem_int Try.underlying66 (by decide)) ?_
            intro w4 own4 grow4
            have T4 := Lib.hid (T3.out.step own4 grow4)
            clear own4 grow4
            refine hK.out _ _ True.intro (fun hHeld => ?_)
            clear hK K hHeld
            simp only [Act.put]
            refine wpAnyH_take (i := 9) (v := ?_) rfl (by kernel_rfl) (by kernel_rfl) (by kernel_rfl) (fun _ _ _ h => h) (Or.inl ⟨by rfl, ?_⟩) True.intro ?_
            rotate_left
            · intro w hSw
              go_simp
              try with_reducible rfl
            simp only [Act.put]
            refine wpAnyH_ready (rs := [10]) (by kernel_rfl) (by simp) ?_
            refine AllReadyH.cons rfl (fun K hK => ?_) AllReadyH.nil
            go_simp
            refine hK.out _ _ True.intro (fun hHeld => ?_)
            clear hK K hHeld
            refine wpAnyH_done (by kernel_rfl) ?_ _
            go_wp2_with fail
            go_meet
            case rel => exact ⟨_, rfl, T4.out, tells2864⟩
          exact AllReadyH.nil
        exact AllReadyH.nil
      exact AllReadyH.nil
    refine AllReadyH.cons rfl (fun K hK => ?_) ?_
    · refine step_insert rfl (.tmp 26) (.tmp 28) (.const (.int .u32 15066597)) 67 rfl 65 66 keyed4 Try.underlying67 (plainElem (H := Unit) Try.prog 66) (w.heap.size + 1) 0 _ (by simp [Act.eval]) T0.out.1 (by unfold maxLen; omega) (key4 1 1 1 0) (.int .u32 15066597) (klOf Try.prog 65 1 1 1 0) (by simp [Act.eval]) (by simp [Act.eval]) (by kernel_rfl) (lit32 15066597) [] (plainElem_int Try.underlying66 (by decide)) ?_
      intro w1 own1 grow1
      have T1 := Lib.hid (T0.out.step own1 grow1)
      clear own1 grow1
      refine hK.out _ _ True.intro (fun hHeld => ?_)
      clear hK K hHeld
      simp only [Act.put]
      refine wpAnyH_ready (rs := [2, 6, 8]) (by kernel_rfl) (by simp) ?_
      refine AllReadyH.cons rfl (fun K hK => ?_) ?_
      · refine step_insert rfl (.tmp 26) (.tmp 27) (.const (.int .u32 238)) 67 rfl 65 66 keyed4 Try.underlying67 (plainElem (H := Unit) Try.prog 66) (w.heap.size + 1) 1 _ (by simp [Act.eval]) T1.out.1 (by unfold maxLen; omega) (key4 0 0 1 0) (.int .u32 238) (klOf Try.prog 65 0 0 1 0) (by simp [Act.eval]) (by simp [Act.eval]) (by kernel_rfl) (lit32 238) [] (plainElem_int Try.underlying66 (by decide)) ?_
        intro w2 own2 grow2
        have T2 := Lib.hid (T1.out.step own2 grow2)
        clear own2 grow2
        refine hK.out _ _ True.intro (fun hHeld => ?_)
        clear hK K hHeld
        simp only [Act.put]
        refine wpAnyH_ready (rs := [6, 8]) (by kernel_rfl) (by simp) ?_
        refine AllReadyH.cons rfl (fun K hK => ?_) ?_
        · refine step_insert rfl (.tmp 26) (.tmp 29) (.const (.int .u32 8355711)) 67 rfl 65 66 keyed4 Try.underlying67 (plainElem (H := Unit) Try.prog 66) (w.heap.size + 1) 2 _ (by simp [Act.eval]) T2.out.1 (by unfold maxLen; omega) (key4 0 0 0 1) (.int .u32 8355711) (klOf Try.prog 65 0 0 0 1) (by simp [Act.eval]) (by simp [Act.eval]) (by kernel_rfl) (lit32 8355711) [] (plainElem_int Try.underlying66 (by decide)) ?_
          intro w3 own3 grow3
          have T3 := Lib.hid (T2.out.step own3 grow3)
          clear own3 grow3
          refine hK.out _ _ True.intro (fun hHeld => ?_)
          clear hK K hHeld
          simp only [Act.put]
          refine wpAnyH_ready (rs := [8]) (by kernel_rfl) (by simp) ?_
          refine AllReadyH.cons rfl (fun K hK => ?_) ?_
          · refine step_insert rfl (.tmp 26) (.tmp 30) (.const (.int .u32 6053119)) 67 rfl 65 66 keyed4 Try.underlying67 (plainElem (H := Unit) Try.prog 66) (w.heap.size + 1) 3 _ (by simp [Act.eval]) T3.out.1 (by unfold maxLen; omega) (key4 0 0 1 1) (.int .u32 6053119) (klOf Try.prog 65 0 0 1 1) (by simp [Act.eval]) (by simp [Act.eval]) (by kernel_rfl) (lit32 6053119) [] (plainElem_int Try.underlying66 (by decide)) ?_
            intro w4 own4 grow4
            have T4 := Lib.hid (T3.out.step own4 grow4)
            clear own4 grow4
            refine hK.out _ _ True.intro (fun hHeld => ?_)
            clear hK K hHeld
            simp only [Act.put]
            refine wpAnyH_take (i := 9) (v := ?_) rfl (by kernel_rfl) (by kernel_rfl) (by kernel_rfl) (fun _ _ _ h => h) (Or.inl ⟨by rfl, ?_⟩) True.intro ?_
            rotate_left
            · intro w hSw
              go_simp
              try with_reducible rfl
            simp only [Act.put]
            refine wpAnyH_ready (rs := [10]) (by kernel_rfl) (by simp) ?_
            refine AllReadyH.cons rfl (fun K hK => ?_) AllReadyH.nil
            go_simp
            refine hK.out _ _ True.intro (fun hHeld => ?_)
            clear hK K hHeld
            refine wpAnyH_done (by kernel_rfl) ?_ _
            go_wp2_with fail
            go_meet
            case rel => exact ⟨_, rfl, T4.out, tells4268⟩
          exact AllReadyH.nil
        refine AllReadyH.cons rfl (fun K hK => ?_) ?_
        · refine step_insert rfl (.tmp 26) (.tmp 30) (.const (.int .u32 6053119)) 67 rfl 65 66 keyed4 Try.underlying67 (plainElem (H := Unit) Try.prog 66) (w.heap.size + 1) 2 _ (by simp [Act.eval]) T2.out.1 (by unfold maxLen; omega) (key4 0 0 1 1) (.int .u32 6053119) (klOf Try.prog 65 0 0 1 1) (by simp [Act.eval]) (by simp [Act.eval]) (by kernel_rfl) (lit32 6053119) [] (plainElem_int Try.underlying66 (by decide)) ?_
          intro w3 own3 grow3
          have T3 := Lib.hid (T2.out.step own3 grow3)
          clear own3 grow3
          refine hK.out _ _ True.intro (fun hHeld => ?_)
          clear hK K hHeld
          simp only [Act.put]
          refine wpAnyH_ready (rs := [6]) (by kernel_rfl) (by simp) ?_
          refine AllReadyH.cons rfl (fun K hK => ?_) ?_
          · refine step_insert rfl (.tmp 26) (.tmp 29) (.const (.int .u32 8355711)) 67 rfl 65 66 keyed4 Try.underlying67 (plainElem (H := Unit) Try.prog 66) (w.heap.size + 1) 3 _ (by simp [Act.eval]) T3.out.1 (by unfold maxLen; omega) (key4 0 0 0 1) (.int .u32 8355711) (klOf Try.prog 65 0 0 0 1) (by simp [Act.eval]) (by simp [Act.eval]) (by kernel_rfl) (lit32 8355711) [] (plainElem_int Try.underlying66 (by decide)) ?_
            intro w4 own4 grow4
            have T4 := Lib.hid (T3.out.step own4 grow4)
            clear own4 grow4
            refine hK.out _ _ True.intro (fun hHeld => ?_)
            clear hK K hHeld
            simp only [Act.put]
            refine wpAnyH_take (i := 9) (v := ?_) rfl (by kernel_rfl) (by kernel_rfl) (by kernel_rfl) (fun _ _ _ h => h) (Or.inl ⟨by rfl, ?_⟩) True.intro ?_
            rotate_left
            · intro w hSw
              go_simp
              try with_reducible rfl
            simp only [Act.put]
            refine wpAnyH_ready (rs := [10]) (by kernel_rfl) (by simp) ?_
            refine AllReadyH.cons rfl (fun K hK => ?_) AllReadyH.nil
            go_simp
            refine hK.out _ _ True.intro (fun hHeld => ?_)
            clear hK K hHeld
            refine wpAnyH_done (by kernel_rfl) ?_ _
            go_wp2_with fail
            go_meet
            case rel => exact ⟨_, rfl, T4.out, tells4286⟩
          exact AllReadyH.nil
        exact AllReadyH.nil
      refine AllReadyH.cons rfl (fun K hK => ?_) ?_
      · refine step_insert rfl (.tmp 26) (.tmp 29) (.const (.int .u32 8355711)) 67 rfl 65 66 keyed4 Try.underlying67 (plainElem (H := Unit) Try.prog 66) (w.heap.size + 1) 1 _ (by simp [Act.eval]) T1.out.1 (by unfold maxLen; omega) (key4 0 0 0 1) (.int .u32 8355711) (klOf Try.prog 65 0 0 0 1) (by simp [Act.eval]) (by simp [Act.eval]) (by kernel_rfl) (lit32 8355711) [] (plainElem_int Try.underlying66 (by decide)) ?_
        intro w2 own2 grow2
        have T2 := Lib.hid (T1.out.step own2 grow2)
        clear own2 grow2
        refine hK.out _ _ True.intro (fun hHeld => ?_)
        clear hK K hHeld
        simp only [Act.put]
        refine wpAnyH_ready (rs := [2, 8]) (by kernel_rfl) (by simp) ?_
        refine AllReadyH.cons rfl (fun K hK => ?_) ?_
        · refine step_insert rfl (.tmp 26) (.tmp 27) (.const (.int .u32 238)) 67 rfl 65 66 keyed4 Try.underlying67 (plainElem (H := Unit) Try.prog 66) (w.heap.size + 1) 2 _ (by simp [Act.eval]) T2.out.1 (by unfold maxLen; omega) (key4 0 0 1 0) (.int .u32 238) (klOf Try.prog 65 0 0 1 0) (by simp [Act.eval]) (by simp [Act.eval]) (by kernel_rfl) (lit32 238) [] (plainElem_int Try.underlying66 (by decide)) ?_
          intro w3 own3 grow3
          have T3 := Lib.hid (T2.out.step own3 grow3)
          clear own3 grow3
          refine hK.out _ _ True.intro (fun hHeld => ?_)
          clear hK K hHeld
          simp only [Act.put]
          refine wpAnyH_ready (rs := [8]) (by kernel_rfl) (by simp) ?_
          refine AllReadyH.cons rfl (fun K hK => ?_) ?_
          · refine step_insert rfl (.tmp 26) (.tmp 30) (.const (.int .u32 6053119)) 67 rfl 65 66 keyed4 Try.underlying67 (plainElem (H := Unit) Try.prog 66) (w.heap.size + 1) 3 _ (by simp [Act.eval]) T3.out.1 (by unfold maxLen; omega) (key4 0 0 1 1) (.int .u32 6053119) (klOf Try.prog 65 0 0 1 1) (by simp [Act.eval]) (by simp [Act.eval]) (by kernel_rfl) (lit32 6053119) [] (plainElem_int Try.underlying66 (by decide)) ?_
            intro w4 own4 grow4
            have T4 := Lib.hid (T3.out.step own4 grow4)
            clear own4 grow4
            refine hK.out _ _ True.intro (fun hHeld => ?_)
            clear hK K hHeld
            simp only [Act.put]
            refine wpAnyH_take (i := 9) (v := ?_) rfl (by kernel_rfl) (by kernel_rfl) (by kernel_rfl) (fun _ _ _ h => h) (Or.inl ⟨by rfl, ?_⟩) True.intro ?_
            rotate_left
            · intro w hSw
              go_simp
              try with_reducible rfl
            simp only [Act.put]
            refine wpAnyH_ready (rs := [10]) (by kernel_rfl) (by simp) ?_
            refine AllReadyH.cons rfl (fun K hK => ?_) AllReadyH.nil
            go_simp
            refine hK.out _ _ True.intro (fun hHeld => ?_)
            clear hK K hHeld
            refine wpAnyH_done (by kernel_rfl) ?_ _
            go_wp2_with fail
            go_meet
            case rel => exact ⟨_, rfl, T4.out, tells4628⟩
          exact AllReadyH.nil
        refine AllReadyH.cons rfl (fun K hK => ?_) ?_
        · refine step_insert rfl (.tmp 26) (.tmp 30) (.const (.int .u32 6053119)) 67 rfl 65 66 keyed4 Try.underlying67 (plainElem (H := Unit) Try.prog 66) (w.heap.size + 1) 2 _ (by simp [Act.eval]) T2.out.1 (by unfold maxLen; omega) (key4 0 0 1 1) (.int .u32 6053119) (klOf Try.prog 65 0 0 1 1) (by simp [Act.eval]) (by simp [Act.eval]) (by kernel_rfl) (lit32 6053119) [] (plainElem_int Try.underlying66 (by decide)) ?_
          intro w3 own3 grow3
          have T3 := Lib.hid (T2.out.step own3 grow3)
          clear own3 grow3
          refine hK.out _ _ True.intro (fun hHeld => ?_)
          clear hK K hHeld
          simp only [Act.put]
          refine wpAnyH_ready (rs := [2]) (by kernel_rfl) (by simp) ?_
          refine AllReadyH.cons rfl (fun K hK => ?_) ?_
          · refine step_insert rfl (.tmp 26) (.tmp 27) (.const (.int .u32 238)) 67 rfl 65 66 keyed4 Try.underlying67 (plainElem (H := Unit) Try.prog 66) (w.heap.size + 1) 3 _ (by simp [Act.eval]) T3.out.1 (by unfold maxLen; omega) (key4 0 0 1 0) (.int .u32 238) (klOf Try.prog 65 0 0 1 0) (by simp [Act.eval]) (by simp [Act.eval]) (by kernel_rfl) (lit32 238) [] (plainElem_int Try.underlying66 (by decide)) ?_
            intro w4 own4 grow4
            have T4 := Lib.hid (T3.out.step own4 grow4)
            clear own4 grow4
            refine hK.out _ _ True.intro (fun hHeld => ?_)
            clear hK K hHeld
            simp only [Act.put]
            refine wpAnyH_take (i := 9) (v := ?_) rfl (by kernel_rfl) (by kernel_rfl) (by kernel_rfl) (fun _ _ _ h => h) (Or.inl ⟨by rfl, ?_⟩) True.intro ?_
            rotate_left
            · intro w hSw
              go_simp
              try with_reducible rfl
            simp only [Act.put]
            refine wpAnyH_ready (rs := [10]) (by kernel_rfl) (by simp) ?_
            refine AllReadyH.cons rfl (fun K hK => ?_) AllReadyH.nil
            go_simp
            refine hK.out _ _ True.intro (fun hHeld => ?_)
            clear hK K hHeld
            refine wpAnyH_done (by kernel_rfl) ?_ _
            go_wp2_with fail
            go_meet
            case rel => exact ⟨_, rfl, T4.out, tells4682⟩
          exact AllReadyH.nil
        exact AllReadyH.nil
      refine AllReadyH.cons rfl (fun K hK => ?_) ?_
      · refine step_insert rfl (.tmp 26) (.tmp 30) (.const (.int .u32 6053119)) 67 rfl 65 66 keyed4 Try.underlying67 (plainElem (H := Unit) Try.prog 66) (w.heap.size + 1) 1 _ (by simp [Act.eval]) T1.out.1 (by unfold maxLen; omega) (key4 0 0 1 1) (.int .u32 6053119) (klOf Try.prog 65 0 0 1 1) (by simp [Act.eval]) (by simp [Act.eval]) (by kernel_rfl) (lit32 6053119) [] (plainElem_int Try.underlying66 (by decide)) ?_
        intro w2 own2 grow2
        have T2 := Lib.hid (T1.out.step own2 grow2)
        clear own2 grow2
        refine hK.out _ _ True.intro (fun hHeld => ?_)
        clear hK K hHeld
        simp only [Act.put]
        refine wpAnyH_ready (rs := [2, 6]) (by kernel_rfl) (by simp) ?_
        refine AllReadyH.cons rfl (fun K hK => ?_) ?_
        · refine step_insert rfl (.tmp 26) (.tmp 27) (.const (.int .u32 238)) 67 rfl 65 66 keyed4 Try.underlying67 (plainElem (H := Unit) Try.prog 66) (w.heap.size + 1) 2 _ (by simp [Act.eval]) T2.out.1 (by unfold maxLen; omega) (key4 0 0 1 0) (.int .u32 238) (klOf Try.prog 65 0 0 1 0) (by simp [Act.eval]) (by simp [Act.eval]) (by kernel_rfl) (lit32 238) [] (plainElem_int Try.underlying66 (by decide)) ?_
          intro w3 own3 grow3
          have T3 := Lib.hid (T2.out.step own3 grow3)
          clear own3 grow3
          refine hK.out _ _ True.intro (fun hHeld => ?_)
          clear hK K hHeld
          simp only [Act.put]
          refine wpAnyH_ready (rs := [6]) (by kernel_rfl) (by simp) ?_
          refine AllReadyH.cons rfl (fun K hK => ?_) ?_
          · refine step_insert rfl (.tmp 26) (.tmp 29) (.const (.int .u32 8355711)) 67 rfl 65 66 keyed4 Try.underlying67 (plainElem (H := Unit) Try.prog 66) (w.heap.size + 1) 3 _ (by simp [Act.eval]) T3.out.1 (by unfold maxLen; omega) (key4 0 0 0 1) (.int .u32 8355711) (klOf Try.prog 65 0 0 0 1) (by simp [Act.eval]) (by simp [Act.eval]) (by kernel_rfl) (lit32 8355711) [] (plainElem_int Try.underlying66 (by decide)) ?_
            intro w4 own4 grow4
            have T4 := Lib.hid (T3.out.step own4 grow4)
            clear own4 grow4
            refine hK.out _ _ True.intro (fun hHeld => ?_)
            clear hK K hHeld
            simp only [Act.put]
            refine wpAnyH_take (i := 9) (v := ?_) rfl (by kernel_rfl) (by kernel_rfl) (by kernel_rfl) (fun _ _ _ h => h) (Or.inl ⟨by rfl, ?_⟩) True.intro ?_
            rotate_left
            · intro w hSw
              go_simp
              try with_reducible rfl
            simp only [Act.put]
            refine wpAnyH_ready (rs := [10]) (by kernel_rfl) (by simp) ?_
            refine AllReadyH.cons rfl (fun K hK => ?_) AllReadyH.nil
            go_simp
            refine hK.out _ _ True.intro (fun hHeld => ?_)
            clear hK K hHeld
            refine wpAnyH_done (by kernel_rfl) ?_ _
            go_wp2_with fail
            go_meet
            case rel => exact ⟨_, rfl, T4.out, tells4826⟩
          exact AllReadyH.nil
        refine AllReadyH.cons rfl (fun K hK => ?_) ?_
        · refine step_insert rfl (.tmp 26) (.tmp 29) (.const (.int .u32 8355711)) 67 rfl 65 66 keyed4 Try.underlying67 (plainElem (H := Unit) Try.prog 66) (w.heap.size + 1) 2 _ (by simp [Act.eval]) T2.out.1 (by unfold maxLen; omega) (key4 0 0 0 1) (.int .u32 8355711) (klOf Try.prog 65 0 0 0 1) (by simp [Act.eval]) (by simp [Act.eval]) (by kernel_rfl) (lit32 8355711) [] (plainElem_int Try.underlying66 (by decide)) ?_
          intro w3 own3 grow3
          have T3 := Lib.hid (T2.out.step own3 grow3)
          clear own3 grow3
          refine hK.out _ _ True.intro (fun hHeld => ?_)
          clear hK K hHeld
          simp only [Act.put]
          refine wpAnyH_ready (rs := [2]) (by kernel_rfl) (by simp) ?_
          refine AllReadyH.cons rfl (fun K hK => ?_) ?_
          · refine step_insert rfl (.tmp 26) (.tmp 27) (.const (.int .u32 238)) 67 rfl 65 66 keyed4 Try.underlying67 (plainElem (H := Unit) Try.prog 66) (w.heap.size + 1) 3 _ (by simp [Act.eval]) T3.out.1 (by unfold maxLen; omega) (key4 0 0 1 0) (.int .u32 238) (klOf Try.prog 65 0 0 1 0) (by simp [Act.eval]) (by simp [Act.eval]) (by kernel_rfl) (lit32 238) [] (plainElem_int Try.underlying66 (by decide)) ?_
            intro w4 own4 grow4
            have T4 := Lib.hid (T3.out.step own4 grow4)
            clear own4 grow4
            refine hK.out _ _ True.intro (fun hHeld => ?_)
            clear hK K hHeld
            simp only [Act.put]
            refine wpAnyH_take (i := 9) (v := ?_) rfl (by kernel_rfl) (by kernel_rfl) (by kernel_rfl) (fun _ _ _ h => h) (Or.inl ⟨by rfl, ?_⟩) True.intro ?_
            rotate_left
            · intro w hSw
              go_simp
              try with_reducible rfl
            simp only [Act.put]
            refine wpAnyH_ready (rs := [10]) (by kernel_rfl) (by simp) ?_
            refine AllReadyH.cons rfl (fun K hK => ?_) AllReadyH.nil
            go_simp
            refine hK.out _ _ True.intro (fun hHeld => ?_)
            clear hK K hHeld
            refine wpAnyH_done (by kernel_rfl) ?_ _
            go_wp2_with fail
            go_meet
            case rel => exact ⟨_, rfl, T4.out, tells4862⟩
          exact AllReadyH.nil
        exact AllReadyH.nil
      exact AllReadyH.nil
    refine AllReadyH.cons rfl (fun K hK => ?_) ?_
    · refine step_insert rfl (.tmp 26) (.tmp 29) (.const (.int .u32 8355711)) 67 rfl 65 66 keyed4 Try.underlying67 (plainElem (H := Unit) Try.prog 66) (w.heap.size + 1) 0 _ (by simp [Act.eval]) T0.out.1 (by unfold maxLen; omega) (key4 0 0 0 1) (.int .u32 8355711) (klOf Try.prog 65 0 0 0 1) (by simp [Act.eval]) (by simp [Act.eval]) (by kernel_rfl) (lit32 8355711) [] (plainElem_int Try.underlying66 (by decide)) ?_
      intro w1 own1 grow1
      have T1 := Lib.hid (T0.out.step own1 grow1)
      clear own1 grow1
      refine hK.out _ _ True.intro (fun hHeld => ?_)
      clear hK K hHeld
      simp only [Act.put]
      refine wpAnyH_ready (rs := [2, 4, 8]) (by kernel_rfl) (by simp) ?_
      refine AllReadyH.cons rfl (fun K hK => ?_) ?_
      · refine step_insert rfl (.tmp 26) (.tmp 27) (.const (.int .u32 238)) 67 rfl 65 66 keyed4 Try.underlying67 (plainElem (H := Unit) Try.prog 66) (w.heap.size + 1) 1 _ (by simp [Act.eval]) T1.out.1 (by unfold maxLen; omega) (key4 0 0 1 0) (.int .u32 238) (klOf Try.prog 65 0 0 1 0) (by simp [Act.eval]) (by simp [Act.eval]) (by kernel_rfl) (lit32 238) [] (plainElem_int Try.underlying66 (by decide)) ?_
        intro w2 own2 grow2
        have T2 := Lib.hid (T1.out.step own2 grow2)
        clear own2 grow2
        refine hK.out _ _ True.intro (fun hHeld => ?_)
        clear hK K hHeld
        simp only [Act.put]
        refine wpAnyH_ready (rs := [4, 8]) (by kernel_rfl) (by simp) ?_
        refine AllReadyH.cons rfl (fun K hK => ?_) ?_
        · refine step_insert rfl (.tmp 26) (.tmp 28) (.const (.int .u32 15066597)) 67 rfl 65 66 keyed4 Try.underlying67 (plainElem (H := Unit) Try.prog 66) (w.heap.size + 1) 2 _ (by simp [Act.eval]) T2.out.1 (by unfold maxLen; omega) (key4 1 1 1 0) (.int .u32 15066597) (klOf Try.prog 65 1 1 1 0) (by simp [Act.eval]) (by simp [Act.eval]) (by kernel_rfl) (lit32 15066597) [] (plainElem_int Try.underlying66 (by decide)) ?_
          intro w3 own3 grow3
          have T3 := Lib.hid (T2.out.step own3 grow3)
          clear own3 grow3
          refine hK.out _ _ True.intro (fun hHeld => ?_)
          clear hK K hHeld
          simp only [Act.put]
          refine wpAnyH_ready (rs := [8]) (by kernel_rfl) (by simp) ?_
          refine AllReadyH.cons rfl (fun K hK => ?_) ?_
          · refine step_insert rfl (.tmp 26) (.tmp 30) (.const (.int .u32 6053119)) 67 rfl 65 66 keyed4 Try.underlying67 (plainElem (H := Unit) Try.prog 66) (w.heap.size + 1) 3 _ (by simp [Act.eval]) T3.out.1 (by unfold maxLen; omega) (key4 0 0 1 1) (.int .u32 6053119) (klOf Try.prog 65 0 0 1 1) (by simp [Act.eval]) (by simp [Act.eval]) (by kernel_rfl) (lit32 6053119) [] (plainElem_int Try.underlying66 (by decide)) ?_
            intro w4 own4 grow4
            have T4 := Lib.hid (T3.out.step own4 grow4)
            clear own4 grow4
            refine hK.out _ _ True.intro (fun hHeld => ?_)
            clear hK K hHeld
            simp only [Act.put]
            refine wpAnyH_take (i := 9) (v := ?_) rfl (by kernel_rfl) (by kernel_rfl) (by kernel_rfl) (fun _ _ _ h => h) (Or.inl ⟨by rfl, ?_⟩) True.intro ?_
            rotate_left
            · intro w hSw
              go_simp
              try with_reducible rfl
            simp only [Act.put]
            refine wpAnyH_ready (rs := [10]) (by kernel_rfl) (by simp) ?_
            refine AllReadyH.cons rfl (fun K hK => ?_) AllReadyH.nil
            go_simp
            refine hK.out _ _ True.intro (fun hHeld => ?_)
            clear hK K hHeld
            refine wpAnyH_done (by kernel_rfl) ?_ _
            go_wp2_with fail
            go_meet
            case rel => exact ⟨_, rfl, T4.out, tells6248⟩
          exact AllReadyH.nil
        refine AllReadyH.cons rfl (fun K hK => ?_) ?_
        · refine step_insert rfl (.tmp 26) (.tmp 30) (.const (.int .u32 6053119)) 67 rfl 65 66 keyed4 Try.underlying67 (plainElem (H := Unit) Try.prog 66) (w.heap.size + 1) 2 _ (by simp [Act.eval]) T2.out.1 (by unfold maxLen; omega) (key4 0 0 1 1) (.int .u32 6053119) (klOf Try.prog 65 0 0 1 1) (by simp [Act.eval]) (by simp [Act.eval]) (by kernel_rfl) (lit32 6053119) [] (plainElem_int Try.underlying66 (by decide)) ?_
          intro w3 own3 grow3
          have T3 := Lib.hid (T2.out.step own3 grow3)
          clear own3 grow3
          refine hK.out _ _ True.intro (fun hHeld => ?_)
          clear hK K hHeld
          simp only [Act.put]
          refine wpAnyH_ready (rs := [4]) (by kernel_rfl) (by simp) ?_
          refine AllReadyH.cons rfl (fun K hK => ?_) ?_
          · refine step_insert rfl (.tmp 26) (.tmp 28) (.const (.int .u32 15066597)) 67 rfl 65 66 keyed4 Try.underlying67 (plainElem (H := Unit) Try.prog 66) (w.heap.size + 1) 3 _ (by simp [Act.eval]) T3.out.1 (by unfold maxLen; omega) (key4 1 1 1 0) (.int .u32 15066597) (klOf Try.prog 65 1 1 1 0) (by simp [Act.eval]) (by simp [Act.eval]) (by kernel_rfl) (lit32 15066597) [] (plainElem_int Try.underlying66 (by decide)) ?_
            intro w4 own4 grow4
            have T4 := Lib.hid (T3.out.step own4 grow4)
            clear own4 grow4
            refine hK.out _ _ True.intro (fun hHeld => ?_)
            clear hK K hHeld
            simp only [Act.put]
            refine wpAnyH_take (i := 9) (v := ?_) rfl (by kernel_rfl) (by kernel_rfl) (by kernel_rfl) (fun _ _ _ h => h) (Or.inl ⟨by rfl, ?_⟩) True.intro ?_
            rotate_left
            · intro w hSw
              go_simp
              try with_reducible rfl
            simp only [Act.put]
            refine wpAnyH_ready (rs := [10]) (by kernel_rfl) (by simp) ?_
            refine AllReadyH.cons rfl (fun K hK => ?_) AllReadyH.nil
            go_simp
            refine hK.out _ _ True.intro (fun hHeld => ?_)
            clear hK K hHeld
            refine wpAnyH_done (by kernel_rfl) ?_ _
            go_wp2_with fail
            go_meet
            case rel => exact ⟨_, rfl, T4.out, tells6284⟩
          exact AllReadyH.nil
        exact AllReadyH.nil
      refine AllReadyH.cons rfl (fun K hK => ?_) ?_
      · refine step_insert rfl (.tmp 26) (.tmp 28) (.const (.int .u32 15066597)) 67 rfl 65 66 keyed4 Try.underlying67 (plainElem (H := Unit) Try.prog 66) (w.heap.size + 1) 1 _ (by simp [Act.eval]) T1.out.1 (by unfold maxLen; omega) (key4 1 1 1 0) (.int .u32 15066597) (klOf Try.prog 65 1 1 1 0) (by simp [Act.eval]) (by simp [Act.eval]) (by kernel_rfl) (lit32 15066597) [] (plainElem_int Try.underlying66 (by decide)) ?_
        intro w2 own2 grow2
        have T2 := Lib.hid (T1.out.step own2 grow2)
        clear own2 grow2
        refine hK.out _ _ True.intro (fun hHeld => ?_)
        clear hK K hHeld
        simp only [Act.put]
        refine wpAnyH_ready (rs := [2, 8]) (by kernel_rfl) (by simp) ?_
        refine AllReadyH.cons rfl (fun K hK => ?_) ?_
        · refine step_insert rfl (.tmp 26) (.tmp 27) (.const (.int .u32 238)) 67 rfl 65 66 keyed4 Try.underlying67 (plainElem (H := Unit) Try.prog 66) (w.heap.size + 1) 2 _ (by simp [Act.eval]) T2.out.1 (by unfold maxLen; omega) (key4 0 0 1 0) (.int .u32 238) (klOf Try.prog 65 0 0 1 0) (by simp [Act.eval]) (by simp [Act.eval]) (by kernel_rfl) (lit32 238) [] (plainElem_int Try.underlying66 (by decide)) ?_
          intro w3 own3 grow3
          have T3 := Lib.hid (T2.out.step own3 grow3)
          clear own3 grow3
          refine hK.out _ _ True.intro (fun hHeld => ?_)
          clear hK K hHeld
          simp only [Act.put]
          refine wpAnyH_ready (rs := [8]) (by kernel_rfl) (by simp) ?_
          refine AllReadyH.cons rfl (fun K hK => ?_) ?_
          · refine step_insert rfl (.tmp 26) (.tmp 30) (.const (.int .u32 6053119)) 67 rfl 65 66 keyed4 Try.underlying67 (plainElem (H := Unit) Try.prog 66) (w.heap.size + 1) 3 _ (by simp [Act.eval]) T3.out.1 (by unfold maxLen; omega) (key4 0 0 1 1) (.int .u32 6053119) (klOf Try.prog 65 0 0 1 1) (by simp [Act.eval]) (by simp [Act.eval]) (by kernel_rfl) (lit32 6053119) [] (plainElem_int Try.underlying66 (by decide)) ?_
            intro w4 own4 grow4
            have T4 := Lib.hid (T3.out.step own4 grow4)
            clear own4 grow4
            refine hK.out _ _ True.intro (fun hHeld => ?_)
            clear hK K hHeld
            simp only [Act.put]
            refine wpAnyH_take (i := 9) (v := ?_) rfl (by kernel_rfl) (by kernel_rfl) (by kernel_rfl) (fun _ _ _ h => h) (Or.inl ⟨by rfl, ?_⟩) True.intro ?_
            rotate_left
            · intro w hSw
              go_simp
              try with_reducible rfl
            simp only [Act.put]
            refine wpAnyH_ready (rs := [10]) (by kernel_rfl) (by simp) ?_
            refine AllReadyH.cons rfl (fun K hK => ?_) AllReadyH.nil
            go_simp
            refine hK.out _ _ True.intro (fun hHeld => ?_)
            clear hK K hHeld
            refine wpAnyH_done (by kernel_rfl) ?_ _
            go_wp2_with fail
            go_meet
            case rel => exact ⟨_, rfl, T4.out, tells6428⟩
          exact AllReadyH.nil
        refine AllReadyH.cons rfl (fun K hK => ?_) ?_
        · refine step_insert rfl (.tmp 26) (.tmp 30) (.const (.int .u32 6053119)) 67 rfl 65 66 keyed4 Try.underlying67 (plainElem (H := Unit) Try.prog 66) (w.heap.size + 1) 2 _ (by simp [Act.eval]) T2.out.1 (by unfold maxLen; omega) (key4 0 0 1 1) (.int .u32 6053119) (klOf Try.prog 65 0 0 1 1) (by simp [Act.eval]) (by simp [Act.eval]) (by kernel_rfl) (lit32 6053119) [] (plainElem_int Try.underlying66 (by decide)) ?_
          intro w3 own3 grow3
          have T3 := Lib.hid (T2.out.step own3 grow3)
          clear own3 grow3
          refine hK.out _ _ True.intro (fun hHeld => ?_)
          clear hK K hHeld
          simp only [Act.put]
          refine wpAnyH_ready (rs := [2]) (by kernel_rfl) (by simp) ?_
          refine AllReadyH.cons rfl (fun K hK => ?_) ?_
          · refine step_insert rfl (.tmp 26) (.tmp 27) (.const (.int .u32 238)) 67 rfl 65 66 keyed4 Try.underlying67 (plainElem (H := Unit) Try.prog 66) (w.heap.size + 1) 3 _ (by simp [Act.eval]) T3.out.1 (by unfold maxLen; omega) (key4 0 0 1 0) (.int .u32 238) (klOf Try.prog 65 0 0 1 0) (by simp [Act.eval]) (by simp [Act.eval]) (by kernel_rfl) (lit32 238) [] (plainElem_int Try.underlying66 (by decide)) ?_
            intro w4 own4 grow4
            have T4 := Lib.hid (T3.out.step own4 grow4)
            clear own4 grow4
            refine hK.out _ _ True.intro (fun hHeld => ?_)
            clear hK K hHeld
            simp only [Act.put]
            refine wpAnyH_take (i := 9) (v := ?_) rfl (by kernel_rfl) (by kernel_rfl) (by kernel_rfl) (fun _ _ _ h => h) (Or.inl ⟨by rfl, ?_⟩) True.intro ?_
            rotate_left
            · intro w hSw
              go_simp
              try with_reducible rfl
            simp only [Act.put]
            refine wpAnyH_ready (rs := [10]) (by kernel_rfl) (by simp) ?_
            refine AllReadyH.cons rfl (fun K hK => ?_) AllReadyH.nil
            go_simp
            refine hK.out _ _ True.intro (fun hHeld => ?_)
            clear hK K hHeld
            refine wpAnyH_done (by kernel_rfl) ?_ _
            go_wp2_with fail
            go_meet
            case rel => exact ⟨_, rfl, T4.out, tells6482⟩
          exact AllReadyH.nil
        exact AllReadyH.nil
      refine AllReadyH.cons rfl (fun K hK => ?_) ?_
      · refine step_insert rfl (.tmp 26) (.tmp 30) (.const (.int .u32 6053119)) 67 rfl 65 66 keyed4 Try.underlying67 (plainElem (H := Unit) Try.prog 66) (w.heap.size + 1) 1 _ (by simp [Act.eval]) T1.out.1 (by unfold maxLen; omega) (key4 0 0 1 1) (.int .u32 6053119) (klOf Try.prog 65 0 0 1 1) (by simp [Act.eval]) (by simp [Act.eval]) (by kernel_rfl) (lit32 6053119) [] (plainElem_int Try.underlying66 (by decide)) ?_
        intro w2 own2 grow2
        have T2 := Lib.hid (T1.out.step own2 grow2)
        clear own2 grow2
        refine hK.out _ _ True.intro (fun hHeld => ?_)
        clear hK K hHeld
        simp only [Act.put]
        refine wpAnyH_ready (rs := [2, 4]) (by kernel_rfl) (by simp) ?_
        refine AllReadyH.cons rfl (fun K hK => ?_) ?_
        · refine step_insert rfl (.tmp 26) (.tmp 27) (.const (.int .u32 238)) 67 rfl 65 66 keyed4 Try.underlying67 (plainElem (H := Unit) Try.prog 66) (w.heap.size + 1) 2 _ (by simp [Act.eval]) T2.out.1 (by unfold maxLen; omega) (key4 0 0 1 0) (.int .u32 238) (klOf Try.prog 65 0 0 1 0) (by simp [Act.eval]) (by simp [Act.eval]) (by kernel_rfl) (lit32 238) [] (plainElem_int Try.underlying66 (by decide)) ?_
          intro w3 own3 grow3
          have T3 := Lib.hid (T2.out.step own3 grow3)
          clear own3 grow3
          refine hK.out _ _ True.intro (fun hHeld => ?_)
          clear hK K hHeld
          simp only [Act.put]
          refine wpAnyH_ready (rs := [4]) (by kernel_rfl) (by simp) ?_
          refine AllReadyH.cons rfl (fun K hK => ?_) ?_
          · refine step_insert rfl (.tmp 26) (.tmp 28) (.const (.int .u32 15066597)) 67 rfl 65 66 keyed4 Try.underlying67 (plainElem (H := Unit) Try.prog 66) (w.heap.size + 1) 3 _ (by simp [Act.eval]) T3.out.1 (by unfold maxLen; omega) (key4 1 1 1 0) (.int .u32 15066597) (klOf Try.prog 65 1 1 1 0) (by simp [Act.eval]) (by simp [Act.eval]) (by kernel_rfl) (lit32 15066597) [] (plainElem_int Try.underlying66 (by decide)) ?_
            intro w4 own4 grow4
            have T4 := Lib.hid (T3.out.step own4 grow4)
            clear own4 grow4
            refine hK.out _ _ True.intro (fun hHeld => ?_)
            clear hK K hHeld
            simp only [Act.put]
            refine wpAnyH_take (i := 9) (v := ?_) rfl (by kernel_rfl) (by kernel_rfl) (by kernel_rfl) (fun _ _ _ h => h) (Or.inl ⟨by rfl, ?_⟩) True.intro ?_
            rotate_left
            · intro w hSw
              go_simp
              try with_reducible rfl
            simp only [Act.put]
            refine wpAnyH_ready (rs := [10]) (by kernel_rfl) (by simp) ?_
            refine AllReadyH.cons rfl (fun K hK => ?_) AllReadyH.nil
            go_simp
            refine hK.out _ _ True.intro (fun hHeld => ?_)
            clear hK K hHeld
            refine wpAnyH_done (by kernel_rfl) ?_ _
            go_wp2_with fail
            go_meet
            case rel => exact ⟨_, rfl, T4.out, tells6824⟩
          exact AllReadyH.nil
        refine AllReadyH.cons rfl (fun K hK => ?_) ?_
        · refine step_insert rfl (.tmp 26) (.tmp 28) (.const (.int .u32 15066597)) 67 rfl 65 66 keyed4 Try.underlying67 (plainElem (H := Unit) Try.prog 66) (w.heap.size + 1) 2 _ (by simp [Act.eval]) T2.out.1 (by unfold maxLen; omega) (key4 1 1 1 0) (.int .u32 15066597) (klOf Try.prog 65 1 1 1 0) (by simp [Act.eval]) (by simp [Act.eval]) (by kernel_rfl) (lit32 15066597) [] (plainElem_int Try.underlying66 (by decide)) ?_
          intro w3 own3 grow3
          have T3 := Lib.hid (T2.out.step own3 grow3)
          clear own3 grow3
          refine hK.out _ _ True.intro (fun hHeld => ?_)
          clear hK K hHeld
          simp only [Act.put]
          refine wpAnyH_ready (rs := [2]) (by kernel_rfl) (by simp) ?_
          refine AllReadyH.cons rfl (fun K hK => ?_) ?_
          · refine step_insert rfl (.tmp 26) (.tmp 27) (.const (.int .u32 238)) 67 rfl 65 66 keyed4 Try.underlying67 (plainElem (H := Unit) Try.prog 66) (w.heap.size + 1) 3 _ (by simp [Act.eval]) T3.out.1 (by unfold maxLen; omega) (key4 0 0 1 0) (.int .u32 238) (klOf Try.prog 65 0 0 1 0) (by simp [Act.eval]) (by simp [Act.eval]) (by kernel_rfl) (lit32 238) [] (plainElem_int Try.underlying66 (by decide)) ?_
            intro w4 own4 grow4
            have T4 := Lib.hid (T3.out.step own4 grow4)
            clear own4 grow4
            refine hK.out _ _ True.intro (fun hHeld => ?_)
            clear hK K hHeld
            simp only [Act.put]
            refine wpAnyH_take (i := 9) (v := ?_) rfl (by kernel_rfl) (by kernel_rfl) (by kernel_rfl) (fun _ _ _ h => h) (Or.inl ⟨by rfl, ?_⟩) True.intro ?_
            rotate_left
            · intro w hSw
              go_simp
              try with_reducible rfl
            simp only [Act.put]
            refine wpAnyH_ready (rs := [10]) (by kernel_rfl) (by simp) ?_
            refine AllReadyH.cons rfl (fun K hK => ?_) AllReadyH.nil
            go_simp
            refine hK.out _ _ True.intro (fun hHeld => ?_)
            clear hK K hHeld
            refine wpAnyH_done (by kernel_rfl) ?_ _
            go_wp2_with fail
            go_meet
            case rel => exact ⟨_, rfl, T4.out, tells6842⟩
          exact AllReadyH.nil
        exact AllReadyH.nil
      exact AllReadyH.nil
    refine AllReadyH.cons rfl (fun K hK => ?_) ?_
    · refine step_insert rfl (.tmp 26) (.tmp 30) (.const (.int .u32 6053119)) 67 rfl 65 66 keyed4 Try.underlying67 (plainElem (H := Unit) Try.prog 66) (w.heap.size + 1) 0 _ (by simp [Act.eval]) T0.out.1 (by unfold maxLen; omega) (key4 0 0 1 1) (.int .u32 6053119) (klOf Try.prog 65 0 0 1 1) (by simp [Act.eval]) (by simp [Act.eval]) (by kernel_rfl) (lit32 6053119) [] (plainElem_int Try.underlying66 (by decide)) ?_
      intro w1 own1 grow1
      have T1 := Lib.hid (T0.out.step own1 grow1)
      clear own1 grow1
      refine hK.out _ _ True.intro (fun hHeld => ?_)
      clear hK K hHeld
      simp only [Act.put]
      refine wpAnyH_ready (rs := [2, 4, 6]) (by kernel_rfl) (by simp) ?_
      refine AllReadyH.cons rfl (fun K hK => ?_) ?_
      · refine step_insert rfl (.tmp 26) (.tmp 27) (.const (.int .u32 238)) 67 rfl 65 66 keyed4 Try.underlying67 (plainElem (H := Unit) Try.prog 66) (w.heap.size + 1) 1 _ (by simp [Act.eval]) T1.out.1 (by unfold maxLen; omega) (key4 0 0 1 0) (.int .u32 238) (klOf Try.prog 65 0 0 1 0) (by simp [Act.eval]) (by simp [Act.eval]) (by kernel_rfl) (lit32 238) [] (plainElem_int Try.underlying66 (by decide)) ?_
        intro w2 own2 grow2
        have T2 := Lib.hid (T1.out.step own2 grow2)
        clear own2 grow2
        refine hK.out _ _ True.intro (fun hHeld => ?_)
        clear hK K hHeld
        simp only [Act.put]
        refine wpAnyH_ready (rs := [4, 6]) (by kernel_rfl) (by simp) ?_
        refine AllReadyH.cons rfl (fun K hK => ?_) ?_
        · refine step_insert rfl (.tmp 26) (.tmp 28) (.const (.int .u32 15066597)) 67 rfl 65 66 keyed4 Try.underlying67 (plainElem (H := Unit) Try.prog 66) (w.heap.size + 1) 2 _ (by simp [Act.eval]) T2.out.1 (by unfold maxLen; omega) (key4 1 1 1 0) (.int .u32 15066597) (klOf Try.prog 65 1 1 1 0) (by simp [Act.eval]) (by simp [Act.eval]) (by kernel_rfl) (lit32 15066597) [] (plainElem_int Try.underlying66 (by decide)) ?_
          intro w3 own3 grow3
          have T3 := Lib.hid (T2.out.step own3 grow3)
          clear own3 grow3
          refine hK.out _ _ True.intro (fun hHeld => ?_)
          clear hK K hHeld
          simp only [Act.put]
          refine wpAnyH_ready (rs := [6]) (by kernel_rfl) (by simp) ?_
          refine AllReadyH.cons rfl (fun K hK => ?_) ?_
          · refine step_insert rfl (.tmp 26) (.tmp 29) (.const (.int .u32 8355711)) 67 rfl 65 66 keyed4 Try.underlying67 (plainElem (H := Unit) Try.prog 66) (w.heap.size + 1) 3 _ (by simp [Act.eval]) T3.out.1 (by unfold maxLen; omega) (key4 0 0 0 1) (.int .u32 8355711) (klOf Try.prog 65 0 0 0 1) (by simp [Act.eval]) (by simp [Act.eval]) (by kernel_rfl) (lit32 8355711) [] (plainElem_int Try.underlying66 (by decide)) ?_
            intro w4 own4 grow4
            have T4 := Lib.hid (T3.out.step own4 grow4)
            clear own4 grow4
            refine hK.out _ _ True.intro (fun hHeld => ?_)
            clear hK K hHeld
            simp only [Act.put]
            refine wpAnyH_take (i := 9) (v := ?_) rfl (by kernel_rfl) (by kernel_rfl) (by kernel_rfl) (fun _ _ _ h => h) (Or.inl ⟨by rfl, ?_⟩) True.intro ?_
            rotate_left
            · intro w hSw
              go_simp
              try with_reducible rfl
            simp only [Act.put]
            refine wpAnyH_ready (rs := [10]) (by kernel_rfl) (by simp) ?_
            refine AllReadyH.cons rfl (fun K hK => ?_) AllReadyH.nil
            go_simp
            refine hK.out _ _ True.intro (fun hHeld => ?_)
            clear hK K hHeld
            refine wpAnyH_done (by kernel_rfl) ?_ _
            go_wp2_with fail
            go_meet
            case rel => exact ⟨_, rfl, T4.out, tells8246⟩
          exact AllReadyH.nil
        refine AllReadyH.cons rfl (fun K hK => ?_) ?_
        · refine step_insert rfl (.tmp 26) (.tmp 29) (.const (.int .u32 8355711)) 67 rfl 65 66 keyed4 Try.underlying67 (plainElem (H := Unit) Try.prog 66) (w.heap.size + 1) 2 _ (by simp [Act.eval]) T2.out.1 (by unfold maxLen; omega) (key4 0 0 0 1) (.int .u32 8355711) (klOf Try.prog 65 0 0 0 1) (by simp [Act.eval]) (by simp [Act.eval]) (by kernel_rfl) (lit32 8355711) [] (plainElem_int Try.underlying66 (by decide)) ?_
          intro w3 own3 grow3
          have T3 := Lib.hid (T2.out.step own3 grow3)
          clear own3 grow3
          refine hK.out _ _ True.intro (fun hHeld => ?_)
          clear hK K hHeld
          simp only [Act.put]
          refine wpAnyH_ready (rs := [4]) (by kernel_rfl) (by simp) ?_
          refine AllReadyH.cons rfl (fun K hK => ?_) ?_
          · refine step_insert rfl (.tmp 26) (.tmp 28) (.const (.int .u32 15066597)) 67 rfl 65 66 keyed4 Try.underlying67 (plainElem (H := Unit) Try.prog 66) (w.heap.size + 1) 3 _ (by simp [Act.eval]) T3.out.1 (by unfold maxLen; omega) (key4 1 1 1 0) (.int .u32 15066597) (klOf Try.prog 65 1 1 1 0) (by simp [Act.eval]) (by simp [Act.eval]) (by kernel_rfl) (lit32 15066597) [] (plainElem_int Try.underlying66 (by decide)) ?_
            intro w4 own4 grow4
            have T4 := Lib.hid (T3.out.step own4 grow4)
            clear own4 grow4
            refine hK.out _ _ True.intro (fun hHeld => ?_)
            clear hK K hHeld
            simp only [Act.put]
            refine wpAnyH_take (i := 9) (v := ?_) rfl (by kernel_rfl) (by kernel_rfl) (by kernel_rfl) (fun _ _ _ h => h) (Or.inl ⟨by rfl, ?_⟩) True.intro ?_
            rotate_left
            · intro w hSw
              go_simp
              try with_reducible rfl
            simp only [Act.put]
            refine wpAnyH_ready (rs := [10]) (by kernel_rfl) (by simp) ?_
            refine AllReadyH.cons rfl (fun K hK => ?_) AllReadyH.nil
            go_simp
            refine hK.out _ _ True.intro (fun hHeld => ?_)
            clear hK K hHeld
            refine wpAnyH_done (by kernel_rfl) ?_ _
            go_wp2_with fail
            go_meet
            case rel => exact ⟨_, rfl, T4.out, tells8264⟩
          exact AllReadyH.nil
        exact AllReadyH.nil
      refine AllReadyH.cons rfl (fun K hK => ?_) ?_
      · refine step_insert rfl (.tmp 26) (.tmp 28) (.const (.int .u32 15066597)) 67 rfl 65 66 keyed4 Try.underlying67 (plainElem (H := Unit) Try.prog 66) (w.heap.size + 1) 1 _ (by simp [Act.eval]) T1.out.1 (by unfold maxLen; omega) (key4 1 1 1 0) (.int .u32 15066597) (klOf Try.prog 65 1 1 1 0) (by simp [Act.eval]) (by simp [Act.eval]) (by kernel_rfl) (lit32 15066597) [] (plainElem_int Try.underlying66 (by decide)) ?_
        intro w2 own2 grow2
        have T2 := Lib.hid (T1.out.step own2 grow2)
        clear own2 grow2
        refine hK.out _ _ True.intro (fun hHeld => ?_)
        clear hK K hHeld
        simp only [Act.put]
        refine wpAnyH_ready (rs := [2, 6]) (by kernel_rfl) (by simp) ?_
        refine AllReadyH.cons rfl (fun K hK => ?_) ?_
        · refine step_insert rfl (.tmp 26) (.tmp 27) (.const (.int .u32 238)) 67 rfl 65 66 keyed4 Try.underlying67 (plainElem (H := Unit) Try.prog 66) (w.heap.size + 1) 2 _ (by simp [Act.eval]) T2.out.1 (by unfold maxLen; omega) (key4 0 0 1 0) (.int .u32 238) (klOf Try.prog 65 0 0 1 0) (by simp [Act.eval]) (by simp [Act.eval]) (by kernel_rfl) (lit32 238) [] (plainElem_int Try.underlying66 (by decide)) ?_
          intro w3 own3 grow3
          have T3 := Lib.hid (T2.out.step own3 grow3)
          clear own3 grow3
          refine hK.out _ _ True.intro (fun hHeld => ?_)
          clear hK K hHeld
          simp only [Act.put]
          refine wpAnyH_ready (rs := [6]) (by kernel_rfl) (by simp) ?_
          refine AllReadyH.cons rfl (fun K hK => ?_) ?_
          · refine step_insert rfl (.tmp 26) (.tmp 29) (.const (.int .u32 8355711)) 67 rfl 65 66 keyed4 Try.underlying67 (plainElem (H := Unit) Try.prog 66) (w.heap.size + 1) 3 _ (by simp [Act.eval]) T3.out.1 (by unfold maxLen; omega) (key4 0 0 0 1) (.int .u32 8355711) (klOf Try.prog 65 0 0 0 1) (by simp [Act.eval]) (by simp [Act.eval]) (by kernel_rfl) (lit32 8355711) [] (plainElem_int Try.underlying66 (by decide)) ?_
            intro w4 own4 grow4
            have T4 := Lib.hid (T3.out.step own4 grow4)
            clear own4 grow4
            refine hK.out _ _ True.intro (fun hHeld => ?_)
            clear hK K hHeld
            simp only [Act.put]
            refine wpAnyH_take (i := 9) (v := ?_) rfl (by kernel_rfl) (by kernel_rfl) (by kernel_rfl) (fun _ _ _ h => h) (Or.inl ⟨by rfl, ?_⟩) True.intro ?_
            rotate_left
            · intro w hSw
              go_simp
              try with_reducible rfl
            simp only [Act.put]
            refine wpAnyH_ready (rs := [10]) (by kernel_rfl) (by simp) ?_
            refine AllReadyH.cons rfl (fun K hK => ?_) AllReadyH.nil
            go_simp
            refine hK.out _ _ True.intro (fun hHeld => ?_)
            clear hK K hHeld
            refine wpAnyH_done (by kernel_rfl) ?_ _
            go_wp2_with fail
            go_meet
            case rel => exact ⟨_, rfl, T4.out, tells8426⟩
          exact AllReadyH.nil
        refine AllReadyH.cons rfl (fun K hK => ?_) ?_
        · refine step_insert rfl (.tmp 26) (.tmp 29) (.const (.int .u32 8355711)) 67 rfl 65 66 keyed4 Try.underlying67 (plainElem (H := Unit) Try.prog 66) (w.heap.size + 1) 2 _ (by simp [Act.eval]) T2.out.1 (by unfold maxLen; omega) (key4 0 0 0 1) (.int .u32 8355711) (klOf Try.prog 65 0 0 0 1) (by simp [Act.eval]) (by simp [Act.eval]) (by kernel_rfl) (lit32 8355711) [] (plainElem_int Try.underlying66 (by decide)) ?_
          intro w3 own3 grow3
          have T3 := Lib.hid (T2.out.step own3 grow3)
          clear own3 grow3
          refine hK.out _ _ True.intro (fun hHeld => ?_)
          clear hK K hHeld
          simp only [Act.put]
          refine wpAnyH_ready (rs := [2]) (by kernel_rfl) (by simp) ?_
          refine AllReadyH.cons rfl (fun K hK => ?_) ?_
          · refine step_insert rfl (.tmp 26) (.tmp 27) (.const (.int .u32 238)) 67 rfl 65 66 keyed4 Try.underlying67 (plainElem (H := Unit) Try.prog 66) (w.heap.size + 1) 3 _ (by simp [Act.eval]) T3.out.1 (by unfold maxLen; omega) (key4 0 0 1 0) (.int .u32 238) (klOf Try.prog 65 0 0 1 0) (by simp [Act.eval]) (by simp [Act.eval]) (by kernel_rfl) (lit32 238) [] (plainElem_int Try.underlying66 (by decide)) ?_
            intro w4 own4 grow4
            have T4 := Lib.hid (T3.out.step own4 grow4)
            clear own4 grow4
            refine hK.out _ _ True.intro (fun hHeld => ?_)
            clear hK K hHeld
            simp only [Act.put]
            refine wpAnyH_take (i := 9) (v := ?_) rfl (by kernel_rfl) (by kernel_rfl) (by kernel_rfl) (fun _ _ _ h => h) (Or.inl ⟨by rfl, ?_⟩) True.intro ?_
            rotate_left
            · intro w hSw
              go_simp
              try with_reducible rfl
            simp only [Act.put]
            refine wpAnyH_ready (rs := [10]) (by kernel_rfl) (by simp) ?_
            refine AllReadyH.cons rfl (fun K hK => ?_) AllReadyH.nil
            go_simp
            refine hK.out _ _ True.intro (fun hHeld => ?_)
            clear hK K hHeld
            refine wpAnyH_done (by kernel_rfl) ?_ _
            go_wp2_with fail
            go_meet
            case rel => exact ⟨_, rfl, T4.out, tells8462⟩
          exact AllReadyH.nil
        exact AllReadyH.nil
      refine AllReadyH.cons rfl (fun K hK => ?_) ?_
      · refine step_insert rfl (.tmp 26) (.tmp 29) (.const (.int .u32 8355711)) 67 rfl 65 66 keyed4 Try.underlying67 (plainElem (H := Unit) Try.prog 66) (w.heap.size + 1) 1 _ (by simp [Act.eval]) T1.out.1 (by unfold maxLen; omega) (key4 0 0 0 1) (.int .u32 8355711) (klOf Try.prog 65 0 0 0 1) (by simp [Act.eval]) (by simp [Act.eval]) (by kernel_rfl) (lit32 8355711) [] (plainElem_int Try.underlying66 (by decide)) ?_
        intro w2 own2 grow2
        have T2 := Lib.hid (T1.out.step own2 grow2)
        clear own2 grow2
        refine hK.out _ _ True.intro (fun hHeld => ?_)
        clear hK K hHeld
        simp only [Act.put]
        refine wpAnyH_ready (rs := [2, 4]) (by kernel_rfl) (by simp) ?_
        refine AllReadyH.cons rfl (fun K hK => ?_) ?_
        · refine step_insert rfl (.tmp 26) (.tmp 27) (.const (.int .u32 238)) 67 rfl 65 66 keyed4 Try.underlying67 (plainElem (H := Unit) Try.prog 66) (w.heap.size + 1) 2 _ (by simp [Act.eval]) T2.out.1 (by unfold maxLen; omega) (key4 0 0 1 0) (.int .u32 238) (klOf Try.prog 65 0 0 1 0) (by simp [Act.eval]) (by simp [Act.eval]) (by kernel_rfl) (lit32 238) [] (plainElem_int Try.underlying66 (by decide)) ?_
          intro w3 own3 grow3
          have T3 := Lib.hid (T2.out.step own3 grow3)
          clear own3 grow3
          refine hK.out _ _ True.intro (fun hHeld => ?_)
          clear hK K hHeld
          simp only [Act.put]
          refine wpAnyH_ready (rs := [4]) (by kernel_rfl) (by simp) ?_
          refine AllReadyH.cons rfl (fun K hK => ?_) ?_
          · refine step_insert rfl (.tmp 26) (.tmp 28) (.const (.int .u32 15066597)) 67 rfl 65 66 keyed4 Try.underlying67 (plainElem (H := Unit) Try.prog 66) (w.heap.size + 1) 3 _ (by simp [Act.eval]) T3.out.1 (by unfold maxLen; omega) (key4 1 1 1 0) (.int .u32 15066597) (klOf Try.prog 65 1 1 1 0) (by simp [Act.eval]) (by simp [Act.eval]) (by kernel_rfl) (lit32 15066597) [] (plainElem_int Try.underlying66 (by decide)) ?_
            intro w4 own4 grow4
            have T4 := Lib.hid (T3.out.step own4 grow4)
            clear own4 grow4
            refine hK.out _ _ True.intro (fun hHeld => ?_)
            clear hK K hHeld
            simp only [Act.put]
            refine wpAnyH_take (i := 9) (v := ?_) rfl (by kernel_rfl) (by kernel_rfl) (by kernel_rfl) (fun _ _ _ h => h) (Or.inl ⟨by rfl, ?_⟩) True.intro ?_
            rotate_left
            · intro w hSw
              go_simp
              try with_reducible rfl
            simp only [Act.put]
            refine wpAnyH_ready (rs := [10]) (by kernel_rfl) (by simp) ?_
            refine AllReadyH.cons rfl (fun K hK => ?_) AllReadyH.nil
            go_simp
            refine hK.out _ _ True.intro (fun hHeld => ?_)
            clear hK K hHeld
            refine wpAnyH_done (by kernel_rfl) ?_ _
            go_wp2_with fail
            go_meet
            case rel => exact ⟨_, rfl, T4.out, tells8624⟩
          exact AllReadyH.nil
        refine AllReadyH.cons rfl (fun K hK => ?_) ?_
        · refine step_insert rfl (.tmp 26) (.tmp 28) (.const (.int .u32 15066597)) 67 rfl 65 66 keyed4 Try.underlying67 (plainElem (H := Unit) Try.prog 66) (w.heap.size + 1) 2 _ (by simp [Act.eval]) T2.out.1 (by unfold maxLen; omega) (key4 1 1 1 0) (.int .u32 15066597) (klOf Try.prog 65 1 1 1 0) (by simp [Act.eval]) (by simp [Act.eval]) (by kernel_rfl) (lit32 15066597) [] (plainElem_int Try.underlying66 (by decide)) ?_
          intro w3 own3 grow3
          have T3 := Lib.hid (T2.out.step own3 grow3)
          clear own3 grow3
          refine hK.out _ _ True.intro (fun hHeld => ?_)
          clear hK K hHeld
          simp only [Act.put]
          refine wpAnyH_ready (rs := [2]) (by kernel_rfl) (by simp) ?_
          refine AllReadyH.cons rfl (fun K hK => ?_) ?_
          · refine step_insert rfl (.tmp 26) (.tmp 27) (.const (.int .u32 238)) 67 rfl 65 66 keyed4 Try.underlying67 (plainElem (H := Unit) Try.prog 66) (w.heap.size + 1) 3 _ (by simp [Act.eval]) T3.out.1 (by unfold maxLen; omega) (key4 0 0 1 0) (.int .u32 238) (klOf Try.prog 65 0 0 1 0) (by simp [Act.eval]) (by simp [Act.eval]) (by kernel_rfl) (lit32 238) [] (plainElem_int Try.underlying66 (by decide)) ?_
            intro w4 own4 grow4
            have T4 := Lib.hid (T3.out.step own4 grow4)
            clear own4 grow4
            refine hK.out _ _ True.intro (fun hHeld => ?_)
            clear hK K hHeld
            simp only [Act.put]
            refine wpAnyH_take (i := 9) (v := ?_) rfl (by kernel_rfl) (by kernel_rfl) (by kernel_rfl) (fun _ _ _ h => h) (Or.inl ⟨by rfl, ?_⟩) True.intro ?_
            rotate_left
            · intro w hSw
              go_simp
              try with_reducible rfl
            simp only [Act.put]
            refine wpAnyH_ready (rs := [10]) (by kernel_rfl) (by simp) ?_
            refine AllReadyH.cons rfl (fun K hK => ?_) AllReadyH.nil
            go_simp
            refine hK.out _ _ True.intro (fun hHeld => ?_)
            clear hK K hHeld
            refine wpAnyH_done (by kernel_rfl) ?_ _
            go_wp2_with fail
            go_meet
            case rel => exact ⟨_, rfl, T4.out, tells8642⟩
          exact AllReadyH.nil
        exact AllReadyH.nil
      exact AllReadyH.nil
    exact AllReadyH.nil
  case rest =>
    obtain ⟨D, rfl, hT, hD⟩ := hcut
    obtain ⟨wt, rfl⟩ : ∃ wt : World, wt = wc := ⟨_, rfl⟩
    have hk := keyAt n hn
    obtain ⟨ht1, ht2⟩ := hD n hn
    have HT := Lib.hid hT
    have H1 := Lib.hid ht1
    have H2 := Lib.hid ht2
    have HK := Lib.hid hk
    clear hT ht1 ht2 hk hD
    obtain ⟨⟨s2, s3, s4⟩, s5, s6, s7⟩ := HT.out.2.2.2.s
    cases ho : otherB n
    · have HO := Lib.hid ho
      clear ho
      by_cases h8 : n / 8 % 2 = 1
      · have t8 : ((n : Int) / 8 % 2 == 1) = true := by simp; omega
        have H8 := Lib.hid h8
        clear h8
        go_wp2_with (at_lookup; refine wpList_lookup_own_ok_int _ rfl (.tmp 33) (.tmp 38) 67 rfl 65 66 .u32 keyed4 Try.underlying67 Try.underlying66 (by kernel_rfl) (w.heap.size + 1) 4 D (by simp [Act.eval]) HT.out.1 (key4 ((n : Int) % 2) ((n : Int) / 2 % 2) ((n : Int) / 4 % 2) ((n : Int) / 8 % 2)) _ (by simp [Act.eval]) HK.out ?_; intro c hat hwc; obtain rfl : c = otherV n := lit32_inj (hat.symm.trans H1.out); rw [H2.out, HO.out]; clear hat hwc)
        refine (ofBytes_of (n % 2 * 255) (n / 2 % 2 * 255) (n / 4 % 2 * 255) (by omega) (by omega) (by omega) (by omega) (by omega) (by omega) _).mono ?_
        rintro e w5 ⟨rfl, hb5⟩
        have hv := V3.below HT.out.2.2.2 hb5
        clear s2 s3 s4 s5 s6 s7
        obtain ⟨⟨s2, s3, s4⟩, s5, s6, s7⟩ := hv.s
        go_wp2
        refine bodyPost_ret (v := valT (257 * (n % 2 * 255), 257 * (n / 2 % 2 * 255), 257 * (n / 4 % 2 * 255))) (by simp [results, Try.results20, go_sem, s2, s3, s4]) rfl ⟨by unfold basicV; rw [HO.out]; simp only [H8.out]; rfl, ?_⟩
        exact (((bstep HT.out.2.2.1 hb5).setCell (by simp) _).setCell (by simp) _).setCell (by simp) _
      · have t8 : ((n : Int) / 8 % 2 == 1) = false := by simp; omega
        have H8 := Lib.hid h8
        clear h8
        go_wp2_with (at_lookup; refine wpList_lookup_own_ok_int _ rfl (.tmp 33) (.tmp 38) 67 rfl 65 66 .u32 keyed4 Try.underlying67 Try.underlying66 (by kernel_rfl) (w.heap.size + 1) 4 D (by simp [Act.eval]) HT.out.1 (key4 ((n : Int) % 2) ((n : Int) / 2 % 2) ((n : Int) / 4 % 2) ((n : Int) / 8 % 2)) _ (by simp [Act.eval]) HK.out ?_; intro c hat hwc; obtain rfl : c = otherV n := lit32_inj (hat.symm.trans H1.out); rw [H2.out, HO.out]; clear hat hwc)
        refine (ofBytes_of (n % 2 * 205) (n / 2 % 2 * 205) (n / 4 % 2 * 205) (by omega) (by omega) (by omega) (by omega) (by omega) (by omega) _).mono ?_
        rintro e w5 ⟨rfl, hb5⟩
        have hv := V3.below HT.out.2.2.2 hb5
        clear s2 s3 s4 s5 s6 s7
        obtain ⟨⟨s2, s3, s4⟩, s5, s6, s7⟩ := hv.s
        go_wp2
        refine bodyPost_ret (v := valT (257 * (n % 2 * 205), 257 * (n / 2 % 2 * 205), 257 * (n / 4 % 2 * 205))) (by simp [results, Try.results20, go_sem, s2, s3, s4]) rfl ⟨by unfold basicV; rw [HO.out]; rw [if_neg (by decide), if_neg H8.out], ?_⟩
        exact (((bstep HT.out.2.2.1 hb5).setCell (by simp) _).setCell (by simp) _).setCell (by simp) _
    · have HO := Lib.hid ho
      clear ho
      go_wp2_with (at_lookup; refine wpList_lookup_own_ok_int _ rfl (.tmp 33) (.tmp 38) 67 rfl 65 66 .u32 keyed4 Try.underlying67 Try.underlying66 (by kernel_rfl) (w.heap.size + 1) 4 D (by simp [Act.eval]) HT.out.1 (key4 ((n : Int) % 2) ((n : Int) / 2 % 2) ((n : Int) / 4 % 2) ((n : Int) / 8 % 2)) _ (by simp [Act.eval]) HK.out ?_; intro c hat hwc; obtain rfl : c = otherV n := lit32_inj (hat.symm.trans H1.out); rw [H2.out, HO.out]; clear hat hwc)
      have hvv := other_lt n hn
      refine (packed_of (otherV n).toNat (by omega) (by omega) _).mono ?_
      rintro e w5 ⟨rfl, hb5⟩
      have hv := V3.below HT.out.2.2.2 hb5
      clear s2 s3 s4 s5 s6 s7
      obtain ⟨⟨s2, s3, s4⟩, s5, s6, s7⟩ := hv.s
      generalize hm : (otherV n).toNat = m at *
      have HM := Lib.hid hm
      clear hm
      go_wp2
      refine bodyPost_ret (v := valT (257 * (m / 65536), 257 * (m / 256 % 256), 257 * (m % 256))) (by simp [results, Try.results20, go_sem, s2, s3, s4]) rfl ⟨by unfold basicV; rw [HO.out, HM.out]; rfl, ?_⟩
      exact (((bstep HT.out.2.2.1 hb5).setCell (by simp) _).setCell (by simp) _).setCell (by simp) _
end Go.Proofs.Ythcncghhjlaicaa.Lab
