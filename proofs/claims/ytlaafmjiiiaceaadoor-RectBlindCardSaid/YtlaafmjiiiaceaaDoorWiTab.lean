/- Package width's three tables, as they lie in memory; what a place of each is told as. -/
import Derived.Test.YtlaafmjiiiaceaaDoorProg
import Derived.WalkKit
import Derived.Deep.QuietTactic
import Derived.BigQuiet
import Derived.LoopTactic
import Derived.Outline
import Derived.WalkSpells
import Derived.WalkLawsBesides
import Derived.WalkSmall
import Derived.Below
import Derived.Deep.MidRow
import Derived.IntWalk
import Derived.Lib.Hide
namespace Go.Proofs.YtlaafmjiiiaceaaDoor.Lab
open Go.RowKit

def unshownT : List (Int × Int) := [(-2147483648, 31), (127, 159), (55296, 57343), (1114112, 2147483647)]
def marksT : List (Int × Int) :=
  [(768, 879), (1155, 1161), (1425, 1469), (1471, 1471), (1473, 1474), (1476, 1477), (1479, 1479), (1552, 1562), (1611, 1631), (1648, 1648), (1750, 1756), (1759, 1764), (1767, 1768), (1770, 1773), (1809, 1809), (1840, 1866),
   (1958, 1968), (3633, 3633), (3636, 3642), (3655, 3662), (6832, 6862), (7616, 7679), (8203, 8207), (8234, 8238), (8288, 8292), (8400, 8432), (12330, 12333), (12441, 12442), (65024, 65039), (65056, 65071), (65279, 65279), (917760, 917999)]
def broadT : List (Int × Int) :=
  [(4352, 4447), (9001, 9002), (11904, 12350), (12353, 19903), (19968, 42182), (44032, 55203), (63744, 64255), (65040, 65049), (65072, 65135), (65281, 65376), (65504, 65510), (127744, 128591), (129280, 129535), (131072, 196605), (196608, 262141)]

def loT (l : List (Int × Int)) (i : Nat) : Int := (l[i]?.getD (0, 0)).1
def hiT (l : List (Int × Int)) (i : Nat) : Int := (l[i]?.getD (0, 0)).2

/-- A table's pairs lie in a block, one behind the other. -/
def TabAt (w : World) (b : Nat) (l : List (Int × Int)) : Prop :=
  b < w.heap.size ∧ ∀ i, i < l.length → w.cell? ⟨b, i * 2, none⟩ = some (.int .i32 (loT l i)) ∧ w.cell? ⟨b, i * 2 + 1, none⟩ = some (.int .i32 (hiT l i))

theorem TabAt.below {w w' : World} {b : Nat} {l : List (Int × Int)} (h : TabAt w b l) (hb : Below w.heap.size w w') : TabAt w' b l := by
  obtain ⟨h0, h1⟩ := h
  exact ⟨Nat.lt_of_lt_of_le h0 hb.size, fun i hi => ⟨(hb.cell (p := ⟨b, i * 2, none⟩) h0).trans (h1 i hi).1, (hb.cell (p := ⟨b, i * 2 + 1, none⟩) h0).trans (h1 i hi).2⟩⟩

/-- All three. -/
def Tabs (w : World) : Prop := TabAt w 0 unshownT ∧ TabAt w 1 marksT ∧ TabAt w 2 broadT
theorem Tabs.below {w w' : World} (h : Tabs w) (hb : Below w.heap.size w w') : Tabs w' := ⟨h.1.below hb, h.2.1.below hb, h.2.2.below hb⟩
theorem Tabs.past {w : World} (h : Tabs w) (o : Obj) : Tabs (w.alloc o) := h.below ((Below.refl _ _).alloc (Nat.le_refl _) _)
theorem Tabs.size {w : World} (h : Tabs w) : 2 < w.heap.size := h.2.2.1

/-- Ranges that rise. -/
def riseB : List (Int × Int) → Bool
  | [] => true
  | [p] => decide (p.1 ≤ p.2)
  | p :: q :: l => decide (p.1 ≤ p.2) && decide (p.2 < q.1) && riseB (q :: l)

/-- Is a number in a range of the table? -/
def inB (l : List (Int × Int)) (x : Int) : Bool := l.any fun p => decide (p.1 ≤ x) && decide (x ≤ p.2)

theorem rise_at : ∀ (l : List (Int × Int)), riseB l = true → ∀ i j, i < j → j < l.length → hiT l i < loT l j
  | [], _, _, _, _, h => by simp at h
  | [p], _, i, j, h1, h2 => by simp at h2; omega
  | p :: q :: l, hr, i, j, h1, h2 => by
    simp only [riseB, Bool.and_eq_true, decide_eq_true_eq] at hr
    obtain ⟨⟨a, b⟩, c⟩ := hr
    have ih := rise_at (q :: l) c
    have hq : q.1 ≤ q.2 := by
      cases l with
      | nil => simpa [riseB] using c
      | cons r l => simp only [riseB, Bool.and_eq_true, decide_eq_true_eq] at c; exact c.1.1
    match i, j, h1, h2 with
    | 0, 1, _, _ => simpa [hiT, loT] using b
    | 0, j + 2, _, h2 =>
      have := ih 0 (j + 1) (by omega) (by simpa using h2)
      simp [hiT, loT] at this ⊢
      omega
    | i + 1, j + 1, h1, h2 =>
      have := ih i j (by omega) (by simpa using h2)
      simpa [hiT, loT] using this
theorem rise_in : ∀ (l : List (Int × Int)), riseB l = true → ∀ i, i < l.length → loT l i ≤ hiT l i
  | [], _, _, h => by simp at h
  | [p], hr, i, h => by
    obtain rfl : i = 0 := by simp at h; omega
    simpa [riseB, loT, hiT] using hr
  | p :: q :: l, hr, i, h => by
    simp only [riseB, Bool.and_eq_true, decide_eq_true_eq] at hr
    match i, h with
    | 0, _ => simpa [loT, hiT] using hr.1.1
    | i + 1, h => simpa [loT, hiT] using rise_in (q :: l) hr.2 i (by simpa using h)

theorem inB_at {l : List (Int × Int)} {x : Int} (i : Nat) (hi : i < l.length) (h1 : loT l i ≤ x) (h2 : x ≤ hiT l i) : inB l x = true := by
  unfold inB
  refine List.any_eq_true.2 ⟨l[i], List.getElem_mem hi, ?_⟩
  simp [loT, hiT, List.getElem?_eq_getElem hi] at h1 h2
  simp [h1, h2]
theorem inB_none {l : List (Int × Int)} {x : Int} (k : Nat) (h1 : ∀ i, i < k → i < l.length → hiT l i < x) (h2 : ∀ i, k ≤ i → i < l.length → x < loT l i) : inB l x = false := by
  unfold inB
  refine List.any_eq_false.2 fun p hp => ?_
  obtain ⟨i, hi, rfl⟩ := List.getElem_of_mem hp
  simp only [Bool.and_eq_true, decide_eq_true_eq, not_and]
  by_cases hk : i < k
  · have := h1 i hk hi
    simp [hiT, List.getElem?_eq_getElem hi] at this
    intro _; omega
  · have := h2 i (by omega) hi
    simp [loT, List.getElem?_eq_getElem hi] at this
    intro _; omega

theorem rise1 : riseB unshownT = true := by decide +kernel
theorem rise2 : riseB marksT = true := by decide +kernel
theorem rise3 : riseB broadT = true := by decide +kernel

/-- How many columns a rune takes; -1: it is not shown. -/
def ofI (x : Int) : Int := if inB unshownT x = true then -1 else if inB marksT x = true then 0 else if inB broadT x = true then 2 else 1
/-- In a text: none, if it is not shown. -/
def colI (x : Int) : Int := if ofI x < 0 then 0 else ofI x
theorem ofI_bd (x : Int) : -1 ≤ ofI x ∧ ofI x ≤ 2 := by unfold ofI; split <;> (try split) <;> (try split) <;> omega
theorem colI_bd (x : Int) : 0 ≤ colI x ∧ colI x ≤ 2 := by have := ofI_bd x; unfold colI; split <;> omega
theorem colI_max (x : Int) : colI x = max (ofI x) 0 := by unfold colI; split <;> omega
end Go.Proofs.YtlaafmjiiiaceaaDoor.Lab
