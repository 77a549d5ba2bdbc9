/- Blocks that have turned, rows of one's own; a range over a function whose rounds may lay blocks, and may end it. -/
import Derived.Test.YtmfbknmcmopjnaaTbVal
import Derived.Test.YtmfbknmcmopjnaaRfStop
import Derived.RangeFuncOwn
import Derived.Deep.AppendLies
import Derived.Deep.CutBlock
import Derived.Deep.DeepCutAuto
import Derived.Deep.LoopGhost
set_option linter.unusedVariables false
namespace Go.Proofs.Ytmfbknmcmopjnaa.Lab
open Go Go.RowKit Go.Shelf

theorem below_drewN {B : Nat} {a b : World} (h : Below B a b) (q : Nat) : Below B a (b.drewN q) := ⟨h.os, h.tape, h.output, h.size, h.block⟩
/-! ### nothing but some blocks has turned -/
structure Buts (S : Nat → Prop) (w w' : World) : Prop where
  os : w'.os = w.os
  tape : w'.tape = w.tape
  output : w'.output = w.output
  size : w.heap.size ≤ w'.heap.size
  block : ∀ k, k < w.heap.size → ¬ S k → w'.heap[k]? = w.heap[k]?
theorem Buts.refl (S : Nat → Prop) (w : World) : Buts S w w := ⟨rfl, rfl, rfl, Nat.le_refl _, fun _ _ _ => rfl⟩
theorem Buts.trans {S : Nat → Prop} {a b c : World} (h : Buts S a b) (k : Buts S b c) : Buts S a c :=
  ⟨k.os.trans h.os, k.tape.trans h.tape, k.output.trans h.output, Nat.le_trans h.size k.size, fun i hi hn => (k.block i (Nat.lt_of_lt_of_le hi h.size) hn).trans (h.block i hi hn)⟩
theorem Buts.trans' {S T : Nat → Prop} {a b c : World} (h : Buts S a b) (k : Buts T b c) (d : ∀ j, j < a.heap.size → T j → S j) : Buts S a c :=
  ⟨k.os.trans h.os, k.tape.trans h.tape, k.output.trans h.output, Nat.le_trans h.size k.size, fun i hi hn => (k.block i (Nat.lt_of_lt_of_le hi h.size) (fun e => hn (d i hi e))).trans (h.block i hi hn)⟩
theorem Buts.of {S : Nat → Prop} {a b : World} (h : Below a.heap.size a b) : Buts S a b := ⟨h.os, h.tape, h.output, h.size, fun i hi _ => h.block i hi⟩
theorem Buts.but {S : Nat → Prop} {g : Nat} {a b : World} (h : But g a b) (hg : S g) : Buts S a b := ⟨h.os, h.tape, h.output, h.size, fun i hi hn => h.block i hi (fun e => hn (by injection e with e; rw [e]; exact hg))⟩
theorem Buts.mono {S T : Nat → Prop} {a b : World} (h : Buts S a b) (k : ∀ i, i < a.heap.size → S i → T i) : Buts T a b := ⟨h.os, h.tape, h.output, h.size, fun i hi hn => h.block i hi (fun e => hn (k i hi e))⟩
theorem Buts.drew {S : Nat → Prop} {a b : World} (h : Buts S a b) : Buts S a b.drew := ⟨h.os, h.tape, h.output, h.size, h.block⟩
theorem Buts.below {S : Nat → Prop} {C : Nat} {a b : World} (h : Buts S a b) (hS : ∀ i, S i → C ≤ i) (hC : C ≤ a.heap.size) : Below C a b :=
  ⟨h.os, h.tape, h.output, h.size, fun i hi => h.block i (by omega) (fun e => by have := hS i e; omega)⟩
theorem Buts.grown {S : Nat → Prop} {a b : World} {row : Option Nat} (h : a.grownBy b row) (hr : ∀ r, row = some r → S r) : Buts S a b := ⟨h.os, h.tape, h.output, h.size, fun i hi hn => h.block i hi (fun e => hn (hr i e.symm))⟩
theorem Buts.cell {S : Nat → Prop} {a b : World} {g o : Nat} {v : Value} (h : Buts S a b) (hc : a.cell? ⟨g, o, none⟩ = some v) (hg : ¬ S g) : b.cell? ⟨g, o, none⟩ = some v := by
  obtain ⟨_, ho, _⟩ := cells_of_cell hc
  exact (World.cell?_of_block (a := ⟨g, o, none⟩) (h.block g (Array.getElem?_eq_some_iff.1 ho).1 hg)).trans hc
theorem Buts.turn {S : Nat → Prop} {B : Nat} {w W W' : World} {row : Option Nat} (h : Buts S w W) (hg : W.grownBy W' row) (hB : w.heap.size ≤ B) (hr : ∀ r, row = some r → B ≤ r ∧ ∃ o : Obj, W.heap[r]? = some o ∧ o.isCells = false) : Buts S w W' := by
  refine ⟨hg.os.trans h.os, hg.tape.trans h.tape, hg.output.trans h.output, Nat.le_trans h.size hg.size, fun k hk hn => ?_⟩
  refine (hg.block k (Nat.lt_of_lt_of_le hk h.size) ?_).trans (h.block k hk hn)
  intro e
  have := (hr k e.symm).1
  omega
theorem own_buts {S : Nat → Prop} {w w' : World} {lo size n : Nat} {e : TypeId} {v : Value} {xs : List Value} (h : w.ownsRow lo e size v n xs) (k : Buts S w w') (hS : ∀ b, v.ownBlock = some b → ¬ S b) : w'.ownsRow lo e size v n xs := by
  rcases h.2 with ⟨e1, e2⟩ | ⟨g, cap, cur, ev, hb, hg, rest⟩
  · exact ⟨h.1, .inl ⟨e1, e2⟩⟩
  · exact ⟨h.1, .inr ⟨g, cap, cur, ev, hb, (k.block g (Array.getElem?_eq_some_iff.1 hg).1 (hS g (by rw [ev]; rfl))).trans hg, rest⟩⟩
theorem World.ownsRow.turn {w w' : World} {lo size n : Nat} {e : TypeId} {v : Value} {xs : List Value} {row : Option Nat} (h : w.ownsRow lo e size v n xs) (hg : w.grownBy w' row) (hr : ∀ r, row = some r → ∃ o : Obj, w.heap[r]? = some o ∧ o.isCells = false) : w'.ownsRow lo e size v n xs := by
  rcases h.2 with ⟨e1, e2⟩ | ⟨g, cap, cur, e, hb, hgg, rest⟩
  · exact ⟨h.1, .inl ⟨e1, e2⟩⟩
  · refine ⟨h.1, .inr ⟨g, cap, cur, e, hb, (hg.block g (Array.getElem?_eq_some_iff.1 hgg).1 ?_).trans hgg, rest⟩⟩
    intro e
    obtain ⟨o, ho, hc⟩ := hr g e.symm
    rw [hgg] at ho
    injection ho with ho
    rw [← ho] at hc
    cases hc
theorem own_type {w : World} {lo size n g : Nat} {e : TypeId} {v : Value} {xs : List Value} (h : w.ownsRow lo e size v n xs) (hb : v.ownBlock = some g) : ∃ cur, w.heap[g]? = some (.cells cur e (0, 0)) := by
  rcases h.2 with ⟨rfl, _⟩ | ⟨g', cap, cur, rfl, _, hg, _⟩
  · simp [Value.ownBlock] at hb
  · obtain rfl : g' = g := by simpa [Value.ownBlock] using hb
    exact ⟨cur, hg⟩
theorem own_shape {w : World} {lo size n : Nat} {e : TypeId} {v : Value} {xs : List Value} (h : w.ownsRow lo e size v n xs) : ∃ a c, v = .slice a n c := by
  rcases h.2 with ⟨rfl, h0⟩ | ⟨g, cap, cur, rfl, _⟩
  · exact ⟨none, 0, by rw [h0]⟩
  · exact ⟨_, cap, rfl⟩
theorem own_one {w : World} {lo size n : Nat} {e : TypeId} {v : Value} {xs : List Value} (h : w.ownsRow lo e size v n xs) : v.oneCell' = true := by
  obtain ⟨a, c, rfl⟩ := own_shape h
  rfl
theorem type_ne {w : World} {g h : Nat} {c d : Array Value} {T U : TypeId} {fr fs : Nat × Nat} (hg : w.heap[g]? = some (.cells c T fr)) (hh : w.heap[h]? = some (.cells d U fs)) (k : T ≠ U) : g ≠ h := by
  rintro rfl
  rw [hg] at hh
  injection hh with hh
  injection hh with _ hh
  exact k hh

theorem own_below {w w' : World} {lo size n : Nat} {e : TypeId} {v : Value} {xs : List Value} (h : w.ownsRow lo e size v n xs) (hb : Below w.heap.size w w') : w'.ownsRow lo e size v n xs := by
  refine h.kept (row := none) ⟨hb.os, hb.tape, hb.output, hb.size, fun k hk _ => hb.block k hk⟩ ?_
  cases hv : v.ownBlock with
  | none => exact .inl rfl
  | some b => exact .inr (by simp)
theorem own_lower {w : World} {lo lo' n size : Nat} {e : TypeId} {v : Value} {xs : List Value} (h : w.ownsRow lo e size v n xs) (hl : lo' ≤ lo) : w.ownsRow lo' e size v n xs := by
  refine ⟨h.1, ?_⟩
  rcases h.2 with hn | ⟨g, cap, cur, e, hb, rest⟩
  · exact .inl hn
  · exact .inr ⟨g, cap, cur, e, Nat.le_trans hl hb, rest⟩
theorem keeps_below {w w' : World} (h : Below w.heap.size w w') : KeepsOthers w w' :=
  KeepsOthers.of_grownBy (row := none) ⟨h.os, h.tape, h.output, h.size, fun k hk _ => h.block k hk⟩ (fun _ _ e _ => by cases e)
theorem grown_of {w w' : World} (b : Below w.heap.size w w') : w.grownBy w' none := ⟨b.os, b.tape, b.output, b.size, fun k hk _ => b.block k hk⟩

end Go.Proofs.Ytmfbknmcmopjnaa.Lab
