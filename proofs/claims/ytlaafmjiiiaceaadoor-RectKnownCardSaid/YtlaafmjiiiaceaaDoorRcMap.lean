/- Places as keys of a map of the call's own; pieces as its elements. -/
import Derived.Test.YtlaafmjiiiaceaaDoorRcFill
import Derived.Test.YtlaafmjiiiaceaaDoorRcSum
import Derived.DeepKeys5
import Derived.Maps.Own
import Derived.Maps.Views
set_option linter.unusedVariables false
namespace Go.Proofs.YtlaafmjiiiaceaaDoor.Lab
open Go Go.RowKit
open Go.Maps (Keyed)

theorem laidOut12 : laidOutB Tryd.prog = true := by kernel_rfl
set_option maxRecDepth 100000 in
theorem keyedPos : Keyed Tryd.prog 32 := Keyed.of_law (deep_law_gate laidOut12 (by decide) (by decide) (by kernel_rfl) (by kernel_rfl))
theorem posKey (i j : Nat) (hi : i ≤ 2000) (hj : j ≤ 2000) : ∃ l, keyOf Tryd.prog 32 (posV i j) = some l := by
  unfold keyOf
  rw [Tryd.underlying32]
  simp only []
  have h1 : Tryd.prog.keyType 32 = true := by kernel_rfl
  have c1 : Tryd.prog.cellsOf 32 = 2 := by kernel_rfl
  have c2 : Tryd.prog.cellsOf 3 = 1 := by kernel_rfl
  have h2 : Value.formed Tryd.prog 32 (posV i j) = true := by
    unfold Value.formed
    simp [Tryd.underlying32, c1]
  rw [h1, h2]
  have h0 : 1 ≤ Tryd.prog.types.size := of_decide_eq_true (by kernel_rfl)
  obtain ⟨n, hn⟩ : ∃ n, Tryd.prog.types.size + 1 = n + 2 := ⟨Tryd.prog.types.size - 1, by omega⟩
  rw [hn]
  have wf : ∀ q : Nat, q ≤ 2000 → (Lit.int .i64 (q : Nat)).wf = true := fun q hq => by
    simp [Lit.wf, IntKind.min, IntKind.max, IntKind.signed, IntKind.bits]
    omega
  have w1 := wf i hi
  have w2 := wf j hj
  simp [Program.keyLits, Tryd.underlying32, Tryd.underlying3, c1, c2, Value.cells, w1, w2]
def klP (P : Program) (T : TypeId) (i j : Nat) : Lit := (keyOf P T (posV i j)).getD (.bool false)
theorem klP_is (i j : Nat) (hi : i ≤ 2000) (hj : j ≤ 2000) : keyOf Tryd.prog 32 (posV i j) = some (klP Tryd.prog 32 i j) := by
  obtain ⟨l, h⟩ := posKey i j hi hj
  unfold klP
  rw [h]
  rfl
theorem klP_ne {i i' j : Nat} (hi : i ≤ 2000) (hi' : i' ≤ 2000) (hj : j ≤ 2000) (h : i ≠ i') : klP Tryd.prog 32 i j ≠ klP Tryd.prog 32 i' j := fun e => by
  have h1 := klP_is i j hi hj
  have h2 := klP_is i' j hi' hj
  rw [e] at h1
  have := keyedPos.inj h1 h2
  simp at this
  omega
/-- How an element reads. -/
def rSl (v : Value) : Option (DataW Unit × List MemPlace) := match v with
  | .slice none 0 0 => some (.lit .nil, [])
  | .slice (some ⟨g, o, none⟩) n c => some (.agg [.lit (.int .i64 (g : Nat)), .lit (.int .i64 (o : Nat)), .lit (.int .i64 (n : Nat)), .lit (.int .i64 (c : Nat))], [])
  | _ => none
def encS (g o n c : Nat) : DataW Unit := .agg [.lit (.int .i64 (g : Nat)), .lit (.int .i64 (o : Nat)), .lit (.int .i64 (n : Nat)), .lit (.int .i64 (c : Nat))]
theorem rSl_inv {v : Value} {g o n c : Nat} {ps : List MemPlace} (h : rSl v = some (encS g o n c, ps)) : v = .slice (some ⟨g, o, none⟩) n c := by
  unfold rSl at h
  split at h
  · injection h with h
    injection h with h _
    cases h
  · injection h with h
    injection h with h _
    unfold encS at h
    simp at h
    obtain ⟨⟨h1, h2, h3, h4⟩, _⟩ := h
    simp
    omega
  · cases h
/-- The first pieces lie in a map of the call's own, each at its place. -/
def HasP (w : World) (bm n tr tc : Nat) (F : Nat → Value) : Prop := ∃ (D : DataW Unit) (N : Nat), w.ownsMap Tryd.prog 32 rSl bm N D ∧ N ≤ n ∧ ∀ i, i < n → ∃ g o m c, F i = .slice (some ⟨g, o, none⟩) m c ∧ ∀ zd, D.atKey (klP Tryd.prog 32 (tr + i) tc) zd = encS g o m c
theorem hasP_new (w : World) (tr tc : Nat) (F : Nat → Value) : HasP (w.alloc (.map #[] 0)) w.heap.size 0 tr tc F := ⟨_, 0, World.ownsMap_made w _ _ _, Nat.le_refl _, fun i hi => absurd hi (Nat.not_lt_zero _)⟩
theorem HasP.kept {w w' : World} {bm n tr tc : Nat} {F : Nat → Value} {row : Option Nat} (h : HasP w bm n tr tc F) (hg : w.grownBy w' row) (hne : some bm ≠ row) : HasP w' bm n tr tc F := by
  obtain ⟨D, N, h1, h2, h3⟩ := h
  exact ⟨D, N, h1.kept hg hne, h2, h3⟩
theorem HasP.below {w w' : World} {bm n tr tc : Nat} {F : Nat → Value} (h : HasP w bm n tr tc F) (k : Below w.heap.size w w') : HasP w' bm n tr tc F := h.kept (row := none) ⟨k.os, k.tape, k.output, k.size, fun i hi _ => k.block i hi⟩ (by simp)
theorem HasP.lt {w : World} {bm n tr tc : Nat} {F : Nat → Value} (h : HasP w bm n tr tc F) : bm < w.heap.size := by
  obtain ⟨D, N, h1, _⟩ := h
  exact h1.lt
set_option maxRecDepth 100000 in
theorem HasP.put {w : World} {bm i tr tc : Nat} {F : Nat → Value} (h : HasP w bm i tr tc F) (hi : tr + i ≤ 2000) (hc : tc ≤ 2000) {g o m c : Nat} (hF : F i = .slice (some ⟨g, o, none⟩) m c) :
    ∃ w', (Instr.mapUpdate 90 (.map (some bm)) (posV (tr + i) tc) (.slice (some ⟨g, o, none⟩) m c)).run Tryd.prog w = .ok () w' ∧ HasP w' bm (i + 1) tr tc F ∧ w.grownBy w' (some bm) := by
  obtain ⟨D, N, h1, h2, h3⟩ := h
  have hk := klP_is (tr + i) tc hi hc
  obtain ⟨w', r1, r2, r3⟩ := h1.update keyedPos Tryd.underlying90 (by unfold maxLen; omega) hk (d := encS g o m c) (ps := []) (val := .slice (some ⟨g, o, none⟩) m c) rfl
  refine ⟨w', r1, ⟨_, N + 1, r2, by omega, fun q hq => ?_⟩, r3⟩
  by_cases e : q = i
  · subst e
    refine ⟨g, o, m, c, hF, fun zd => Maps.atKey_put_same ?_ (keyedPos.key hk) _ zd⟩
    obtain ⟨es, clock, _, _, _, hD⟩ := h1
    exact ⟨_, hD⟩
  · obtain ⟨g', o', m', c', e1, e2⟩ := h3 q (by omega)
    refine ⟨g', o', m', c', e1, fun zd => ?_⟩
    rw [Maps.atKey_put_other (klP_ne (by omega) hi hc (by omega)) _ zd]
    exact e2 zd
set_option maxRecDepth 100000 in
theorem HasP.get {w : World} {bm n tr tc i : Nat} {F : Nat → Value} (h : HasP w bm n tr tc F) (hi : i < n) (hr : tr + i ≤ 2000) (hc : tc ≤ 2000) : (Instr.lookup 90 (.map (some bm)) (posV (tr + i) tc) false).run Tryd.prog w = .ok (F i) w := by
  obtain ⟨D, N, h1, h2, h3⟩ := h
  have hk := klP_is (tr + i) tc hr hc
  obtain ⟨g, o, m, c, e1, e2⟩ := h3 i hi
  obtain ⟨v, ps, r1, r2⟩ := h1.lookup keyedPos Tryd.underlying90 (z := .slice none 0 0) (zd := .lit .nil) (zp := []) (by kernel_rfl) rfl hk
  rw [e2] at r2
  rw [r1, e1, rSl_inv r2]
end Go.Proofs.YtlaafmjiiiaceaaDoor.Lab
