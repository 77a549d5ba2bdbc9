/- A slice of slices of numbers of sixteen bits, as it comes in; and what the law makes of them. -/
import Derived.Test.YtijnjeibnochpaaDoorPaBackM
import Derived.Deep.Matrix
namespace Go.Proofs.YtijnjeibnochpaaDoor.Lab
open Go Go.RowKit Go.ChangeShapes Go.WideShapes Go.Deep

structure IsNums (W : World) (a : Option Addr) (len cap : Nat) (A : Nat → Option Addr) (L C : Nat → Nat) (Z : Nat → Nat → Int) : Prop where
  lc : len ≤ cap
  cm : cap ≤ maxLen
  top : 0 < len → ∃ b off, a = some ⟨b, off, none⟩ ∧ b < W.heap.size ∧ ∀ i, i < len → W.cell? ⟨b, off + i, none⟩ = some (.slice (A i) (L i) (C i))
  ll : ∀ i, i < len → L i ≤ C i ∧ C i ≤ maxLen
  row : ∀ i, i < len → 0 < L i → ∃ b off, A i = some ⟨b, off, none⟩ ∧ b < W.heap.size ∧ ∀ j, j < L i → W.cell? ⟨b, off + j, none⟩ = some (.int .u16 (Z i j))
  num : ∀ i, i < len → ∀ j, j < L i → 0 ≤ Z i j ∧ Z i j ≤ 65535

theorem IsNums.on {w w' : World} {a : Option Addr} {len cap : Nat} {A : Nat → Option Addr} {L C : Nat → Nat} {Z : Nat → Nat → Int} (h : IsNums w a len cap A L C Z) (hb : Below w.heap.size w w') : IsNums w' a len cap A L C Z := by
  refine ⟨h.lc, h.cm, fun h0 => ?_, h.ll, fun i hi h0 => ?_, h.num⟩
  · obtain ⟨b, off, e, h1, h2⟩ := h.top h0
    exact ⟨b, off, e, Nat.lt_of_lt_of_le h1 hb.size, fun i hi => (hb.cell (p := ⟨b, off + i, none⟩) h1).trans (h2 i hi)⟩
  · obtain ⟨b, off, e, h1, h2⟩ := h.row i hi h0
    exact ⟨b, off, e, Nat.lt_of_lt_of_le h1 hb.size, fun j hj => (hb.cell (p := ⟨b, off + j, none⟩) h1).trans (h2 j hj)⟩

theorem wf_u16 {n : Int} (h : (Lit.int .u16 n).wf = true) : 0 ≤ n ∧ n ≤ 65535 := by
  simp [Lit.wf, IntKind.min, IntKind.max, IntKind.bits, IntKind.signed] at h
  omega
theorem vals_at {W : World} {a : Addr} {n : Nat} {V : Nat → Value} (h : ∀ i, i < n → W.cell? (a.add i) = some (V i)) (hp : 0 < n) : ∃ b off, a = ⟨b, off, none⟩ ∧ b < W.heap.size ∧ ∀ i, i < n → W.cell? ⟨b, off + i, none⟩ = some (V i) := by
  obtain ⟨b, off, spot⟩ := a
  have hspot : spot = none := by simpa [Addr.add] using World.cell?_spot (h 0 hp)
  subst hspot
  have hc : ∀ i, i < n → W.cell? ⟨b, off + i, none⟩ = some (V i) := fun i hi => by rw [← Go.WideShapes.add_plain]; exact h i hi
  exact ⟨b, off, rfl, World.block_lt_of_cell? (a := ⟨b, off + 0, none⟩) W (hc 0 hp), hc⟩

set_option maxRecDepth 100000 in
theorem open_nums {H : Type} (enc : TypeId × Value → H) (base : Nat) (W : World) {v : Value} {d : DataW H} {p : List MemPlace} (ok : Value.okWide Tryd.prog W .any base 23 v) (k : DataW.Trod enc Tryd.prog W 0 (fun _ => true) true 23 v d p) :
    ∃ (a : Option Addr) (len cap : Nat) (A : Nat → Option Addr) (L C : Nat → Nat) (Z : Nat → Nat → Int), v = .slice a len cap ∧ IsNums W a len cap A L C Z := by
  obtain ⟨a0, len0, cap0, rfl⟩ := okWide_slice Tryd.underlying23 ok
  obtain ⟨fuel, hf⟩ := k
  rcases open_int_rows Tryd.underlying23 Tryd.underlying34 Tryd.underlying35 (by kernel_rfl) (by kernel_rfl) hf with ⟨hcs, _⟩ | ⟨a, len, cap, A, L, C, Z, hcs, _, hl, hm, _, hr⟩
  · obtain ⟨rfl, rfl, rfl⟩ : a0 = none ∧ len0 = 0 ∧ cap0 = 0 := by simpa [Value.cells] using hcs
    exact ⟨none, 0, 0, fun _ => none, fun _ => 0, fun _ => 0, fun _ _ => 0, rfl, Nat.le_refl _, Nat.zero_le _, fun h => by omega, fun i hi => by omega, fun i hi => by omega, fun i hi => by omega⟩
  · obtain ⟨rfl, rfl, rfl⟩ : a0 = some a ∧ len0 = len ∧ cap0 = cap := by simpa [Value.cells] using hcs
    refine ⟨some a, len0, cap0, A, L, C, fun r c => (Z r).getD c 0, rfl, hl, hm, fun h0 => ?_, fun i hi => ⟨(hr i (by omega)).2.1, (hr i (by omega)).2.2.1⟩, fun i hi h0 => ?_, fun i hi j hj => ?_⟩
    · obtain ⟨b, off, rfl, hb, hc⟩ := vals_at (n := cap0) (V := fun r => .slice (A r) (L r) (C r)) (fun r hr' => (hr r hr').1) (by omega)
      exact ⟨b, off, rfl, hb, fun i hi => hc i (by omega)⟩
    · obtain ⟨_, r1, _, _, _, r5, r6⟩ := hr i (by omega)
      cases hA : A i with
      | none => have := r5 hA; omega
      | some a' =>
        obtain ⟨_, hc⟩ := r6 a' hA
        obtain ⟨b, off, rfl, hb, hc'⟩ := vals_at (n := C i) (V := fun c => .int .u16 ((Z i).getD c 0)) hc (by omega)
        exact ⟨b, off, rfl, hb, fun j hj => hc' j (by omega)⟩
    · obtain ⟨_, r1, _, r3, r4, _, _⟩ := hr i (by omega)
      refine wf_u16 (r4 _ ?_)
      simp only [List.getD_eq_getElem?_getD, List.getElem?_eq_getElem (show j < (Z i).length by omega)]
      exact List.getElem_mem _
end Go.Proofs.YtijnjeibnochpaaDoor.Lab
