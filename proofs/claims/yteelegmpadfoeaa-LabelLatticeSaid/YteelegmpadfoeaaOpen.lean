/- What the arguments of the statements read as: a slice of levels, of numbers, of acts, of texts; a labelled text. -/
import Derived.Test.YteelegmpadfoeaaWorks
import Derived.ProofKit
import Derived.OpenShut
import Derived.Deep.Slices
import Derived.Lib.SmallJoins
namespace Go.Proofs.Yteelegmpadfoeaa.Lab
open Go.RowKit Go.ChangeShapes Go.WideShapes Go.ChangeAt

section
variable {H : Type} (enc : TypeId × Value → H) (base : Nat) (W : World)

/-- WHAT A SLICE OF NUMBERS THAT CAME IN IS: its length, its room, its elements. -/
def IsNums (W : World) (k : IntKind) (a : Option Addr) (len cap : Nat) (xs : List Int) : Prop :=
  len ≤ cap ∧ cap ≤ maxLen ∧ xs.length = len ∧ (a = none → cap = 0) ∧ (∀ n ∈ xs, (Lit.int k n).wf = true) ∧
      (0 < len → ∃ b off, a = some ⟨b, off, none⟩ ∧ b < W.heap.size ∧ ∀ i, i < len → W.cell? ⟨b, off + i, none⟩ = some (.int k (xs[i]?.getD 0)))

theorem block_lt {w : World} {b o : Nat} {v : Value} (h : w.cell? ⟨b, o, none⟩ = some v) : b < w.heap.size := by
  rcases Nat.lt_or_ge b w.heap.size with h1 | h1
  · exact h1
  · have : w.heap[b]? = none := by simp; omega
    simp [World.cell?, this] at h

theorem open_u8s {t e : TypeId} (ht : Try.prog.underlying t = some (.slice e)) (he : Try.prog.underlying e = some (.int .u8)) (hc1 : Try.prog.cellsOf e = 1) {v : Value} {d : DataW H} {p : List MemPlace} (ok : Value.okWide Try.prog W .any base t v) (k : DataW.Trod enc Try.prog W 0 (fun _ => true) true t v d p) :
    ∃ (a : Option Addr) (len cap : Nat) (xs : List Int), v = .slice a len cap ∧ IsNums W .u8 a len cap xs := by
  obtain ⟨a0, len0, cap0, rfl⟩ := okWide_slice ht ok
  obtain ⟨fuel, hf⟩ := k
  rcases open_ints ht he hc1 hf with ⟨hcs, _⟩ | ⟨x, l, c, zs, hcs, _, hl, hm, hz, _, hcell, hwz⟩
  · simp [Value.cells] at hcs
    obtain ⟨rfl, rfl, rfl⟩ := hcs
    exact ⟨none, 0, 0, [], rfl, Nat.le_refl _, by unfold maxLen; omega, rfl, fun _ => rfl, (fun n h => by cases h), fun h => by omega⟩
  · simp [Value.cells] at hcs
    obtain ⟨rfl, rfl, rfl⟩ := hcs
    have hz' : zs.length = cap0 := by simpa using hz
    refine ⟨some x, len0, cap0, zs.take len0, rfl, hl, hm, by simp; omega, (fun h => by cases h), (fun n hn => hwz n (List.mem_of_mem_take hn)), fun h0 => ?_⟩
    obtain ⟨b, off, rfl, hc⟩ := ints_at hcell (by omega)
    refine ⟨b, off, rfl, block_lt (hc 0 (by omega)), fun i hi => ?_⟩
    have hci := hc i (by omega)
    rw [List.getElem?_take_of_lt hi]
    simpa [List.getD] using hci
end
end Go.Proofs.Yteelegmpadfoeaa.Lab
