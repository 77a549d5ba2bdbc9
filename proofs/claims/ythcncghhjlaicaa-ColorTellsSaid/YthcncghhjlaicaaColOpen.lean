/- What the arguments of the statements of package color read as: an array of three numbers, a slice of such. -/
import Derived.Test.YthcncghhjlaicaaNear
import Derived.Test.YthcncghhjlaicaaResolve
import Derived.ProofKit
import Derived.OpenShut
import Derived.Deep.Slices
import Derived.Lib.SmallJoins
import Derived.Laws.IdiomArrays
namespace Go.Proofs.Ythcncghhjlaicaa.Lab
open Go.RowKit Go.ChangeShapes Go.WideShapes Go.ChangeAt Go.Deep Go.Joins

theorem block_lt {w : World} {b o : Nat} {v : Value} (h : w.cell? ⟨b, o, none⟩ = some v) : b < w.heap.size := by
  rcases Nat.lt_or_ge b w.heap.size with h1 | h1
  · exact h1
  · have : w.heap[b]? = none := by simp; omega
    simp [World.cell?, this] at h

theorem wf_u16 {n : Int} (h : (Lit.int .u16 n).wf = true) : ∃ m : Nat, n = m ∧ m < 65536 := by
  have h1 : 0 ≤ n ∧ n ≤ 65535 := by
    simp [Lit.wf, IntKind.min, IntKind.max, IntKind.bits, IntKind.signed] at h
    omega
  exact ⟨n.toNat, by omega, by omega⟩

section
variable {H : Type} (enc : TypeId × Value → H) (base : Nat) (W : World)

theorem arr_at {n : Nat} {cs : List Value} {x : DataW H × List MemPlace} (h : DataW.trod enc Try.prog W 0 (fun _ => true) true n 23 cs = some x) :
    ∃ t : V, cs = [.int .u16 t.1, .int .u16 t.2.1, .int .u16 t.2.2] ∧ U16 t := by
  have hl : cs.length = 3 := by
    obtain ⟨_, _, _, _, hl, _⟩ := DataW.trod_array Try.underlying23 h
    exact hl.trans (by kernel_rfl)
  match cs, hl with
  | [c0, c1, c2], _ =>
    obtain ⟨y0, y1, y2, m, _, h0, h1, h2⟩ := trod_array3 Try.underlying23 (by kernel_rfl) h
    obtain ⟨u, e0, _, wu⟩ := DataW.trod_int Try.underlying22 h0
    obtain ⟨s, e1, _, ws⟩ := DataW.trod_int Try.underlying22 h1
    obtain ⟨v, e2, _, wv⟩ := DataW.trod_int Try.underlying22 h2
    simp at e0 e1 e2
    subst e0 e1 e2
    obtain ⟨a, rfl, ha⟩ := wf_u16 wu
    obtain ⟨b, rfl, hb⟩ := wf_u16 ws
    obtain ⟨c, rfl, hc⟩ := wf_u16 wv
    exact ⟨(a, b, c), rfl, ha, hb, hc⟩

theorem open_arr3 {v : Value} {d : DataW H} {p : List MemPlace} (ok : Value.okWide Try.prog W .any base 23 v) (k : DataW.Trod enc Try.prog W 0 (fun _ => true) true 23 v d p) :
    ∃ t : V, v = valT t ∧ U16 t := by
  obtain ⟨cs, rfl, _⟩ : ∃ cs, v = .agg cs ∧ cs.size = Try.prog.cellsOf 23 := by
    simp only [Value.okWide, Try.underlying23] at ok
    obtain ⟨cs, h1, h2, _⟩ := ok
    exact ⟨cs, h1, h2⟩
  obtain ⟨fuel, hf⟩ := k
  obtain ⟨t, ht, hu⟩ := arr_at enc W hf
  refine ⟨t, ?_, hu⟩
  simp [Value.cells] at ht
  rw [show cs = cs.toList.toArray from (Array.toArray_toList).symm, ht]

theorem open_pal {v : Value} {d : DataW H} {p : List MemPlace} (ok : Value.okWide Try.prog W .any base 27 v) (k : DataW.Trod enc Try.prog W 0 (fun _ => true) true 27 v d p) :
    ∃ (a : Option Addr) (len cap : Nat) (ps : List V), v = .slice a len cap ∧ PalS W a len ps := by
  obtain ⟨a0, len0, cap0, rfl⟩ := okWide_slice Try.underlying27 ok
  obtain ⟨fuel, hf⟩ := k
  rcases open_slice Try.underlying27 hf with ⟨hcs, _⟩ | ⟨x, len, cap, m, n, D, Pl, hcs, _, hl, hm, hmm, _, hx⟩
  · simp [Value.cells] at hcs
    obtain ⟨rfl, rfl, rfl⟩ := hcs
    exact ⟨none, 0, 0, [], rfl, .inl ⟨rfl, rfl⟩⟩
  · simp [Value.cells] at hcs
    obtain ⟨rfl, rfl, rfl⟩ := hcs
    simp at hmm
    subst hmm
    have q35 : Try.prog.cellsOf 23 = 3 := by kernel_rfl
    rw [q35] at hx
    by_cases h0 : len0 = 0
    · subst h0
      exact ⟨some x, 0, m, [], rfl, .inl ⟨rfl, rfl⟩⟩
    · have hall : ∀ i, i < m → ∃ t : V, (W.cell? (x.add (i * 3)) = some (.int .u16 t.1) ∧ W.cell? ((x.add (i * 3)).add 1) = some (.int .u16 t.2.1) ∧ W.cell? ((x.add (i * 3)).add 2) = some (.int .u16 t.2.2)) ∧ U16 t := by
        intro i hi
        obtain ⟨cs', h1, h2⟩ := hx i hi
        obtain ⟨t, rfl, hu⟩ := arr_at enc W h2
        obtain ⟨_, _, hc⟩ := World.cells?_some h1
        refine ⟨t, ⟨?_, ?_, ?_⟩, hu⟩
        · simpa [Addr.add] using hc 0 (by omega)
        · exact hc 1 (by omega)
        · exact hc 2 (by omega)
      obtain ⟨T, hT⟩ := choose_lt (p := fun i (t : V) => (W.cell? (x.add (i * 3)) = some (.int .u16 t.1) ∧ W.cell? ((x.add (i * 3)).add 1) = some (.int .u16 t.2.1) ∧ W.cell? ((x.add (i * 3)).add 2) = some (.int .u16 t.2.2)) ∧ U16 t) hall
      refine ⟨some x, len0, m, (List.range len0).map T, rfl, .inr ?_⟩
      obtain ⟨b, off, spot⟩ := x
      have hspot : spot = none := by simpa [Addr.add] using World.cell?_spot (hT 0 (by omega)).1.1
      subst hspot
      have hc := fun i (hi : i < m) => (hT i hi).1
      simp only [add_plain] at hc
      refine ⟨b, off, rfl, block_lt (hc 0 (by omega)).1, by omega, by simp, fun i hi => ?_⟩
      have e : ((List.range len0).map T)[i]?.getD (0, 0, 0) = T i := by
        rw [List.getElem?_map, List.getElem?_range hi]
        rfl
      rw [e]
      exact ⟨(hT i (by omega)).2, hc i (by omega)⟩
end
end Go.Proofs.Ythcncghhjlaicaa.Lab
