/- The Go law ColorBack: what it says of its argument as it comes in. -/
import Derived.Test.YthcncghhjlaicaaDoorBack
import Derived.ProofKit
import Derived.OpenShut
import Derived.Lib.SmallJoins
import Derived.Laws.IdiomArrays
namespace Go.Proofs.YthcncghhjlaicaaDoor.Lab
open Go.RowKit Go.ChangeShapes Go.WideShapes Go.ChangeAt Go.Joins

theorem wf_part {n : Int} (h : (Lit.int .u16 n).wf = true) : ∃ m : Nat, n = m ∧ m < 65536 := by
  have h1 : 0 ≤ n ∧ n ≤ 65535 := by
    simp [Lit.wf, IntKind.min, IntKind.max, IntKind.bits, IntKind.signed] at h
    omega
  exact ⟨n.toNat, by omega, by omega⟩

section
variable {H : Type} (enc : TypeId × Value → H) (base : Nat) (W : World)

theorem parts_at {n : Nat} {cs : List Value} {x : DataW H × List MemPlace} (h : DataW.trod enc Tryd.prog W 0 (fun _ => true) true n 23 cs = some x) :
    ∃ a b c : Nat, cs = [.int .u16 a, .int .u16 b, .int .u16 c] ∧ a < 65536 ∧ b < 65536 ∧ c < 65536 := by
  have hl : cs.length = 3 := by
    obtain ⟨_, _, _, _, hl, _⟩ := DataW.trod_array Tryd.underlying23 h
    exact hl.trans (by kernel_rfl)
  match cs, hl with
  | [c0, c1, c2], _ =>
    obtain ⟨y0, y1, y2, m, _, h0, h1, h2⟩ := trod_array3 Tryd.underlying23 (by kernel_rfl) h
    obtain ⟨u, e0, _, wu⟩ := DataW.trod_int Tryd.underlying22 h0
    obtain ⟨s, e1, _, ws⟩ := DataW.trod_int Tryd.underlying22 h1
    obtain ⟨v, e2, _, wv⟩ := DataW.trod_int Tryd.underlying22 h2
    simp at e0 e1 e2
    subst e0 e1 e2
    obtain ⟨a, rfl, ha⟩ := wf_part wu
    obtain ⟨b, rfl, hb⟩ := wf_part ws
    obtain ⟨c, rfl, hc⟩ := wf_part wv
    exact ⟨a, b, c, rfl, ha, hb, hc⟩

set_option maxRecDepth 100000 in
theorem open_parts {v : Value} {d : DataW H} {p : List MemPlace} (ok : Value.okWide Tryd.prog W .any base 23 v) (k : DataW.Trod enc Tryd.prog W 0 (fun _ => true) true 23 v d p) :
    ∃ a b c : Nat, v = val a b c ∧ a < 65536 ∧ b < 65536 ∧ c < 65536 := by
  obtain ⟨cs, rfl, _⟩ : ∃ cs, v = .agg cs ∧ cs.size = Tryd.prog.cellsOf 23 := by
    simp only [Value.okWide, Tryd.underlying23] at ok
    obtain ⟨cs, h1, h2, _⟩ := ok
    exact ⟨cs, h1, h2⟩
  obtain ⟨fuel, hf⟩ := k
  obtain ⟨a, b, c, ht, hu⟩ := parts_at enc W hf
  refine ⟨a, b, c, ?_, hu⟩
  simp [Value.cells] at ht
  rw [show cs = cs.toList.toArray from (Array.toArray_toList).symm, ht]
end

set_option maxRecDepth 100000 in
theorem colorBack_walk {H : Type} (enc : TypeId × Value → H) (base : Nat) (W : World)
    (v0 : Value) (d0 : DataW H) (p0 : List MemPlace) (ok0 : Value.okWide Tryd.prog W .any base 23 v0) (k0 : DataW.Trod enc Tryd.prog W 0 (fun _ => true) true 23 v0 d0 p0) :
    Calls Tryd.prog 3 #[v0] W fun e w' => e = .returned (.bool true) ∧ Below W.heap.size W w' := by
  obtain ⟨a, b, c, rfl, ha, hb, hc⟩ := open_parts enc base W ok0 k0
  exact colorBack_any a b c ha hb hc W
end Go.Proofs.YthcncghhjlaicaaDoor.Lab
