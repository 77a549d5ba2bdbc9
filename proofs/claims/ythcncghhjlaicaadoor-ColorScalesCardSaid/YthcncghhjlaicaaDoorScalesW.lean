/- The Go law ColorScales: what it says of its arguments as they come in. -/
import Derived.Test.YthcncghhjlaicaaDoorScales
import Derived.ProofKit
import Derived.OpenShut
namespace Go.Proofs.YthcncghhjlaicaaDoor.Lab
open Go.RowKit Go.ChangeShapes Go.WideShapes Go.ChangeAt

theorem wf_u16 {n : Int} (h : (Lit.int .u16 n).wf = true) : ∃ m : Nat, n = m ∧ m < 65536 := by
  have h1 : 0 ≤ n ∧ n ≤ 65535 := by
    simp [Lit.wf, IntKind.min, IntKind.max, IntKind.bits, IntKind.signed] at h
    omega
  exact ⟨n.toNat, by omega, by omega⟩

set_option maxRecDepth 100000 in
theorem colorScales_walk {H : Type} (enc : TypeId × Value → H) (base : Nat) (W : World)
    (v0 : Value) (d0 : DataW H) (p0 : List MemPlace) (ok0 : Value.okWide Tryd.prog W .any base 22 v0) (k0 : DataW.Trod enc Tryd.prog W 0 (fun _ => true) true 22 v0 d0 p0)
    (v1 : Value) (d1 : DataW H) (p1 : List MemPlace) (ok1 : Value.okWide Tryd.prog W .any base 22 v1) (k1 : DataW.Trod enc Tryd.prog W 0 (fun _ => true) true 22 v1 d1 p1) :
    Calls Tryd.prog 4 #[v0, v1] W fun e w' => e = .returned (.bool true) ∧ Below W.heap.size W w' := by
  obtain ⟨a, rfl, _, _, wa⟩ := open_int Tryd.underlying22 ok0 k0
  obtain ⟨b, rfl, _, _, wb⟩ := open_int Tryd.underlying22 ok1 k1
  obtain ⟨n, rfl, hn⟩ := wf_u16 wa
  obtain ⟨m, rfl, hm⟩ := wf_u16 wb
  exact colorScales_any n m hn hm W
end Go.Proofs.YthcncghhjlaicaaDoor.Lab
