/- TabsSets. -/
import Derived.Test.YtmdpdogjpdkanaaTbSets
set_option linter.unusedVariables false
namespace Go.Proofs.Ytmdpdogjpdkanaa.Lab
open Go Go.RowKit Go.ChangeShapes Go.WideShapes

set_option maxRecDepth 100000 in
theorem tabsSets_walk {H : Type} (enc : TypeId × Value → H) (base : Nat) (W : World)
    (v0 : Value) (d0 : DataW H) (p0 : List MemPlace) (ok0 : Value.okWide Try.prog W .any base 50 v0) (k0 : DataW.Trod enc Try.prog W 0 (fun _ => true) true 50 v0 d0 p0)
    (v1 : Value) (d1 : DataW H) (p1 : List MemPlace) (ok1 : Value.okWide Try.prog W .any base 23 v1) (k1 : DataW.Trod enc Try.prog W 0 (fun _ => true) true 23 v1 d1 p1)
    (v2 : Value) (d2 : DataW H) (p2 : List MemPlace) (ok2 : Value.okWide Try.prog W .any base 37 v2) (k2 : DataW.Trod enc Try.prog W 0 (fun _ => true) true 37 v2 d2 p2) :
    Calls Try.prog 6 #[v0, v1, v2] W fun e w' => e = .returned (.bool true) ∧ Below W.heap.size W w' := by
  obtain ⟨n, rfl, hn⟩ := open_u16 enc base W k0 ok0
  obtain ⟨AL, hA⟩ := open_acs enc base W ok1 k1
  obtain ⟨la, lc, rfl⟩ := hA.shape
  obtain ⟨X, u, rfl, hs, hX⟩ := open_ac enc base W ok2 k2
  exact sets_core n hn la _ lc AL X u W hs hX hA
end Go.Proofs.Ytmdpdogjpdkanaa.Lab
