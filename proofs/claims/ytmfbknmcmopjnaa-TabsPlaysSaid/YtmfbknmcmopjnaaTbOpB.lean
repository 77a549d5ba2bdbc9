/- A truth that is given. -/
import Derived.Test.YtmfbknmcmopjnaaTbOpen
set_option linter.unusedVariables false
namespace Go.Proofs.Ytmfbknmcmopjnaa.Lab
open Go Go.RowKit Go.ChangeShapes Go.WideShapes

theorem open_b {H : Type} (enc : TypeId × Value → H) (base : Nat) (W : World) {v : Value} {d : DataW H} {p : List MemPlace} (ok : Value.okWide Try.prog W .any base 4 v) (k : DataW.Trod enc Try.prog W 0 (fun _ => true) true 4 v d p) : ∃ b : Bool, v = .bool b := by
  have h := open_bool Try.underlying4 ok k
  obtain ⟨b, rfl, _⟩ := h
  exact ⟨b, rfl⟩
end Go.Proofs.Ytmfbknmcmopjnaa.Lab
