/- The Go law WidthRanges: what it says of its argument as it comes in. -/
import Derived.Test.YtegkoncpoghbfaaDoorWiRanges
import Derived.Test.YtegkoncpoghbfaaDoorWiLaid
import Derived.ProofKit
import Derived.OpenShut
namespace Go.Proofs.YtegkoncpoghbfaaDoor.Lab
open Go.RowKit Go.ChangeShapes Go.WideShapes Go.ChangeAt

theorem wf_u32 {n : Int} (h : (Lit.int .u32 n).wf = true) : 0 ≤ n ∧ n ≤ 4294967295 := by
  simp [Lit.wf, IntKind.min, IntKind.max, IntKind.bits, IntKind.signed] at h
  omega

theorem widthRanges_walk {H : Type} (enc : TypeId × Value → H) (base : Nat) (W : World) (hT : Tabs W)
    (v0 : Value) (d0 : DataW H) (p0 : List MemPlace) (ok0 : Value.okWide Tryd.prog W .any base 36 v0) (k0 : DataW.Trod enc Tryd.prog W 0 (fun _ => true) true 36 v0 d0 p0) :
    Calls Tryd.prog 5 #[v0] W fun e w' => e = .returned (.bool true) ∧ Below W.heap.size W w' := by
  obtain ⟨n, rfl, _, _, wn⟩ := open_int Tryd.underlying36 ok0 k0
  obtain ⟨n0, n1⟩ := wf_u32 wn
  exact widthRanges_any n n0 n1 hT
end Go.Proofs.YtegkoncpoghbfaaDoor.Lab
