/- The project's Sum, whole. -/
import Derived.Test.YtlaafmjiiiaceaaDoorRcSum
import Derived.Test.YtlaafmjiiiaceaaDoorRcLevel
set_option linter.unusedVariables false
namespace Go.Proofs.YtlaafmjiiiaceaaDoor.Lab
open Go Go.RowKit

theorem levA_one (G : List Cls) (m : Nat) (r : R4) : b01 (levA G m [r]) = levK G (clipM r G.length m) := by
  unfold levA levK b01
  simp
theorem suml_any (w : World) (v : Value) (G : List Cls) (U : Nat → Value) (m : Nat) (r : R4) (h : GSee w v G U) (hg : GG G m) (hr : r.Ok) :
    Calls Tryd.prog 15 #[v, r4V r] w fun x w' => x = .returned (.tuple #[.int .u16 (sumK G (clipM r G.length m)), .int .u8 (levK G (clipM r G.length m))]) ∧ Below w.heap.size w w' := by
  refine sum12_any w v G U m r h hg hr fun wx hb s c0 c1 c2 c3 => ?_
  have hs : s < wx.heap.size := by
    obtain ⟨o, ho, _⟩ := cells_of_cell c0
    exact (Array.getElem?_eq_some_iff.1 ho).1
  have := level12_any wx v G U m (some ⟨s, 0, none⟩) 1 1 [r] (h.below hb) hg (fun j hj => by
    obtain rfl : j = 0 := by simpa using hj
    exact ⟨s, 0, rfl, hs, ⟨c0, c1, c2, c3⟩, hr⟩) rfl (Nat.le_refl _) (by omega)
  rwa [levA_one] at this
end Go.Proofs.YtlaafmjiiiaceaaDoor.Lab
