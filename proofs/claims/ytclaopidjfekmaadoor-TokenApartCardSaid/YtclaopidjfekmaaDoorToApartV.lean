/- The Go law TokenApart: what it says of its arguments as they come in, and of the table that its row lists. -/
import Derived.Test.YtclaopidjfekmaaDoorToApart
namespace Go.Proofs.YtclaopidjfekmaaDoor.Lab
open Go Go.RowKit Go.ChangeShapes

theorem tokenApart_laid {W : World} (h : laidMet Tryd.prog Rows.tokenApartRow.laid W) : Pow W :=
  pow_of h (List.Mem.tail _ (List.Mem.tail _ (List.Mem.head _)))

set_option maxRecDepth 100000 in
theorem tokenApart_walk {H : Type} (enc : TypeId × Value → H) (base : Nat) (W : World) (hP : Pow W)
    (v0 : Value) (d0 : DataW H) (p0 : List MemPlace) (ok0 : Value.okWide Tryd.prog W .any base 23 v0) (k0 : DataW.Trod enc Tryd.prog W 0 (fun _ => true) true 23 v0 d0 p0)
    (v1 : Value) (d1 : DataW H) (p1 : List MemPlace) (ok1 : Value.okWide Tryd.prog W .any base 5 v1) (k1 : DataW.Trod enc Tryd.prog W 0 (fun _ => true) true 5 v1 d1 p1)
    (v2 : Value) (d2 : DataW H) (p2 : List MemPlace) (ok2 : Value.okWide Tryd.prog W .any base 41 v2) (k2 : DataW.Trod enc Tryd.prog W 0 (fun _ => true) true 41 v2 d2 p2) :
    Calls Tryd.prog 4 #[v0, v1, v2] W fun e w' => e = .returned (.bool true) ∧ Below W.heap.size W w' := by
  obtain ⟨a, len, cap, T, rfl, hD⟩ := open_drafts enc W base ok0 k0
  obtain ⟨q, e1, _, _, w1⟩ := open_int Tryd.underlying5 ok1 k1
  subst e1
  obtain ⟨K, p, r, f, PP, I, d, h⟩ := open_draft enc W base ok2 k2
  exact apart_law a len cap T q v2 K p r f PP I d W hD (wf_u8 w1) h hP
end Go.Proofs.YtclaopidjfekmaaDoor.Lab
