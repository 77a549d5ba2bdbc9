/- The Go law ColorNear: what it says of its arguments as they come in. -/
import Derived.Test.YthcncghhjlaicaaColNear
import Derived.Test.YthcncghhjlaicaaColOpen
namespace Go.Proofs.Ythcncghhjlaicaa.Lab
open Go.RowKit Go.ChangeShapes Go.WideShapes Go.ChangeAt Go.Deep Go.Joins

theorem colorNear_walk {H : Type} (enc : TypeId × Value → H) (base : Nat) (W : World)
    (v0 : Value) (d0 : DataW H) (p0 : List MemPlace) (ok0 : Value.okWide Try.prog W .any base 23 v0) (k0 : DataW.Trod enc Try.prog W 0 (fun _ => true) true 23 v0 d0 p0)
    (v1 : Value) (d1 : DataW H) (p1 : List MemPlace) (ok1 : Value.okWide Try.prog W .any base 27 v1) (k1 : DataW.Trod enc Try.prog W 0 (fun _ => true) true 27 v1 d1 p1)
    (v2 : Value) (d2 : DataW H) (p2 : List MemPlace) (ok2 : Value.okWide Try.prog W .any base 5 v2) (k2 : DataW.Trod enc Try.prog W 0 (fun _ => true) true 5 v2 d2 p2) :
    Calls Try.prog 4 #[v0, v1, v2] W fun e w' => e = .returned (.bool true) ∧ Below W.heap.size W w' := by
  obtain ⟨t, rfl, hu⟩ := open_arr3 enc base W ok0 k0
  obtain ⟨a, len, cap, ps, rfl, hp⟩ := open_pal enc base W ok1 k1
  obtain ⟨q, rfl, _, _, wq⟩ := open_int Try.underlying5 ok2 k2
  obtain ⟨q0, q1⟩ := bounds_u8 wq
  obtain ⟨n, rfl⟩ := Int.eq_ofNat_of_zero_le q0
  exact colorNear_any t hu a len cap ps n (by omega) W hp
end Go.Proofs.Ythcncghhjlaicaa.Lab
