/- The Go law WidthAdds: what it says of its arguments as they come in. -/
import Derived.Test.YtegkoncpoghbfaaDoorWiAdds
import Derived.Test.YtegkoncpoghbfaaDoorWiLaid
import Derived.ProofKit
import Derived.OpenShut
import Derived.Deep.Slices
import Derived.Lib.SmallJoins
import Derived.ChangeMaps5
namespace Go.Proofs.YtegkoncpoghbfaaDoor.Lab
open Go Go.RowKit Go.ChangeShapes Go.WideShapes Go.ChangeAt Go.Deep Go.Joins Go.ChangeMaps Go.Lib

theorem wf_rune {n : Int} (h : (Lit.int .i32 n).wf = true) : RuneB n := by
  simp [Lit.wf, IntKind.min, IntKind.max, IntKind.bits, IntKind.signed] at h
  unfold RuneB
  omega

theorem spot_none {w : World} {a : Addr} {v : Value} (h : w.cell? a = some v) : a = ⟨a.block, a.off, none⟩ := by
  obtain ⟨b, o, sp⟩ := a
  have := cell_spot h
  subst this
  rfl

theorem open_runes {H : Type} (enc : TypeId × Value → H) (base : Nat) (W : World) {v : Value} {d : DataW H} {p : List MemPlace} (ok : Value.okWide Tryd.prog W .any base 32 v) (k : DataW.Trod enc Tryd.prog W 0 (fun _ => true) true 32 v d p) :
    ∃ (a : Option Addr) (n cap : Nat) (ns : List Int), v = .slice a n cap ∧ RunesAt W a n ns ∧ RunesB ns ∧ (a = none → n = 0 ∧ cap = 0) ∧ n ≤ cap ∧ cap ≤ maxLen := by
  obtain ⟨a0, len0, cap0, rfl⟩ := okWide_slice Tryd.underlying32 ok
  obtain ⟨fuel, hf⟩ := k
  rcases open_ints Tryd.underlying32 Tryd.underlying21 (by kernel_rfl) hf with ⟨hcs, _⟩ | ⟨a, len, cap, zs, hcs, _, hl, hm, hz, _, hcell, hwf⟩
  · obtain ⟨rfl, rfl, rfl⟩ : a0 = none ∧ len0 = 0 ∧ cap0 = 0 := by simpa [Value.cells] using hcs
    exact ⟨none, 0, 0, [], rfl, ⟨rfl, .inl rfl⟩, fun r hr => by simp at hr, fun _ => ⟨rfl, rfl⟩, Nat.le_refl _, Nat.zero_le _⟩
  · obtain ⟨rfl, rfl, rfl⟩ : a0 = some a ∧ len0 = len ∧ cap0 = cap := by simpa [Value.cells] using hcs
    have hzl : zs.length = cap0 := by simpa using hz
    refine ⟨some a, len0, cap0, zs.take len0, rfl, ⟨by rw [List.length_take]; omega, ?_⟩, fun r hr => wf_rune (hwf r (List.mem_of_mem_take hr)), (fun h => by cases h), hl, hm⟩
    by_cases h0 : len0 = 0
    · exact .inl h0
    · right
      have c0 := hcell 0 (by omega)
      have ea : a.add 0 = a := by simp [Addr.add]
      rw [ea] at c0
      have es := spot_none c0
      refine ⟨a.block, a.off, by rw [← es], World.block_lt_of_cell? W a c0, fun i hi => ?_⟩
      have := hcell i (by omega)
      rw [es, Addr.add_mid] at this
      rw [this]
      simp [List.getD, hi]

theorem widthAdds_walk {H : Type} (enc : TypeId × Value → H) (base : Nat) (W : World) (hT : Tabs W)
    (v0 : Value) (d0 : DataW H) (p0 : List MemPlace) (ok0 : Value.okWide Tryd.prog W .any base 32 v0) (k0 : DataW.Trod enc Tryd.prog W 0 (fun _ => true) true 32 v0 d0 p0)
    (v1 : Value) (d1 : DataW H) (p1 : List MemPlace) (ok1 : Value.okWide Tryd.prog W .any base 32 v1) (k1 : DataW.Trod enc Tryd.prog W 0 (fun _ => true) true 32 v1 d1 p1) :
    Calls Tryd.prog 4 #[v0, v1] W fun e w' => e = .returned (.bool true) ∧ Below W.heap.size W w' := by
  obtain ⟨a1, n1, c1, ls, rfl, r1, b1, q1, y1, z1⟩ := open_runes enc base W ok0 k0
  obtain ⟨a2, n2, c2, ms, rfl, r2, b2, q2, y2, z2⟩ := open_runes enc base W ok1 k1
  exact widthAdds_any a1 a2 n1 n2 c1 c2 ls ms b1 b2 W hT r1 r2 q1 q2 ⟨y1, z1⟩ ⟨y2, z2⟩
end Go.Proofs.YtegkoncpoghbfaaDoor.Lab
