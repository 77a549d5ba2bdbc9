/- The Go law ColorPalette: what it says of its arguments as they come in. -/
import Derived.Test.YtbjpaofmkofmbaaColPal
import Derived.Test.YtbjpaofmkofmbaaColOpen
namespace Go.Proofs.Ytbjpaofmkofmbaa.Lab
open Go.RowKit Go.ChangeShapes Go.WideShapes Go.ChangeAt Go.Deep Go.Joins

theorem wf_u8 {n : Int} (h : (Lit.int .u8 n).wf = true) : ∃ m : Nat, n = m ∧ m < 256 := by
  have h1 : 0 ≤ n ∧ n ≤ 255 := by
    simp [Lit.wf, IntKind.min, IntKind.max, IntKind.bits, IntKind.signed] at h
    omega
  exact ⟨n.toNat, by omega, by omega⟩

section
variable {H : Type} (enc : TypeId × Value → H) (base : Nat) (W : World)

theorem arr8_at {n : Nat} {cs : List Value} {x : DataW H × List MemPlace} (h : DataW.trod enc Try.prog W 0 (fun _ => true) true n 52 cs = some x) :
    ∃ t : V, cs = [.int .u8 t.1, .int .u8 t.2.1, .int .u8 t.2.2] ∧ t.1 < 256 ∧ t.2.1 < 256 ∧ t.2.2 < 256 := by
  have hl : cs.length = 3 := by
    obtain ⟨_, _, _, _, hl, _⟩ := DataW.trod_array Try.underlying52 h
    exact hl.trans (by kernel_rfl)
  match cs, hl with
  | [c0, c1, c2], _ =>
    obtain ⟨y0, y1, y2, m, _, h0, h1, h2⟩ := trod_array3 Try.underlying52 (by kernel_rfl) h
    obtain ⟨u, e0, _, wu⟩ := DataW.trod_int Try.underlying5 h0
    obtain ⟨s, e1, _, ws⟩ := DataW.trod_int Try.underlying5 h1
    obtain ⟨v, e2, _, wv⟩ := DataW.trod_int Try.underlying5 h2
    simp at e0 e1 e2
    subst e0 e1 e2
    obtain ⟨a, rfl, ha⟩ := wf_u8 wu
    obtain ⟨b, rfl, hb⟩ := wf_u8 ws
    obtain ⟨c, rfl, hc⟩ := wf_u8 wv
    exact ⟨(a, b, c), rfl, ha, hb, hc⟩

theorem open_arr8 {v : Value} {d : DataW H} {p : List MemPlace} (ok : Value.okWide Try.prog W .any base 52 v) (k : DataW.Trod enc Try.prog W 0 (fun _ => true) true 52 v d p) :
    ∃ t : V, v = .agg #[.int .u8 t.1, .int .u8 t.2.1, .int .u8 t.2.2] ∧ t.1 < 256 ∧ t.2.1 < 256 ∧ t.2.2 < 256 := by
  obtain ⟨cs, rfl, _⟩ : ∃ cs, v = .agg cs ∧ cs.size = Try.prog.cellsOf 52 := by
    simp only [Value.okWide, Try.underlying52] at ok
    obtain ⟨cs, h1, h2, _⟩ := ok
    exact ⟨cs, h1, h2⟩
  obtain ⟨fuel, hf⟩ := k
  obtain ⟨t, ht, hu⟩ := arr8_at enc W hf
  refine ⟨t, ?_, hu⟩
  simp [Value.cells] at ht
  rw [show cs = cs.toList.toArray from (Array.toArray_toList).symm, ht]
end

theorem colorPalette_walk {H : Type} (enc : TypeId × Value → H) (base : Nat) (W : World)
    (v0 : Value) (d0 : DataW H) (p0 : List MemPlace) (ok0 : Value.okWide Try.prog W .any base 5 v0) (k0 : DataW.Trod enc Try.prog W 0 (fun _ => true) true 5 v0 d0 p0)
    (v1 : Value) (d1 : DataW H) (p1 : List MemPlace) (ok1 : Value.okWide Try.prog W .any base 5 v1) (k1 : DataW.Trod enc Try.prog W 0 (fun _ => true) true 5 v1 d1 p1)
    (v2 : Value) (d2 : DataW H) (p2 : List MemPlace) (ok2 : Value.okWide Try.prog W .any base 52 v2) (k2 : DataW.Trod enc Try.prog W 0 (fun _ => true) true 52 v2 d2 p2) :
    Calls Try.prog 5 #[v0, v1, v2] W fun e w' => e = .returned (.bool true) ∧ Below W.heap.size W w' := by
  obtain ⟨a, rfl, _, _, wa⟩ := open_int Try.underlying5 ok0 k0
  obtain ⟨b, rfl, _, _, wb⟩ := open_int Try.underlying5 ok1 k1
  obtain ⟨t, rfl, t0, t1, t2⟩ := open_arr8 enc base W ok2 k2
  obtain ⟨a0, a1⟩ := bounds_u8 wa
  obtain ⟨b0, b1⟩ := bounds_u8 wb
  obtain ⟨n, rfl⟩ := Int.eq_ofNat_of_zero_le a0
  obtain ⟨m, rfl⟩ := Int.eq_ofNat_of_zero_le b0
  exact colorPalette_any n m (by omega) (by omega) t t0 t1 t2 W
end Go.Proofs.Ytbjpaofmkofmbaa.Lab
