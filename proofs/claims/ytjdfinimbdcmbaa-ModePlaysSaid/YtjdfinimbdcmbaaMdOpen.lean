/- What the arguments of the statements of package mode read as: modes, acts. -/
import Derived.Test.YtjdfinimbdcmbaaMdAll
import Derived.ProofKit
import Derived.OpenShut
import Derived.Deep.Slices
import Derived.Deep.Matrix
import Derived.Lib.SmallJoins
import Derived.Laws.IdiomArrays
set_option linter.unusedVariables false
namespace Go.Proofs.Ytjdfinimbdcmbaa.Lab
open Go Go.RowKit Go.ChangeShapes Go.WideShapes Go.Deep Go.Lib Go.Joins

theorem n_u8 {n : Int} (h : (Lit.int .u8 n).wf = true) : ∃ m : Nat, n = m ∧ m < 256 := by
  have h1 : 0 ≤ n ∧ n ≤ 255 := by
    simp [Lit.wf, IntKind.min, IntKind.max, IntKind.bits, IntKind.signed] at h
    omega
  exact ⟨n.toNat, by omega, by omega⟩
theorem i_i64 {n : Int} (h : (Lit.int .i64 n).wf = true) : -9223372036854775808 ≤ n ∧ n ≤ 9223372036854775807 := by
  simp [Lit.wf, IntKind.min, IntKind.max, IntKind.bits, IntKind.signed] at h
  omega
/-- Modes as they come in. -/
def MosIn (w : World) (v : Value) (l : List Mo) : Prop := MoIn w v l ∧ ∀ x ∈ l, wfM x
theorem MosIn.below {w w' : World} {v : Value} {l : List Mo} (h : MosIn w v l) (k : Below w.heap.size w w') : MosIn w' v l := ⟨h.1.below k, h.2⟩
structure Ac where
  what : Nat
  l : List Mo
instance : Inhabited Ac := ⟨⟨0, []⟩⟩
/-- Acts as they come in. -/
def AcsIn (w : World) (v : Value) (AL : List Ac) : Prop :=
  ∃ a c, v = .slice a AL.length c ∧ AL.length ≤ maxLen ∧ (0 < AL.length → ∃ g o, a = some ⟨g, o, none⟩ ∧ g < w.heap.size ∧ ∀ i, (hi : i < AL.length) → w.cell? ⟨g, o + i * 2, none⟩ = some (.int .u8 (AL[i].what : Nat)) ∧ (∃ u, w.cell? ⟨g, o + i * 2 + 1, none⟩ = some u ∧ MosIn w u AL[i].l) ∧ AL[i].what < 256)
theorem AcsIn.below {w w' : World} {v : Value} {LL : List Ac} (h : AcsIn w v LL) (k : Below w.heap.size w w') : AcsIn w' v LL := by
  obtain ⟨a, c, e, hm, h⟩ := h
  refine ⟨a, c, e, hm, fun h0 => ?_⟩
  obtain ⟨g, o, ea, hg, hC⟩ := h h0
  refine ⟨g, o, ea, Nat.lt_of_lt_of_le hg k.size, fun i hi => ?_⟩
  obtain ⟨h1, ⟨u, h3, h4⟩, h6⟩ := hC i hi
  exact ⟨(k.cell (p := ⟨g, o + i * 2, none⟩) hg).trans h1, ⟨u, (k.cell (p := ⟨g, o + i * 2 + 1, none⟩) hg).trans h3, h4.below k⟩, h6⟩
theorem AcsIn.shape {w : World} {v : Value} {LL : List Ac} (h : AcsIn w v LL) : ∃ a c, v = .slice a LL.length c := by
  obtain ⟨a, c, e, _⟩ := h
  exact ⟨a, c, e⟩
theorem AcsIn.maxl {w : World} {v : Value} {LL : List Ac} (h : AcsIn w v LL) : LL.length ≤ maxLen := by
  obtain ⟨a, c, e, hm, _⟩ := h
  exact hm
def AcK (LL : List Ac) (i : Nat) : Ac := LL.getD i default
theorem AcK_eq {LL : List Ac} {i : Nat} (h : i < LL.length) : AcK LL i = LL[i] := by
  unfold AcK
  rw [List.getD_eq_getElem?_getD, List.getElem?_eq_getElem h]
  rfl
theorem AcsIn.at {w : World} {a : Option Addr} {n c : Nat} {LL : List Ac} (h : AcsIn w (.slice a n c) LL) {i : Nat} (hi : i < LL.length) : ∃ g o u, a = some ⟨g, o, none⟩ ∧ w.cell? ⟨g, o + i * 2, none⟩ = some (.int .u8 ((AcK LL i).what : Nat)) ∧ w.cell? ⟨g, o + i * 2 + 1, none⟩ = some u ∧ MosIn w u (AcK LL i).l ∧ (AcK LL i).what < 256 := by
  obtain ⟨a', c', e, _, h⟩ := h
  injection e with e1 _ _
  subst e1
  obtain ⟨g, o, ea, hg, hC⟩ := h (by omega)
  obtain ⟨h1, ⟨u, h3, h4⟩, h6⟩ := hC i hi
  rw [AcK_eq hi]
  exact ⟨g, o, u, ea, h1, h3, h4, h6⟩
section
variable {H : Type} (enc : TypeId × Value → H) (base : Nat) (W : World)
set_option maxRecDepth 100000 in
theorem mo_at {n : Nat} {cs : List Value} {x : DataW H × List MemPlace} (h : DataW.trod enc Try.prog W 0 (fun _ => true) true n 24 cs = some x) : ∃ y : Mo, cs = [.bool y.1, .int .i64 y.2] ∧ wfM y := by
  obtain ⟨xs, m, _, _, hl, hlen, hq⟩ := DataW.trod_struct Try.underlying24 h
  match cs, hl.trans (show Try.prog.cellsOf 24 = 2 by kernel_rfl), xs, hlen with
  | [c0, c1], _, [y0, y1], _ =>
    have q0 : Try.prog.cellsOf 4 = 1 := by kernel_rfl
    have h0 : DataW.trod enc Try.prog W 0 (fun _ => true) true m 4 (([c0, c1].drop 0).take (Try.prog.cellsOf 4)) = some y0 := hq 0 _ rfl
    rw [q0] at h0
    replace h0 : DataW.trod enc Try.prog W 0 (fun _ => true) true m 4 [c0] = some y0 := h0
    have q1 : Try.prog.cellsOf 3 = 1 := by kernel_rfl
    have h1 : DataW.trod enc Try.prog W 0 (fun _ => true) true m 3 (([c0, c1].drop 1).take (Try.prog.cellsOf 3)) = some y1 := hq 1 _ rfl
    rw [q1] at h1
    replace h1 : DataW.trod enc Try.prog W 0 (fun _ => true) true m 3 [c1] = some y1 := h1
    obtain ⟨u0, e0, _⟩ := DataW.trod_bool Try.underlying4 h0
    obtain ⟨u1, e1, _, w1⟩ := DataW.trod_int Try.underlying3 h1
    simp at e0 e1
    subst e0 e1
    exact ⟨(u0, u1), rfl, i_i64 w1⟩
set_option maxRecDepth 100000 in
theorem open_mo {v : Value} {d : DataW H} {p : List MemPlace} (ok : Value.okWide Try.prog W .any base 24 v) (k : DataW.Trod enc Try.prog W 0 (fun _ => true) true 24 v d p) : ∃ x : Mo, v = .agg #[.bool x.1, .int .i64 x.2] ∧ wfM x := by
  obtain ⟨cs, rfl, hsz⟩ := okWide_struct Try.underlying24 ok
  obtain ⟨fuel, hf⟩ := k
  obtain ⟨x, e, hx⟩ := mo_at enc W hf
  obtain ⟨l⟩ := cs
  replace e : l = [.bool x.1, .int .i64 x.2] := e
  subst e
  exact ⟨x, rfl, hx⟩
set_option maxRecDepth 100000 in
theorem open_mos {n : Nat} {c : Value} {x : DataW H × List MemPlace} (h : DataW.trod enc Try.prog W 0 (fun _ => true) true n 33 [c] = some x) : ∃ l, MosIn W c l := by
  rcases open_slice Try.underlying33 h with ⟨hcs, _⟩ | ⟨x, len, cap, m, n, D, Pl, hcs, _, hl, hm, hmm, _, hx⟩
  · obtain rfl : c = .slice none 0 0 := by simpa using hcs
    exact ⟨[], ⟨none, 0, rfl, by simp, fun h => by simp at h⟩, fun x hx => by cases hx⟩
  · obtain rfl : c = .slice (some x) len cap := by simpa using hcs
    simp at hmm
    subst hmm
    have q2 : Try.prog.cellsOf 24 = 2 := by kernel_rfl
    rw [q2] at hx
    have hall : ∀ i, i < len → ∃ y : Mo, W.cell? (x.add (i * 2)) = some (.bool y.1) ∧ W.cell? ((x.add (i * 2)).add 1) = some (.int .i64 y.2) ∧ wfM y := by
      intro i hi
      obtain ⟨cs', h1, h2⟩ := hx i (by omega)
      obtain ⟨y, rfl, hy⟩ := mo_at enc W h2
      obtain ⟨_, _, hcc⟩ := World.cells?_some h1
      refine ⟨y, ?_, ?_, hy⟩
      · simpa [Addr.add] using hcc 0 (by simp)
      · exact hcc 1 (by simp)
    obtain ⟨F, hT⟩ := choose_lt hall
    refine ⟨(List.range len).map F, ⟨some x, m, by simp, by simp; unfold maxLen at hm; omega, fun h0 => ?_⟩, fun y hy => ?_⟩
    · simp only [List.length_map, List.length_range] at h0 ⊢
      obtain ⟨b, off, spot⟩ := x
      have hspot : spot = none := by simpa [Addr.add] using World.cell?_spot (hT 0 (by omega)).1
      subst hspot
      have hc := fun i (hi : i < len) => hT i hi
      simp only [Go.WideShapes.add_plain] at hc
      refine ⟨b, off, rfl, World.block_lt_of_cell? (a := ⟨b, off + 0 * 2, none⟩) W (hc 0 (by omega)).1, fun i hi => ?_⟩
      have e2 : (List.map F (List.range len)).getD i (false, 0) = F i := by
        rw [List.getD_eq_getElem?_getD, List.getElem?_eq_getElem (by simpa using hi)]
        simp
      rw [e2]
      exact ⟨(hc i hi).1, (hc i hi).2.1⟩
    · obtain ⟨i, hi, rfl⟩ := List.mem_map.1 hy
      exact (hT i (List.mem_range.1 hi)).2.2
set_option maxRecDepth 100000 in
theorem ac_at {n : Nat} {cs : List Value} {x : DataW H × List MemPlace} (h : DataW.trod enc Try.prog W 0 (fun _ => true) true n 36 cs = some x) :
    ∃ (a : Ac) (u : Value), cs = [.int .u8 (a.what : Nat), u] ∧ MosIn W u a.l ∧ a.what < 256 := by
  obtain ⟨xs, m, _, _, hl, hlen, hq⟩ := DataW.trod_struct Try.underlying36 h
  match cs, hl.trans (show Try.prog.cellsOf 36 = 2 by kernel_rfl), xs, hlen with
  | [c0, c1], _, [y0, y1], _ =>
    have q0 : Try.prog.cellsOf 5 = 1 := by kernel_rfl
    have h0 : DataW.trod enc Try.prog W 0 (fun _ => true) true m 5 (([c0, c1].drop 0).take (Try.prog.cellsOf 5)) = some y0 := hq 0 _ rfl
    rw [q0] at h0
    replace h0 : DataW.trod enc Try.prog W 0 (fun _ => true) true m 5 [c0] = some y0 := h0
    have q1 : Try.prog.cellsOf 33 = 1 := by kernel_rfl
    have h1 : DataW.trod enc Try.prog W 0 (fun _ => true) true m 33 (([c0, c1].drop 1).take (Try.prog.cellsOf 33)) = some y1 := hq 1 _ rfl
    rw [q1] at h1
    replace h1 : DataW.trod enc Try.prog W 0 (fun _ => true) true m 33 [c1] = some y1 := h1
    obtain ⟨u0, e0, _, w0⟩ := DataW.trod_int Try.underlying5 h0
    obtain ⟨L, hL⟩ := open_mos enc W h1
    simp at e0
    subst e0
    obtain ⟨a, rfl, ha⟩ := n_u8 w0
    exact ⟨⟨a, L⟩, c1, rfl, hL, ha⟩
set_option maxRecDepth 100000 in
theorem open_acs {v : Value} {d : DataW H} {p : List MemPlace} (ok : Value.okWide Try.prog W .any base 22 v) (k : DataW.Trod enc Try.prog W 0 (fun _ => true) true 22 v d p) : ∃ AL, AcsIn W v AL := by
  obtain ⟨a0, len0, cap0, rfl⟩ := okWide_slice Try.underlying22 ok
  obtain ⟨fuel, hf⟩ := k
  rcases open_slice Try.underlying22 hf with ⟨hcs, _⟩ | ⟨x, len, cap, m, n, D, Pl, hcs, _, hl, hm, hmm, _, hx⟩
  · simp [Value.cells] at hcs
    obtain ⟨rfl, rfl, rfl⟩ := hcs
    exact ⟨[], none, 0, rfl, Nat.zero_le _, fun h => by simp at h⟩
  · simp [Value.cells] at hcs
    obtain ⟨rfl, rfl, rfl⟩ := hcs
    simp at hmm
    subst hmm
    have q2 : Try.prog.cellsOf 36 = 2 := by kernel_rfl
    rw [q2] at hx
    have hall : ∀ i, i < len0 → ∃ y : Value × Ac, W.cell? (x.add (i * 2)) = some (.int .u8 (y.2.what : Nat)) ∧ W.cell? ((x.add (i * 2)).add 1) = some y.1 ∧ MosIn W y.1 y.2.l ∧ y.2.what < 256 := by
      intro i hi
      obtain ⟨cs', h1, h2⟩ := hx i (by omega)
      obtain ⟨a, u, rfl, hs, ha⟩ := ac_at enc W h2
      obtain ⟨_, _, hcc⟩ := World.cells?_some h1
      refine ⟨⟨u, a⟩, ?_, ?_, hs, ha⟩
      · simpa [Addr.add] using hcc 0 (by simp)
      · exact hcc 1 (by simp)
    obtain ⟨T, hT⟩ := choose_lt hall
    refine ⟨(List.range len0).map fun i => (T i).2, some x, m, by simp, by simp; omega, fun h0 => ?_⟩
    simp only [List.length_map, List.length_range] at h0 ⊢
    obtain ⟨b, off, spot⟩ := x
    have hspot : spot = none := by simpa [Addr.add] using World.cell?_spot (hT 0 (by omega)).1
    subst hspot
    have hc := fun i (hi : i < len0) => hT i hi
    simp only [Go.WideShapes.add_plain] at hc
    refine ⟨b, off, rfl, World.block_lt_of_cell? (a := ⟨b, off + 0 * 2, none⟩) W (hc 0 (by omega)).1, fun i hi => ?_⟩
    have e2 : (List.map (fun i => (T i).2) (List.range len0))[i]'(by simpa using hi) = (T i).2 := by simp
    rw [e2]
    exact ⟨(hc i hi).1, ⟨_, (hc i hi).2.1, (hc i hi).2.2.1⟩, (hc i hi).2.2.2⟩
end
end Go.Proofs.Ytjdfinimbdcmbaa.Lab
