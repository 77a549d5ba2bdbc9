/- What the arguments of the statements of package ring read as: lines, acts, numbers, drafts. -/
import Derived.Test.YtnefamgjlhdffaaRgMany
import Derived.ProofKit
import Derived.OpenShut
import Derived.Deep.Slices
import Derived.Lib.SmallJoins
import Derived.Laws.IdiomArrays
set_option linter.unusedVariables false
namespace Go.Proofs.Ytnefamgjlhdffaa.Lab
open Go Go.RowKit Go.ChangeShapes Go.WideShapes Go.Deep Go.Lib Go.Joins

theorem n_u8 {n : Int} (h : (Lit.int .u8 n).wf = true) : ∃ m : Nat, n = m ∧ m < 256 := by
  have h1 : 0 ≤ n ∧ n ≤ 255 := by
    simp [Lit.wf, IntKind.min, IntKind.max, IntKind.bits, IntKind.signed] at h
    omega
  exact ⟨n.toNat, by omega, by omega⟩
instance : Inhabited Dc := ⟨Dc.z⟩
theorem list5 {α : Type} {cs : List α} (h : cs.length = 5) : ∃ c0 c1 c2 c3 c4, cs = [c0, c1, c2, c3, c4] := by
  match cs, h with
  | [c0, c1, c2, c3, c4], _ => exact ⟨c0, c1, c2, c3, c4, rfl⟩
structure Rc where
  what : Nat
  LL : List Lj
  lev : Bool
instance : Inhabited Lj := ⟨⟨0, []⟩⟩
instance : Inhabited Rc := ⟨⟨0, [], false⟩⟩
def RcsIn (w : World) (v : Value) (AL : List Rc) : Prop :=
  ∃ a c, v = .slice a AL.length c ∧ AL.length ≤ maxLen ∧ (0 < AL.length → ∃ g o, a = some ⟨g, o, none⟩ ∧ g < w.heap.size ∧ ∀ i, (hi : i < AL.length) → w.cell? ⟨g, o + i * 3, none⟩ = some (.int .u8 (AL[i].what : Nat)) ∧ AL[i].what < 256 ∧ (∃ u, w.cell? ⟨g, o + i * 3 + 1, none⟩ = some u ∧ LjsIn w u AL[i].LL) ∧ w.cell? ⟨g, o + i * 3 + 2, none⟩ = some (.bool AL[i].lev))
theorem RcsIn.below {w w' : World} {v : Value} {LL : List Rc} (h : RcsIn w v LL) (k : Below w.heap.size w w') : RcsIn w' v LL := by
  obtain ⟨a, c, e, hm, h⟩ := h
  refine ⟨a, c, e, hm, fun h0 => ?_⟩
  obtain ⟨g, o, ea, hg, hC⟩ := h h0
  refine ⟨g, o, ea, Nat.lt_of_lt_of_le hg k.size, fun i hi => ?_⟩
  obtain ⟨h1, h2, ⟨u, h3, h4⟩, h5⟩ := hC i hi
  exact ⟨(k.cell (p := ⟨g, o + i * 3, none⟩) hg).trans h1, h2, ⟨u, (k.cell (p := ⟨g, o + i * 3 + 1, none⟩) hg).trans h3, h4.below k⟩, (k.cell (p := ⟨g, o + i * 3 + 2, none⟩) hg).trans h5⟩
theorem RcsIn.shape {w : World} {v : Value} {LL : List Rc} (h : RcsIn w v LL) : ∃ a c, v = .slice a LL.length c := by
  obtain ⟨a, c, e, _⟩ := h
  exact ⟨a, c, e⟩
def RcK (LL : List Rc) (i : Nat) : Rc := LL.getD i ⟨0, [], false⟩
theorem RcK_eq {LL : List Rc} {i : Nat} (h : i < LL.length) : RcK LL i = LL[i] := by
  unfold RcK
  rw [List.getD_eq_getElem?_getD, List.getElem?_eq_getElem h]
  rfl
theorem RcsIn.at {w : World} {a : Option Addr} {n c : Nat} {LL : List Rc} (h : RcsIn w (.slice a n c) LL) {i : Nat} (hi : i < LL.length) : ∃ g o u, a = some ⟨g, o, none⟩ ∧ g < w.heap.size ∧ w.cell? ⟨g, o + i * 3, none⟩ = some (.int .u8 ((RcK LL i).what : Nat)) ∧ (RcK LL i).what < 256 ∧ w.cell? ⟨g, o + i * 3 + 1, none⟩ = some u ∧ LjsIn w u (RcK LL i).LL ∧ w.cell? ⟨g, o + i * 3 + 2, none⟩ = some (.bool (RcK LL i).lev) := by
  obtain ⟨a', c', e, _, h⟩ := h
  injection e with e1 _ _
  subst e1
  obtain ⟨g, o, ea, hg, hC⟩ := h (by omega)
  obtain ⟨h1, h2, ⟨u, h3, h4⟩, h5⟩ := hC i hi
  rw [RcK_eq hi]
  exact ⟨g, o, u, ea, hg, h1, h2, h3, h4, h5⟩
/-- Numbers of a byte each. -/
def NsIn (w : World) (v : Value) (L : List Nat) : Prop :=
  ∃ a c, v = .slice a L.length c ∧ L.length ≤ maxLen ∧ (∀ n ∈ L, n < 256) ∧ (0 < L.length → ∃ g o, a = some ⟨g, o, none⟩ ∧ g < w.heap.size ∧ ∀ i, (hi : i < L.length) → w.cell? ⟨g, o + i, none⟩ = some (.int .u8 (L[i] : Nat)))
theorem NsIn.below {w w' : World} {v : Value} {L : List Nat} (h : NsIn w v L) (k : Below w.heap.size w w') : NsIn w' v L := by
  obtain ⟨a, c, e, hm, h1, h⟩ := h
  refine ⟨a, c, e, hm, h1, fun h0 => ?_⟩
  obtain ⟨g, o, ea, hg, hC⟩ := h h0
  exact ⟨g, o, ea, Nat.lt_of_lt_of_le hg k.size, fun i hi => (k.cell (p := ⟨g, o + i, none⟩) hg).trans (hC i hi)⟩
section
variable {H : Type} (enc : TypeId × Value → H) (base : Nat) (W : World)
set_option maxRecDepth 100000 in
theorem draft_at {n : Nat} {cs : List Value} {x : DataW H × List MemPlace} (h : DataW.trod enc Try.prog W 0 (fun _ => true) true n 98 cs = some x) :
    ∃ d : Dc, cs = [.int .u8 (d.ru : Nat), .int .u8 (d.ms : Nat), .int .u8 (d.at1 : Nat), .bool d.wide, .bool d.high] ∧ d.ok := by
  obtain ⟨xs, m, _, _, hl, hlen, hq⟩ := DataW.trod_struct Try.underlying98 h
  obtain ⟨c0, c1, c2, c3, c4, rfl⟩ := list5 (hl.trans (by kernel_rfl))
  have q1 : Try.prog.cellsOf 5 = 1 := by kernel_rfl
  have q2 : Try.prog.cellsOf 4 = 1 := by kernel_rfl
  match xs, hlen with
  | [y0, y1, y2, y3, y4], _ =>
    have h0 : DataW.trod enc Try.prog W 0 (fun _ => true) true m 5 (([c0, c1, c2, c3, c4].drop 0).take (Try.prog.cellsOf 5)) = some y0 := hq 0 _ rfl
    rw [q1] at h0
    replace h0 : DataW.trod enc Try.prog W 0 (fun _ => true) true m 5 [c0] = some y0 := h0
    have h1 : DataW.trod enc Try.prog W 0 (fun _ => true) true m 5 (([c0, c1, c2, c3, c4].drop 1).take (Try.prog.cellsOf 5)) = some y1 := hq 1 _ rfl
    rw [q1] at h1
    replace h1 : DataW.trod enc Try.prog W 0 (fun _ => true) true m 5 [c1] = some y1 := h1
    have h2 : DataW.trod enc Try.prog W 0 (fun _ => true) true m 5 (([c0, c1, c2, c3, c4].drop 2).take (Try.prog.cellsOf 5)) = some y2 := hq 2 _ rfl
    rw [q1] at h2
    replace h2 : DataW.trod enc Try.prog W 0 (fun _ => true) true m 5 [c2] = some y2 := h2
    have h3 : DataW.trod enc Try.prog W 0 (fun _ => true) true m 4 (([c0, c1, c2, c3, c4].drop 3).take (Try.prog.cellsOf 4)) = some y3 := hq 3 _ rfl
    rw [q2] at h3
    replace h3 : DataW.trod enc Try.prog W 0 (fun _ => true) true m 4 [c3] = some y3 := h3
    have h4 : DataW.trod enc Try.prog W 0 (fun _ => true) true m 4 (([c0, c1, c2, c3, c4].drop 4).take (Try.prog.cellsOf 4)) = some y4 := hq 4 _ rfl
    rw [q2] at h4
    replace h4 : DataW.trod enc Try.prog W 0 (fun _ => true) true m 4 [c4] = some y4 := h4
    obtain ⟨u0, e0, _, w0⟩ := DataW.trod_int Try.underlying5 h0
    obtain ⟨u1, e1, _, w1⟩ := DataW.trod_int Try.underlying5 h1
    obtain ⟨u2, e2, _, w2⟩ := DataW.trod_int Try.underlying5 h2
    obtain ⟨u3, e3, _⟩ := DataW.trod_bool Try.underlying4 h3
    obtain ⟨u4, e4, _⟩ := DataW.trod_bool Try.underlying4 h4
    simp at e0 e1 e2 e3 e4
    subst e0 e1 e2 e3 e4
    obtain ⟨a, rfl, ha⟩ := n_u8 w0
    obtain ⟨b, rfl, hb⟩ := n_u8 w1
    obtain ⟨c, rfl, hc⟩ := n_u8 w2
    exact ⟨⟨a, b, c, u3, u4⟩, rfl, ha, hb, hc⟩
set_option maxRecDepth 100000 in
theorem open_ds {n : Nat} {c : Value} {x : DataW H × List MemPlace} (h : DataW.trod enc Try.prog W 0 (fun _ => true) true n 61 [c] = some x) : ∃ L, DsIn W c L := by
  rcases open_slice Try.underlying61 h with ⟨hcs, _⟩ | ⟨x, len, cap, m, n, D, Pl, hcs, _, hl, hm, hmm, _, hx⟩
  · obtain rfl : c = .slice none 0 0 := by simpa using hcs
    exact ⟨[], none, 0, rfl, Nat.zero_le _, fun d hd => by simp at hd, fun h => by simp at h⟩
  · obtain rfl : c = .slice (some x) len cap := by simpa using hcs
    simp at hmm
    subst hmm
    have q5 : Try.prog.cellsOf 98 = 5 := by kernel_rfl
    rw [q5] at hx
    have hall : ∀ i, i < len → ∃ d : Dc, (W.cell? (x.add (i * 5)) = some (.int .u8 (d.ru : Nat)) ∧ W.cell? ((x.add (i * 5)).add 1) = some (.int .u8 (d.ms : Nat)) ∧ W.cell? ((x.add (i * 5)).add 2) = some (.int .u8 (d.at1 : Nat)) ∧ W.cell? ((x.add (i * 5)).add 3) = some (.bool d.wide) ∧ W.cell? ((x.add (i * 5)).add 4) = some (.bool d.high)) ∧ d.ok := by
      intro i hi
      obtain ⟨cs', h1, h2⟩ := hx i (by omega)
      obtain ⟨y, rfl, hy⟩ := draft_at enc W h2
      obtain ⟨_, _, hc⟩ := World.cells?_some h1
      refine ⟨y, ⟨?_, ?_, ?_, ?_, ?_⟩, hy⟩
      · simpa [Addr.add] using hc 0 (by simp)
      · exact hc 1 (by simp)
      · exact hc 2 (by simp)
      · exact hc 3 (by simp)
      · exact hc 4 (by simp)
    obtain ⟨T, hT⟩ := choose_lt hall
    have eg : ∀ i, i < len → ((List.range len).map T).getD i Dc.z = T i := fun i hi => by simp [List.getD_eq_getElem?_getD, hi]
    refine ⟨(List.range len).map T, some x, m, by simp, by simp; omega, fun d hd => ?_, fun h0 => ?_⟩
    · obtain ⟨i, hi, rfl⟩ := List.mem_map.1 hd
      exact (hT i (List.mem_range.1 hi)).2
    · simp only [List.length_map, List.length_range] at h0 ⊢
      obtain ⟨b, off, spot⟩ := x
      have hspot : spot = none := by simpa [Addr.add] using World.cell?_spot (hT 0 (by omega)).1.1
      subst hspot
      have hc := fun i (hi : i < len) => (hT i hi).1
      simp only [Go.WideShapes.add_plain] at hc
      refine ⟨b, off, rfl, World.block_lt_of_cell? (a := ⟨b, off + 0 * 5, none⟩) W (hc 0 (by omega)).1, fun i hi => ?_⟩
      rw [eg i hi]
      exact hc i hi
set_option maxRecDepth 100000 in
theorem line_at {n : Nat} {cs : List Value} {x : DataW H × List MemPlace} (h : DataW.trod enc Try.prog W 0 (fun _ => true) true n 63 cs = some x) :
    ∃ (cols : Nat) (u : Value) (L : List Dc), cs = [.int .u8 (cols : Nat), u] ∧ cols < 256 ∧ DsIn W u L := by
  obtain ⟨xs, m, _, _, hl, hlen, hq⟩ := DataW.trod_struct Try.underlying63 h
  match cs, hl.trans (show Try.prog.cellsOf 63 = 2 by kernel_rfl), xs, hlen with
  | [c0, c1], _, [y0, y1], _ =>
    have q1 : Try.prog.cellsOf 5 = 1 := by kernel_rfl
    have q2 : Try.prog.cellsOf 61 = 1 := by kernel_rfl
    have h0 : DataW.trod enc Try.prog W 0 (fun _ => true) true m 5 (([c0, c1].drop 0).take (Try.prog.cellsOf 5)) = some y0 := hq 0 _ rfl
    rw [q1] at h0
    replace h0 : DataW.trod enc Try.prog W 0 (fun _ => true) true m 5 [c0] = some y0 := h0
    have h1 : DataW.trod enc Try.prog W 0 (fun _ => true) true m 61 (([c0, c1].drop 1).take (Try.prog.cellsOf 61)) = some y1 := hq 1 _ rfl
    rw [q2] at h1
    replace h1 : DataW.trod enc Try.prog W 0 (fun _ => true) true m 61 [c1] = some y1 := h1
    obtain ⟨u0, e0, _, w0⟩ := DataW.trod_int Try.underlying5 h0
    obtain ⟨L, hL⟩ := open_ds enc W h1
    simp at e0
    subst e0
    obtain ⟨a, rfl, ha⟩ := n_u8 w0
    exact ⟨a, c1, L, rfl, ha, hL⟩
set_option maxRecDepth 100000 in
theorem open_ljs {n : Nat} {c : Value} {x : DataW H × List MemPlace} (h : DataW.trod enc Try.prog W 0 (fun _ => true) true n 30 [c] = some x) : ∃ LL, LjsIn W c LL := by
  rcases open_slice Try.underlying30 h with ⟨hcs, _⟩ | ⟨x, len, cap, m, n, D, Pl, hcs, _, hl, hm, hmm, _, hx⟩
  · obtain rfl : c = .slice none 0 0 := by simpa using hcs
    exact ⟨[], none, 0, rfl, Nat.zero_le _, fun h => by simp at h⟩
  · obtain rfl : c = .slice (some x) len cap := by simpa using hcs
    simp at hmm
    subst hmm
    have q2 : Try.prog.cellsOf 63 = 2 := by kernel_rfl
    rw [q2] at hx
    have hall : ∀ i, i < len → ∃ y : Value × Lj, W.cell? (x.add (i * 2)) = some (.int .u8 (y.2.cols : Nat)) ∧ W.cell? ((x.add (i * 2)).add 1) = some y.1 ∧ y.2.cols < 256 ∧ DsIn W y.1 y.2.ds := by
      intro i hi
      obtain ⟨cs', h1, h2⟩ := hx i (by omega)
      obtain ⟨cols, u, L, rfl, hc, hL⟩ := line_at enc W h2
      obtain ⟨_, _, hcc⟩ := World.cells?_some h1
      refine ⟨⟨u, ⟨cols, L⟩⟩, ?_, ?_, hc, hL⟩
      · simpa [Addr.add] using hcc 0 (by simp)
      · exact hcc 1 (by simp)
    obtain ⟨T, hT⟩ := choose_lt hall
    refine ⟨(List.range len).map fun i => (T i).2, some x, m, by simp, by simp; omega, fun h0 => ?_⟩
    simp only [List.length_map, List.length_range] at h0 ⊢
    obtain ⟨b, off, spot⟩ := x
    have hspot : spot = none := by simpa [Addr.add] using World.cell?_spot (hT 0 (by omega)).1
    subst hspot
    have hc := fun i (hi : i < len) => hT i hi
    simp only [Go.WideShapes.add_plain] at hc
    refine ⟨b, off, rfl, World.block_lt_of_cell? (a := ⟨b, off + 0 * 2, none⟩) W (hc 0 (by omega)).1, fun i hi => ?_⟩
    have e2 : (List.map (fun i => (T i).2) (List.range len))[i]'(by simpa using hi) = (T i).2 := by simp
    rw [e2]
    exact ⟨(hc i hi).1, (hc i hi).2.2.1, _, (hc i hi).2.1, (hc i hi).2.2.2⟩
set_option maxRecDepth 100000 in
theorem rc_at {n : Nat} {cs : List Value} {x : DataW H × List MemPlace} (h : DataW.trod enc Try.prog W 0 (fun _ => true) true n 32 cs = some x) :
    ∃ (what : Nat) (u : Value) (L : List Lj) (lev : Bool), cs = [.int .u8 (what : Nat), u, .bool lev] ∧ what < 256 ∧ LjsIn W u L := by
  obtain ⟨xs, m, _, _, hl, hlen, hq⟩ := DataW.trod_struct Try.underlying32 h
  match cs, hl.trans (show Try.prog.cellsOf 32 = 3 by kernel_rfl), xs, hlen with
  | [c0, c1, c2], _, [y0, y1, y2], _ =>
    have q1 : Try.prog.cellsOf 5 = 1 := by kernel_rfl
    have q2 : Try.prog.cellsOf 30 = 1 := by kernel_rfl
    have q3 : Try.prog.cellsOf 4 = 1 := by kernel_rfl
    have h0 : DataW.trod enc Try.prog W 0 (fun _ => true) true m 5 (([c0, c1, c2].drop 0).take (Try.prog.cellsOf 5)) = some y0 := hq 0 _ rfl
    rw [q1] at h0
    replace h0 : DataW.trod enc Try.prog W 0 (fun _ => true) true m 5 [c0] = some y0 := h0
    have h1 : DataW.trod enc Try.prog W 0 (fun _ => true) true m 30 (([c0, c1, c2].drop 1).take (Try.prog.cellsOf 30)) = some y1 := hq 1 _ rfl
    rw [q2] at h1
    replace h1 : DataW.trod enc Try.prog W 0 (fun _ => true) true m 30 [c1] = some y1 := h1
    have h2 : DataW.trod enc Try.prog W 0 (fun _ => true) true m 4 (([c0, c1, c2].drop 2).take (Try.prog.cellsOf 4)) = some y2 := hq 2 _ rfl
    rw [q3] at h2
    replace h2 : DataW.trod enc Try.prog W 0 (fun _ => true) true m 4 [c2] = some y2 := h2
    obtain ⟨u0, e0, _, w0⟩ := DataW.trod_int Try.underlying5 h0
    obtain ⟨L, hL⟩ := open_ljs enc W h1
    obtain ⟨u2, e2, _⟩ := DataW.trod_bool Try.underlying4 h2
    simp at e0 e2
    subst e0 e2
    obtain ⟨a, rfl, ha⟩ := n_u8 w0
    exact ⟨a, c1, L, u2, rfl, ha, hL⟩
set_option maxRecDepth 100000 in
theorem open_rcs {v : Value} {d : DataW H} {p : List MemPlace} (ok : Value.okWide Try.prog W .any base 22 v) (k : DataW.Trod enc Try.prog W 0 (fun _ => true) true 22 v d p) : ∃ AL, RcsIn W v AL := by
  obtain ⟨a0, len0, cap0, rfl⟩ := okWide_slice Try.underlying22 ok
  obtain ⟨fuel, hf⟩ := k
  rcases open_slice Try.underlying22 hf with ⟨hcs, _⟩ | ⟨x, len, cap, m, n, D, Pl, hcs, _, hl, hm, hmm, _, hx⟩
  · simp [Value.cells] at hcs
    obtain ⟨rfl, rfl, rfl⟩ := hcs
    exact ⟨[], none, 0, rfl, Nat.zero_le _, fun h => by simp at h⟩
  · simp [Value.cells] at hcs
    obtain ⟨rfl, rfl, rfl⟩ := hcs
    simp at hmm
    subst hmm
    have q2 : Try.prog.cellsOf 32 = 3 := by kernel_rfl
    rw [q2] at hx
    have hall : ∀ i, i < len0 → ∃ y : Value × Rc, W.cell? (x.add (i * 3)) = some (.int .u8 (y.2.what : Nat)) ∧ W.cell? ((x.add (i * 3)).add 1) = some y.1 ∧ W.cell? ((x.add (i * 3)).add 2) = some (.bool y.2.lev) ∧ y.2.what < 256 ∧ LjsIn W y.1 y.2.LL := by
      intro i hi
      obtain ⟨cs', h1, h2⟩ := hx i (by omega)
      obtain ⟨what, u, L, lev, rfl, hc, hL⟩ := rc_at enc W h2
      obtain ⟨_, _, hcc⟩ := World.cells?_some h1
      refine ⟨⟨u, ⟨what, L, lev⟩⟩, ?_, ?_, ?_, hc, hL⟩
      · simpa [Addr.add] using hcc 0 (by simp)
      · exact hcc 1 (by simp)
      · exact hcc 2 (by simp)
    obtain ⟨T, hT⟩ := choose_lt hall
    refine ⟨(List.range len0).map fun i => (T i).2, some x, m, by simp, by simp; omega, fun h0 => ?_⟩
    simp only [List.length_map, List.length_range] at h0 ⊢
    obtain ⟨b, off, spot⟩ := x
    have hspot : spot = none := by simpa [Addr.add] using World.cell?_spot (hT 0 (by omega)).1
    subst hspot
    have hc := fun i (hi : i < len0) => hT i hi
    simp only [Go.WideShapes.add_plain] at hc
    refine ⟨b, off, rfl, World.block_lt_of_cell? (a := ⟨b, off + 0 * 3, none⟩) W (hc 0 (by omega)).1, fun i hi => ?_⟩
    have e2 : (List.map (fun i => (T i).2) (List.range len0))[i]'(by simpa using hi) = (T i).2 := by simp
    rw [e2]
    exact ⟨(hc i hi).1, (hc i hi).2.2.2.1, ⟨_, (hc i hi).2.1, (hc i hi).2.2.2.2⟩, (hc i hi).2.2.1⟩
set_option maxRecDepth 100000 in
theorem open_ljss {v : Value} {d : DataW H} {p : List MemPlace} (ok : Value.okWide Try.prog W .any base 30 v) (k : DataW.Trod enc Try.prog W 0 (fun _ => true) true 30 v d p) : ∃ LL, LjsIn W v LL := by
  obtain ⟨a0, len0, cap0, rfl⟩ := okWide_slice Try.underlying30 ok
  obtain ⟨fuel, hf⟩ := k
  exact open_ljs enc W (n := fuel) (c := .slice a0 len0 cap0) hf
set_option maxRecDepth 100000 in
theorem open_dss {v : Value} {d : DataW H} {p : List MemPlace} (ok : Value.okWide Try.prog W .any base 61 v) (k : DataW.Trod enc Try.prog W 0 (fun _ => true) true 61 v d p) : ∃ L, DsIn W v L := by
  obtain ⟨a0, len0, cap0, rfl⟩ := okWide_slice Try.underlying61 ok
  obtain ⟨fuel, hf⟩ := k
  exact open_ds enc W (n := fuel) (c := .slice a0 len0 cap0) hf
set_option maxRecDepth 100000 in
theorem open_u8 {v : Value} {d : DataW H} {p : List MemPlace} (k : DataW.Trod enc Try.prog W 0 (fun _ => true) true 5 v d p) (ok : Value.okWide Try.prog W .any base 5 v) : ∃ n : Nat, v = .int .u8 (n : Nat) ∧ n < 256 := by
  obtain ⟨q, rfl, _, _, wf⟩ := open_int Try.underlying5 ok k
  obtain ⟨n, rfl, hn⟩ := n_u8 wf
  exact ⟨n, rfl, hn⟩
set_option maxRecDepth 100000 in
theorem open_i64 {v : Value} {d : DataW H} {p : List MemPlace} (k : DataW.Trod enc Try.prog W 0 (fun _ => true) true 3 v d p) (ok : Value.okWide Try.prog W .any base 3 v) : ∃ n : Int, v = .int .i64 n ∧ -9223372036854775808 ≤ n ∧ n ≤ 9223372036854775807 := by
  obtain ⟨q, rfl, _, _, wf⟩ := open_int Try.underlying3 ok k
  refine ⟨q, rfl, ?_⟩
  simp [Lit.wf, IntKind.min, IntKind.max, IntKind.bits, IntKind.signed] at wf
  omega
set_option maxRecDepth 100000 in
theorem open_ns {v : Value} {d : DataW H} {p : List MemPlace} (ok : Value.okWide Try.prog W .any base 60 v) (k : DataW.Trod enc Try.prog W 0 (fun _ => true) true 60 v d p) : ∃ L, NsIn W v L := by
  obtain ⟨a0, len0, cap0, rfl⟩ := okWide_slice Try.underlying60 ok
  obtain ⟨fuel, h⟩ := k
  rcases open_ints Try.underlying60 Try.underlying5 (by kernel_rfl) h with ⟨hcs, _⟩ | ⟨a, len, cap, zs, hcs, _, hl, hm, hz, _, hcell, hw⟩
  · obtain ⟨rfl, rfl, rfl⟩ : a0 = none ∧ len0 = 0 ∧ cap0 = 0 := by simpa [Value.cells] using hcs
    exact ⟨[], none, 0, rfl, by simp, by simp, fun h => by simp at h⟩
  · obtain ⟨rfl, rfl, rfl⟩ : a0 = some a ∧ len0 = len ∧ cap0 = cap := by simpa [Value.cells] using hcs
    have hzl : zs.length = cap0 := by simpa using hz
    have hN : ∀ i, i < len0 → ∃ m : Nat, zs[i]? = some (m : Int) ∧ m < 256 := fun i hi => by
      have hi2 : i < zs.length := by omega
      obtain ⟨m, e, hm⟩ := n_u8 (hw _ (List.getElem_mem hi2))
      exact ⟨m, by rw [List.getElem?_eq_getElem hi2, e], hm⟩
    obtain ⟨T, hT⟩ := choose_lt hN
    refine ⟨(List.range len0).map T, some a, cap0, by simp, by simp; omega, fun n hn => ?_, fun h0 => ?_⟩
    · obtain ⟨i, hi, rfl⟩ := List.mem_map.1 hn
      exact (hT i (List.mem_range.1 hi)).2
    · simp only [List.length_map, List.length_range] at h0 ⊢
      obtain ⟨b, off, rfl, hc⟩ := ints_at hcell (by omega)
      refine ⟨b, off, rfl, World.block_lt_of_cell? (a := ⟨b, off + 0, none⟩) W (hc 0 (by omega)), fun i hi => ?_⟩
      have hci := hc i (by omega)
      rw [List.getD_eq_getElem?_getD, (hT i hi).1] at hci
      rw [List.getElem_map, List.getElem_range]
      exact hci
end
end Go.Proofs.Ytnefamgjlhdffaa.Lab
