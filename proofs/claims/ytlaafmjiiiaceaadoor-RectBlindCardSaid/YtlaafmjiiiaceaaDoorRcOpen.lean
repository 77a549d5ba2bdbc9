/- What the arguments of the statements of package rect read as: drafts of grids, acts, two numbers. -/
import Derived.Test.YtlaafmjiiiaceaaDoorRcGrid
import Derived.Test.YtlaafmjiiiaceaaDoorRcAct
import Derived.ProofKit
import Derived.OpenShut
import Derived.Deep.Slices
import Derived.Lib.SmallJoins
import Derived.Laws.IdiomArrays
set_option linter.unusedVariables false
namespace Go.Proofs.YtlaafmjiiiaceaaDoor.Lab
open Go Go.RowKit Go.ChangeShapes Go.WideShapes Go.Deep Go.Lib Go.Joins

theorem n_u8 {n : Int} (h : (Lit.int .u8 n).wf = true) : ∃ m : Nat, n = m ∧ m < 256 := by
  have h1 : 0 ≤ n ∧ n ≤ 255 := by
    simp [Lit.wf, IntKind.min, IntKind.max, IntKind.bits, IntKind.signed] at h
    omega
  exact ⟨n.toNat, by omega, by omega⟩
instance : Inhabited Dc := ⟨Dc.z⟩
def Ac.z : Ac := ⟨0, ⟨0, 0, 0, 0⟩, 0, 0, Dc.z, 0⟩
instance : Inhabited Ac := ⟨Ac.z⟩
theorem n_i64 {n : Int} (h : (Lit.int .i64 n).wf = true) : I64 n := by
  simp [Lit.wf, IntKind.min, IntKind.max, IntKind.bits, IntKind.signed] at h
  unfold I64
  omega
def Ac13 (w : World) (b o : Nat) (a : Ac) : Prop := ∀ j v, (cells13 a)[j]? = some v → w.cell? ⟨b, o + j, none⟩ = some v
def AcsIn (w : World) (a : Option Addr) (len : Nat) (T : Nat → Ac) : Prop := len ≤ maxLen ∧ (∀ i, i < len → (T i).ok) ∧ (0 < len → ∃ b off, a = some ⟨b, off, none⟩ ∧ b < w.heap.size ∧ ∀ i, i < len → Ac13 w b (off + i * 13) (T i))
theorem AcsIn.below {w w' : World} {a : Option Addr} {len : Nat} {T : Nat → Ac} (h : AcsIn w a len T) (hb : Below w.heap.size w w') : AcsIn w' a len T := by
  refine ⟨h.1, h.2.1, fun h0 => ?_⟩
  obtain ⟨b, off, e, hlt, hc⟩ := h.2.2 h0
  exact ⟨b, off, e, Nat.lt_of_lt_of_le hlt hb.size, fun i hi j v hv => (hb.cell (p := ⟨b, off + i * 13 + j, none⟩) hlt).trans (hc i hi j v hv)⟩
theorem list5 {α : Type} {cs : List α} (h : cs.length = 5) : ∃ c0 c1 c2 c3 c4, cs = [c0, c1, c2, c3, c4] := by
  match cs, h with
  | [c0, c1, c2, c3, c4], _ => exact ⟨c0, c1, c2, c3, c4, rfl⟩
section
variable {H : Type} (enc : TypeId × Value → H) (base : Nat) (W : World)
set_option maxRecDepth 100000 in
theorem draft_at {n : Nat} {cs : List Value} {x : DataW H × List MemPlace} (h : DataW.trod enc Tryd.prog W 0 (fun _ => true) true n 34 cs = some x) :
    ∃ d : Dc, cs = [.int .u8 (d.ru : Nat), .int .u8 (d.ms : Nat), .int .u8 (d.at1 : Nat), .bool d.wide, .bool d.high] ∧ d.ok := by
  obtain ⟨xs, m, _, _, hl, hlen, hq⟩ := DataW.trod_struct Tryd.underlying34 h
  obtain ⟨c0, c1, c2, c3, c4, rfl⟩ := list5 (hl.trans (by kernel_rfl))
  have q1 : Tryd.prog.cellsOf 5 = 1 := by kernel_rfl
  have q2 : Tryd.prog.cellsOf 4 = 1 := by kernel_rfl
  match xs, hlen with
  | [y0, y1, y2, y3, y4], _ =>
    have h0 : DataW.trod enc Tryd.prog W 0 (fun _ => true) true m 5 (([c0, c1, c2, c3, c4].drop 0).take (Tryd.prog.cellsOf 5)) = some y0 := hq 0 _ rfl
    rw [q1] at h0
    replace h0 : DataW.trod enc Tryd.prog W 0 (fun _ => true) true m 5 [c0] = some y0 := h0
    have h1 : DataW.trod enc Tryd.prog W 0 (fun _ => true) true m 5 (([c0, c1, c2, c3, c4].drop 1).take (Tryd.prog.cellsOf 5)) = some y1 := hq 1 _ rfl
    rw [q1] at h1
    replace h1 : DataW.trod enc Tryd.prog W 0 (fun _ => true) true m 5 [c1] = some y1 := h1
    have h2 : DataW.trod enc Tryd.prog W 0 (fun _ => true) true m 5 (([c0, c1, c2, c3, c4].drop 2).take (Tryd.prog.cellsOf 5)) = some y2 := hq 2 _ rfl
    rw [q1] at h2
    replace h2 : DataW.trod enc Tryd.prog W 0 (fun _ => true) true m 5 [c2] = some y2 := h2
    have h3 : DataW.trod enc Tryd.prog W 0 (fun _ => true) true m 4 (([c0, c1, c2, c3, c4].drop 3).take (Tryd.prog.cellsOf 4)) = some y3 := hq 3 _ rfl
    rw [q2] at h3
    replace h3 : DataW.trod enc Tryd.prog W 0 (fun _ => true) true m 4 [c3] = some y3 := h3
    have h4 : DataW.trod enc Tryd.prog W 0 (fun _ => true) true m 4 (([c0, c1, c2, c3, c4].drop 4).take (Tryd.prog.cellsOf 4)) = some y4 := hq 4 _ rfl
    rw [q2] at h4
    replace h4 : DataW.trod enc Tryd.prog W 0 (fun _ => true) true m 4 [c4] = some y4 := h4
    obtain ⟨u0, e0, _, w0⟩ := DataW.trod_int Tryd.underlying5 h0
    obtain ⟨u1, e1, _, w1⟩ := DataW.trod_int Tryd.underlying5 h1
    obtain ⟨u2, e2, _, w2⟩ := DataW.trod_int Tryd.underlying5 h2
    obtain ⟨u3, e3, _⟩ := DataW.trod_bool Tryd.underlying4 h3
    obtain ⟨u4, e4, _⟩ := DataW.trod_bool Tryd.underlying4 h4
    simp at e0 e1 e2 e3 e4
    subst e0 e1 e2 e3 e4
    obtain ⟨a, rfl, ha⟩ := n_u8 w0
    obtain ⟨b, rfl, hb⟩ := n_u8 w1
    obtain ⟨c, rfl, hc⟩ := n_u8 w2
    exact ⟨⟨a, b, c, u3, u4⟩, rfl, ha, hb, hc⟩
set_option maxRecDepth 100000 in
theorem open_ds {n : Nat} {c : Value} {x : DataW H × List MemPlace} (h : DataW.trod enc Tryd.prog W 0 (fun _ => true) true n 71 [c] = some x) : ∃ L, DsIn W c L := by
  rcases open_slice Tryd.underlying71 h with ⟨hcs, _⟩ | ⟨x, len, cap, m, n, D, Pl, hcs, _, hl, hm, hmm, _, hx⟩
  · obtain rfl : c = .slice none 0 0 := by simpa using hcs
    exact ⟨[], none, 0, rfl, Nat.zero_le _, fun d hd => by simp at hd, fun h => by simp at h⟩
  · obtain rfl : c = .slice (some x) len cap := by simpa using hcs
    simp at hmm
    subst hmm
    have q5 : Tryd.prog.cellsOf 34 = 5 := by kernel_rfl
    rw [q5] at hx
    have hall : ∀ i, i < len → ∃ d : Dc, (W.cell? (x.add (i * 5)) = some (.int .u8 (d.ru : Nat)) ∧ W.cell? ((x.add (i * 5)).add 1) = some (.int .u8 (d.ms : Nat)) ∧ W.cell? ((x.add (i * 5)).add 2) = some (.int .u8 (d.at1 : Nat)) ∧ W.cell? ((x.add (i * 5)).add 3) = some (.bool d.wide) ∧ W.cell? ((x.add (i * 5)).add 4) = some (.bool d.high)) ∧ d.ok := by
      intro i hi
      obtain ⟨cs', h1, h2⟩ := hx i (by omega)
      obtain ⟨y, rfl, hy⟩ := draft_at enc W h2
      obtain ⟨_, _, hc⟩ := World.cells?_some h1
      refine ⟨y, ⟨?_, ?_, ?_, ?_, ?_⟩, hy⟩
      · simpa [Addr.add] using hc 0 (by simp)
      · exact hc 1 (by simp)
      · exact hc 2 (by simp)
      · exact hc 3 (by simp)
      · exact hc 4 (by simp)
    obtain ⟨T, hT⟩ := choose_lt hall
    have eg : ∀ i, i < len → ((List.range len).map T).getD i Dc.z = T i := fun i hi => by simp [List.getD_eq_getElem?_getD, hi]
    refine ⟨(List.range len).map T, some x, m, by simp, by simp; omega, fun d hd => ?_, fun h0 => ?_⟩
    · obtain ⟨i, hi, rfl⟩ := List.mem_map.1 hd
      exact (hT i (List.mem_range.1 hi)).2
    · simp only [List.length_map, List.length_range] at h0 ⊢
      obtain ⟨b, off, spot⟩ := x
      have hspot : spot = none := by simpa [Addr.add] using World.cell?_spot (hT 0 (by omega)).1.1
      subst hspot
      have hc := fun i (hi : i < len) => (hT i hi).1
      simp only [Go.WideShapes.add_plain] at hc
      refine ⟨b, off, rfl, World.block_lt_of_cell? (a := ⟨b, off + 0 * 5, none⟩) W (hc 0 (by omega)).1, fun i hi => ?_⟩
      rw [eg i hi]
      exact hc i hi
set_option maxRecDepth 100000 in
theorem line_at {n : Nat} {cs : List Value} {x : DataW H × List MemPlace} (h : DataW.trod enc Tryd.prog W 0 (fun _ => true) true n 73 cs = some x) :
    ∃ (cols : Int) (u : Value) (L : List Dc), cs = [.int .u8 cols, u] ∧ DsIn W u L := by
  obtain ⟨xs, m, _, _, hl, hlen, hq⟩ := DataW.trod_struct Tryd.underlying73 h
  match cs, hl.trans (show Tryd.prog.cellsOf 73 = 2 by kernel_rfl), xs, hlen with
  | [c0, c1], _, [y0, y1], _ =>
    have q1 : Tryd.prog.cellsOf 5 = 1 := by kernel_rfl
    have q2 : Tryd.prog.cellsOf 71 = 1 := by kernel_rfl
    have h0 : DataW.trod enc Tryd.prog W 0 (fun _ => true) true m 5 (([c0, c1].drop 0).take (Tryd.prog.cellsOf 5)) = some y0 := hq 0 _ rfl
    rw [q1] at h0
    replace h0 : DataW.trod enc Tryd.prog W 0 (fun _ => true) true m 5 [c0] = some y0 := h0
    have h1 : DataW.trod enc Tryd.prog W 0 (fun _ => true) true m 71 (([c0, c1].drop 1).take (Tryd.prog.cellsOf 71)) = some y1 := hq 1 _ rfl
    rw [q2] at h1
    replace h1 : DataW.trod enc Tryd.prog W 0 (fun _ => true) true m 71 [c1] = some y1 := h1
    obtain ⟨u0, e0, _, w0⟩ := DataW.trod_int Tryd.underlying5 h0
    obtain ⟨L, hL⟩ := open_ds enc W h1
    simp at e0
    subst e0
    exact ⟨u0, c1, L, rfl, hL⟩
set_option maxRecDepth 100000 in
theorem open_lns {n : Nat} {c : Value} {x : DataW H × List MemPlace} (h : DataW.trod enc Tryd.prog W 0 (fun _ => true) true n 22 [c] = some x) : ∃ LL, LnsIn W c LL := by
  rcases open_slice Tryd.underlying22 h with ⟨hcs, _⟩ | ⟨x, len, cap, m, n, D, Pl, hcs, _, hl, hm, hmm, _, hx⟩
  · obtain rfl : c = .slice none 0 0 := by simpa using hcs
    exact ⟨[], [], ⟨none, 0, rfl, Nat.zero_le _, fun h => by simp at h⟩, rfl, fun i hi => by simp at hi⟩
  · obtain rfl : c = .slice (some x) len cap := by simpa using hcs
    simp at hmm
    subst hmm
    have q2 : Tryd.prog.cellsOf 73 = 2 := by kernel_rfl
    rw [q2] at hx
    have hall : ∀ i, i < len → ∃ y : (Int × Value) × List Dc, W.cell? (x.add (i * 2)) = some (.int .u8 y.1.1) ∧ W.cell? ((x.add (i * 2)).add 1) = some y.1.2 ∧ DsIn W y.1.2 y.2 := by
      intro i hi
      obtain ⟨cs', h1, h2⟩ := hx i (by omega)
      obtain ⟨cols, u, L, rfl, hL⟩ := line_at enc W h2
      obtain ⟨_, _, hc⟩ := World.cells?_some h1
      refine ⟨⟨⟨cols, u⟩, L⟩, ?_, ?_, hL⟩
      · simpa [Addr.add] using hc 0 (by simp)
      · exact hc 1 (by simp)
    obtain ⟨T, hT⟩ := choose_lt hall
    refine ⟨(List.range len).map fun i => (T i).2, (List.range len).map fun i => (T i).1.2, ⟨some x, m, by simp, by simp; omega, fun h0 => ?_⟩, by simp, fun i hi => ?_⟩
    · simp only [List.length_map, List.length_range] at h0 ⊢
      obtain ⟨b, off, spot⟩ := x
      have hspot : spot = none := by simpa [Addr.add] using World.cell?_spot (hT 0 (by omega)).1
      subst hspot
      have hc := fun i (hi : i < len) => hT i hi
      simp only [Go.WideShapes.add_plain] at hc
      refine ⟨b, off, rfl, World.block_lt_of_cell? (a := ⟨b, off + 0 * 2, none⟩) W (hc 0 (by omega)).1, fun i hi => ⟨(T i).1.1, (hc i hi).1, ?_⟩⟩
      rw [(hc i hi).2.1]
      simp [List.getD_eq_getElem?_getD, hi]
    · rw [List.length_map, List.length_range] at hi
      have e1 : ((List.range len).map fun i => (T i).1.2).getD i undef = (T i).1.2 := by simp [List.getD_eq_getElem?_getD, hi]
      have e2 : (List.map (fun i => (T i).2) (List.range len))[i]'(by simpa using hi) = (T i).2 := by simp
      rw [e1, e2]
      exact (hT i hi).2.2
set_option maxRecDepth 100000 in
theorem open_gdraft {v : Value} {d : DataW H} {p : List MemPlace} (ok : Value.okWide Tryd.prog W .any base 24 v) (k : DataW.Trod enc Tryd.prog W 0 (fun _ => true) true 24 v d p) :
    ∃ (cols : Nat) (u : Value) (LL : List (List Dc)), v = .agg #[.int .u8 (cols : Nat), u] ∧ cols < 256 ∧ LnsIn W u LL := by
  obtain ⟨cs, rfl, hsz⟩ := okWide_struct Tryd.underlying24 ok
  obtain ⟨fuel, hf⟩ := k
  obtain ⟨xs, n, _, _, hl, hlen, hq⟩ := DataW.trod_struct Tryd.underlying24 hf
  obtain ⟨l⟩ := cs
  match l, hsz.trans (show Tryd.prog.cellsOf 24 = 2 by kernel_rfl), xs, hlen with
  | [c0, c1], _, [y0, y1], _ =>
    have q1 : Tryd.prog.cellsOf 5 = 1 := by kernel_rfl
    have q2 : Tryd.prog.cellsOf 22 = 1 := by kernel_rfl
    have h0 : DataW.trod enc Tryd.prog W 0 (fun _ => true) true n 5 (([c0, c1].drop 0).take (Tryd.prog.cellsOf 5)) = some y0 := hq 0 _ rfl
    rw [q1] at h0
    replace h0 : DataW.trod enc Tryd.prog W 0 (fun _ => true) true n 5 [c0] = some y0 := h0
    have h1 : DataW.trod enc Tryd.prog W 0 (fun _ => true) true n 22 (([c0, c1].drop 1).take (Tryd.prog.cellsOf 22)) = some y1 := hq 1 _ rfl
    rw [q2] at h1
    replace h1 : DataW.trod enc Tryd.prog W 0 (fun _ => true) true n 22 [c1] = some y1 := h1
    obtain ⟨u0, e0, _, w0⟩ := DataW.trod_int Tryd.underlying5 h0
    obtain ⟨LL, hLL⟩ := open_lns enc W h1
    simp at e0
    subst e0
    obtain ⟨a, rfl, ha⟩ := n_u8 w0
    exact ⟨a, c1, LL, rfl, ha, hLL⟩
theorem list4 {α : Type} {cs : List α} (h : cs.length = 4) : ∃ c0 c1 c2 c3, cs = [c0, c1, c2, c3] := by
  match cs, h with
  | [c0, c1, c2, c3], _ => exact ⟨c0, c1, c2, c3, rfl⟩
theorem list13 {α : Type} {cs : List α} (h : cs.length = 13) : ∃ c0 c1 c2 c3 c4 c5 c6 c7 c8 c9 c10 c11 c12, cs = [c0, c1, c2, c3, c4, c5, c6, c7, c8, c9, c10, c11, c12] := by
  match cs, h with
  | [c0, c1, c2, c3, c4, c5, c6, c7, c8, c9, c10, c11, c12], _ => exact ⟨c0, c1, c2, c3, c4, c5, c6, c7, c8, c9, c10, c11, c12, rfl⟩
set_option maxRecDepth 100000 in
theorem rect_at {n : Nat} {cs : List Value} {x : DataW H × List MemPlace} (h : DataW.trod enc Tryd.prog W 0 (fun _ => true) true n 30 cs = some x) :
    ∃ r : R4, cs = [.int .i64 r.t, .int .i64 r.l, .int .i64 r.n, .int .i64 r.c] ∧ r.Ok := by
  obtain ⟨xs, m, _, _, hl, hlen, hq⟩ := DataW.trod_struct Tryd.underlying30 h
  obtain ⟨c0, c1, c2, c3, rfl⟩ := list4 (hl.trans (by kernel_rfl))
  have q1 : Tryd.prog.cellsOf 3 = 1 := by kernel_rfl
  match xs, hlen with
  | [y0, y1, y2, y3], _ =>
    have h0 : DataW.trod enc Tryd.prog W 0 (fun _ => true) true m 3 (([c0, c1, c2, c3].drop 0).take (Tryd.prog.cellsOf 3)) = some y0 := hq 0 _ rfl
    rw [q1] at h0
    replace h0 : DataW.trod enc Tryd.prog W 0 (fun _ => true) true m 3 [c0] = some y0 := h0
    obtain ⟨u0, e0, _, w0⟩ := DataW.trod_int Tryd.underlying3 h0
    have h1 : DataW.trod enc Tryd.prog W 0 (fun _ => true) true m 3 (([c0, c1, c2, c3].drop 1).take (Tryd.prog.cellsOf 3)) = some y1 := hq 1 _ rfl
    rw [q1] at h1
    replace h1 : DataW.trod enc Tryd.prog W 0 (fun _ => true) true m 3 [c1] = some y1 := h1
    obtain ⟨u1, e1, _, w1⟩ := DataW.trod_int Tryd.underlying3 h1
    have h2 : DataW.trod enc Tryd.prog W 0 (fun _ => true) true m 3 (([c0, c1, c2, c3].drop 2).take (Tryd.prog.cellsOf 3)) = some y2 := hq 2 _ rfl
    rw [q1] at h2
    replace h2 : DataW.trod enc Tryd.prog W 0 (fun _ => true) true m 3 [c2] = some y2 := h2
    obtain ⟨u2, e2, _, w2⟩ := DataW.trod_int Tryd.underlying3 h2
    have h3 : DataW.trod enc Tryd.prog W 0 (fun _ => true) true m 3 (([c0, c1, c2, c3].drop 3).take (Tryd.prog.cellsOf 3)) = some y3 := hq 3 _ rfl
    rw [q1] at h3
    replace h3 : DataW.trod enc Tryd.prog W 0 (fun _ => true) true m 3 [c3] = some y3 := h3
    obtain ⟨u3, e3, _, w3⟩ := DataW.trod_int Tryd.underlying3 h3
    simp at e0 e1 e2 e3
    subst e0 e1 e2 e3
    exact ⟨⟨u0, u1, u2, u3⟩, rfl, n_i64 w0, n_i64 w1, n_i64 w2, n_i64 w3⟩
set_option maxRecDepth 100000 in
theorem pos_at {n : Nat} {cs : List Value} {x : DataW H × List MemPlace} (h : DataW.trod enc Tryd.prog W 0 (fun _ => true) true n 32 cs = some x) :
    ∃ p q : Int, cs = [.int .i64 p, .int .i64 q] ∧ I64 p ∧ I64 q := by
  obtain ⟨xs, m, _, _, hl, hlen, hq⟩ := DataW.trod_struct Tryd.underlying32 h
  match cs, hl.trans (show Tryd.prog.cellsOf 32 = 2 by kernel_rfl), xs, hlen with
  | [c0, c1], _, [y0, y1], _ =>
    have q1 : Tryd.prog.cellsOf 3 = 1 := by kernel_rfl
    have h0 : DataW.trod enc Tryd.prog W 0 (fun _ => true) true m 3 (([c0, c1].drop 0).take (Tryd.prog.cellsOf 3)) = some y0 := hq 0 _ rfl
    rw [q1] at h0
    replace h0 : DataW.trod enc Tryd.prog W 0 (fun _ => true) true m 3 [c0] = some y0 := h0
    obtain ⟨u0, e0, _, w0⟩ := DataW.trod_int Tryd.underlying3 h0
    have h1 : DataW.trod enc Tryd.prog W 0 (fun _ => true) true m 3 (([c0, c1].drop 1).take (Tryd.prog.cellsOf 3)) = some y1 := hq 1 _ rfl
    rw [q1] at h1
    replace h1 : DataW.trod enc Tryd.prog W 0 (fun _ => true) true m 3 [c1] = some y1 := h1
    obtain ⟨u1, e1, _, w1⟩ := DataW.trod_int Tryd.underlying3 h1
    simp at e0 e1
    subst e0 e1
    exact ⟨u0, u1, rfl, n_i64 w0, n_i64 w1⟩
set_option maxRecDepth 100000 in
theorem ac_at {n : Nat} {cs : List Value} {x : DataW H × List MemPlace} (h : DataW.trod enc Tryd.prog W 0 (fun _ => true) true n 36 cs = some x) :
    ∃ a : Ac, cs = cells13 a ∧ a.ok := by
  obtain ⟨xs, m, _, _, hl, hlen, hq⟩ := DataW.trod_struct Tryd.underlying36 h
  obtain ⟨c0, c1, c2, c3, c4, c5, c6, c7, c8, c9, c10, c11, c12, rfl⟩ := list13 (hl.trans (by kernel_rfl))
  have q1 : Tryd.prog.cellsOf 5 = 1 := by kernel_rfl
  have q2 : Tryd.prog.cellsOf 30 = 4 := by kernel_rfl
  have q3 : Tryd.prog.cellsOf 32 = 2 := by kernel_rfl
  have q4 : Tryd.prog.cellsOf 34 = 5 := by kernel_rfl
  match xs, hlen with
  | [y0, y1, y2, y3, y4], _ =>
    have h0 : DataW.trod enc Tryd.prog W 0 (fun _ => true) true m 5 (([c0, c1, c2, c3, c4, c5, c6, c7, c8, c9, c10, c11, c12].drop 0).take (Tryd.prog.cellsOf 5)) = some y0 := hq 0 _ rfl
    rw [q1] at h0
    replace h0 : DataW.trod enc Tryd.prog W 0 (fun _ => true) true m 5 [c0] = some y0 := h0
    have h1 : DataW.trod enc Tryd.prog W 0 (fun _ => true) true m 30 (([c0, c1, c2, c3, c4, c5, c6, c7, c8, c9, c10, c11, c12].drop 1).take (Tryd.prog.cellsOf 30)) = some y1 := hq 1 _ rfl
    rw [q2] at h1
    replace h1 : DataW.trod enc Tryd.prog W 0 (fun _ => true) true m 30 [c1, c2, c3, c4] = some y1 := h1
    have h2 : DataW.trod enc Tryd.prog W 0 (fun _ => true) true m 32 (([c0, c1, c2, c3, c4, c5, c6, c7, c8, c9, c10, c11, c12].drop 5).take (Tryd.prog.cellsOf 32)) = some y2 := hq 2 _ rfl
    rw [q3] at h2
    replace h2 : DataW.trod enc Tryd.prog W 0 (fun _ => true) true m 32 [c5, c6] = some y2 := h2
    have h3 : DataW.trod enc Tryd.prog W 0 (fun _ => true) true m 34 (([c0, c1, c2, c3, c4, c5, c6, c7, c8, c9, c10, c11, c12].drop 7).take (Tryd.prog.cellsOf 34)) = some y3 := hq 3 _ rfl
    rw [q4] at h3
    replace h3 : DataW.trod enc Tryd.prog W 0 (fun _ => true) true m 34 [c7, c8, c9, c10, c11] = some y3 := h3
    have h4 : DataW.trod enc Tryd.prog W 0 (fun _ => true) true m 5 (([c0, c1, c2, c3, c4, c5, c6, c7, c8, c9, c10, c11, c12].drop 12).take (Tryd.prog.cellsOf 5)) = some y4 := hq 4 _ rfl
    rw [q1] at h4
    replace h4 : DataW.trod enc Tryd.prog W 0 (fun _ => true) true m 5 [c12] = some y4 := h4
    obtain ⟨u0, e0, _, w0⟩ := DataW.trod_int Tryd.underlying5 h0
    obtain ⟨r, e1, hr⟩ := rect_at enc W h1
    obtain ⟨p, q, e2, hp, hq'⟩ := pos_at enc W h2
    obtain ⟨d, e3, hd⟩ := draft_at enc W h3
    obtain ⟨u4, e4, _, w4⟩ := DataW.trod_int Tryd.underlying5 h4
    simp at e0 e4
    subst e0 e4
    injection e1 with f1 e1
    injection e1 with f2 e1
    injection e1 with f3 e1
    injection e1 with f4 e1
    injection e2 with f5 e2
    injection e2 with f6 e2
    injection e3 with f7 e3
    injection e3 with f8 e3
    injection e3 with f9 e3
    injection e3 with f10 e3
    injection e3 with f11 e3
    subst f1 f2 f3 f4 f5 f6 f7 f8 f9 f10 f11
    obtain ⟨a, rfl, ha⟩ := n_u8 w0
    obtain ⟨b, rfl, hb⟩ := n_u8 w4
    exact ⟨⟨a, r, p, q, d, b⟩, rfl, ha, hr, hp, hq', hd, hb⟩
set_option maxRecDepth 100000 in
theorem open_ac {v : Value} {d : DataW H} {p : List MemPlace} (ok : Value.okWide Tryd.prog W .any base 36 v) (k : DataW.Trod enc Tryd.prog W 0 (fun _ => true) true 36 v d p) : ∃ a : Ac, v = acV a ∧ a.ok := by
  obtain ⟨cs, rfl, hsz⟩ := okWide_struct Tryd.underlying36 ok
  obtain ⟨fuel, hf⟩ := k
  obtain ⟨a, e, ha⟩ := ac_at enc W hf
  obtain ⟨l⟩ := cs
  replace e : l = cells13 a := e
  subst e
  exact ⟨a, rfl, ha⟩
set_option maxRecDepth 100000 in
theorem open_acs {v : Value} {d : DataW H} {p : List MemPlace} (ok : Value.okWide Tryd.prog W .any base 25 v) (k : DataW.Trod enc Tryd.prog W 0 (fun _ => true) true 25 v d p) :
    ∃ (a : Option Addr) (len cap : Nat) (T : Nat → Ac), v = .slice a len cap ∧ AcsIn W a len T := by
  obtain ⟨a0, len0, cap0, rfl⟩ := okWide_slice Tryd.underlying25 ok
  obtain ⟨fuel, hf⟩ := k
  rcases open_slice Tryd.underlying25 hf with ⟨hcs, _⟩ | ⟨x, len, cap, m, n, D, Pl, hcs, _, hl, hm, hmm, _, hx⟩
  · simp [Value.cells] at hcs
    obtain ⟨rfl, rfl, rfl⟩ := hcs
    exact ⟨none, 0, 0, fun _ => Ac.z, rfl, Nat.zero_le _, fun i hi => by omega, fun h => by omega⟩
  · simp [Value.cells] at hcs
    obtain ⟨rfl, rfl, rfl⟩ := hcs
    simp at hmm
    subst hmm
    have q9 : Tryd.prog.cellsOf 36 = 13 := by kernel_rfl
    rw [q9] at hx
    have hall : ∀ i, i < len0 → ∃ a : Ac, (∀ j v, (cells13 a)[j]? = some v → W.cell? ((x.add (i * 13)).add j) = some v) ∧ a.ok := by
      intro i hi
      obtain ⟨cs', h1, h2⟩ := hx i (by omega)
      obtain ⟨y, rfl, hy⟩ := ac_at enc W h2
      obtain ⟨_, _, hc⟩ := World.cells?_some h1
      refine ⟨y, fun j v hv => ?_, hy⟩
      have hj : j < 13 := (List.getElem?_eq_some_iff.1 hv).1
      rw [hc j (by simpa using hj)]
      exact hv
    obtain ⟨T, hT⟩ := choose_lt hall
    refine ⟨some x, len0, m, T, rfl, Nat.le_trans hl hm, fun i hi => (hT i hi).2, fun h0 => ?_⟩
    obtain ⟨b, off, spot⟩ := x
    have h00 := (hT 0 (by omega)).1 0 _ rfl
    have hspot : spot = none := by simpa [Addr.add] using World.cell?_spot h00
    subst hspot
    have hc := fun i (hi : i < len0) => (hT i hi).1
    simp only [Go.WideShapes.add_plain] at hc h00
    exact ⟨b, off, rfl, World.block_lt_of_cell? (a := ⟨b, off + 0 * 13 + 0, none⟩) W h00, fun i hi j v hv => hc i hi j v hv⟩
set_option maxRecDepth 100000 in
theorem open_two {v : Value} {d : DataW H} {p : List MemPlace} (k : DataW.Trod enc Tryd.prog W 0 (fun _ => true) true 48 v d p) (hv : ∃ cs : Array Value, v = .agg cs) :
    ∃ a b : Nat, v = .agg #[.int .u8 (a : Nat), .int .u8 (b : Nat)] ∧ a < 256 ∧ b < 256 := by
  obtain ⟨⟨cs⟩, rfl⟩ := hv
  obtain ⟨fuel, hf⟩ := k
  have hl : cs.length = 2 := by
    obtain ⟨_, _, _, _, hl, _⟩ := DataW.trod_array Tryd.underlying48 hf
    exact hl.trans (by kernel_rfl)
  match cs, hl with
  | [c0, c1], _ =>
    obtain ⟨xs, m, _, _, _, hxl, hq⟩ := DataW.trod_array Tryd.underlying48 hf
    have q1 : Tryd.prog.cellsOf 5 = 1 := by kernel_rfl
    match xs, hxl with
    | [y0, y1], _ =>
    have h0 : DataW.trod enc Tryd.prog W 0 (fun _ => true) true m 5 (([c0, c1].drop (0 * Tryd.prog.cellsOf 5)).take (Tryd.prog.cellsOf 5)) = some y0 := hq 0 (by decide)
    rw [q1] at h0
    replace h0 : DataW.trod enc Tryd.prog W 0 (fun _ => true) true m 5 [c0] = some y0 := h0
    have h1 : DataW.trod enc Tryd.prog W 0 (fun _ => true) true m 5 (([c0, c1].drop (1 * Tryd.prog.cellsOf 5)).take (Tryd.prog.cellsOf 5)) = some y1 := hq 1 (by decide)
    rw [q1] at h1
    replace h1 : DataW.trod enc Tryd.prog W 0 (fun _ => true) true m 5 [c1] = some y1 := h1
    obtain ⟨u, e0, _, wu⟩ := DataW.trod_int Tryd.underlying5 h0
    obtain ⟨s, e1, _, ws⟩ := DataW.trod_int Tryd.underlying5 h1
    simp at e0 e1
    subst e0 e1
    obtain ⟨a, rfl, ha⟩ := n_u8 wu
    obtain ⟨b, rfl, hb⟩ := n_u8 ws
    exact ⟨a, b, rfl, ha, hb⟩
end
end Go.Proofs.YtlaafmjiiiaceaaDoor.Lab
