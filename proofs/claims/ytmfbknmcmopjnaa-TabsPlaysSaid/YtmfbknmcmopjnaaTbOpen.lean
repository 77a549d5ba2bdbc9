/- What the arguments of the statements of package tabs read as: acts, numbers. -/
import Derived.Test.YtmfbknmcmopjnaaTbDoes
import Derived.Test.YtmfbknmcmopjnaaTbInts
import Derived.ProofKit
import Derived.OpenShut
import Derived.Deep.Slices
import Derived.Deep.Matrix
import Derived.Lib.SmallJoins
import Derived.Laws.IdiomArrays
set_option linter.unusedVariables false
namespace Go.Proofs.Ytmfbknmcmopjnaa.Lab
open Go Go.RowKit Go.ChangeShapes Go.WideShapes Go.Deep Go.Lib Go.Joins

instance : Inhabited Ac := ⟨⟨0, false, [], 0⟩⟩
theorem n_u8 {n : Int} (h : (Lit.int .u8 n).wf = true) : ∃ m : Nat, n = m ∧ m < 256 := by
  have h1 : 0 ≤ n ∧ n ≤ 255 := by
    simp [Lit.wf, IntKind.min, IntKind.max, IntKind.bits, IntKind.signed] at h
    omega
  exact ⟨n.toNat, by omega, by omega⟩
theorem n_u16 {n : Int} (h : (Lit.int .u16 n).wf = true) : ∃ m : Nat, n = m ∧ m < 65536 := by
  have h1 : 0 ≤ n ∧ n ≤ 65535 := by
    simp [Lit.wf, IntKind.min, IntKind.max, IntKind.bits, IntKind.signed] at h
    omega
  exact ⟨n.toNat, by omega, by omega⟩
theorem i_i16 {n : Int} (h : (Lit.int .i16 n).wf = true) : -32768 ≤ n ∧ n ≤ 32767 := by
  simp [Lit.wf, IntKind.min, IntKind.max, IntKind.bits, IntKind.signed] at h
  omega
theorem vals_ax {W : World} {a : Addr} {n : Nat} {V : Nat → Value} (h : ∀ i, i < n → W.cell? (a.add i) = some (V i)) (hp : 0 < n) : ∃ b off, a = ⟨b, off, none⟩ ∧ b < W.heap.size ∧ ∀ i, i < n → W.cell? ⟨b, off + i, none⟩ = some (V i) := by
  obtain ⟨b, off, spot⟩ := a
  have hspot : spot = none := by simpa [Addr.add] using World.cell?_spot (h 0 hp)
  subst hspot
  have hc : ∀ i, i < n → W.cell? ⟨b, off + i, none⟩ = some (V i) := fun i hi => by rw [← Go.WideShapes.add_plain]; exact h i hi
  exact ⟨b, off, rfl, World.block_lt_of_cell? (a := ⟨b, off + 0, none⟩) W (hc 0 hp), hc⟩
/-- Acts as they come in. -/
def AcsIn (w : World) (v : Value) (AL : List Ac) : Prop :=
  ∃ a c, v = .slice a AL.length c ∧ AL.length ≤ maxLen ∧ (0 < AL.length → ∃ g o, a = some ⟨g, o, none⟩ ∧ g < w.heap.size ∧ ∀ i, (hi : i < AL.length) → w.cell? ⟨g, o + i * 4, none⟩ = some (.int .u8 (AL[i].what : Nat)) ∧ w.cell? ⟨g, o + i * 4 + 1, none⟩ = some (.bool AL[i].high) ∧ (∃ u, w.cell? ⟨g, o + i * 4 + 2, none⟩ = some u ∧ S16 w u AL[i].l) ∧ w.cell? ⟨g, o + i * 4 + 3, none⟩ = some (.int .i16 AL[i].cols) ∧ AL[i].Ok)
theorem AcsIn.below {w w' : World} {v : Value} {LL : List Ac} (h : AcsIn w v LL) (k : Below w.heap.size w w') : AcsIn w' v LL := by
  obtain ⟨a, c, e, hm, h⟩ := h
  refine ⟨a, c, e, hm, fun h0 => ?_⟩
  obtain ⟨g, o, ea, hg, hC⟩ := h h0
  refine ⟨g, o, ea, Nat.lt_of_lt_of_le hg k.size, fun i hi => ?_⟩
  obtain ⟨h1, h2, ⟨u, h3, h4⟩, h5, h6⟩ := hC i hi
  exact ⟨(k.cell (p := ⟨g, o + i * 4, none⟩) hg).trans h1, (k.cell (p := ⟨g, o + i * 4 + 1, none⟩) hg).trans h2, ⟨u, (k.cell (p := ⟨g, o + i * 4 + 2, none⟩) hg).trans h3, h4.below k⟩, (k.cell (p := ⟨g, o + i * 4 + 3, none⟩) hg).trans h5, h6⟩
theorem AcsIn.shape {w : World} {v : Value} {LL : List Ac} (h : AcsIn w v LL) : ∃ a c, v = .slice a LL.length c := by
  obtain ⟨a, c, e, _⟩ := h
  exact ⟨a, c, e⟩
theorem AcsIn.maxl {w : World} {v : Value} {LL : List Ac} (h : AcsIn w v LL) : LL.length ≤ maxLen := by
  obtain ⟨a, c, e, hm, _⟩ := h
  exact hm
def AcK (LL : List Ac) (i : Nat) : Ac := LL.getD i default
theorem AcK_eq {LL : List Ac} {i : Nat} (h : i < LL.length) : AcK LL i = LL[i] := by
  unfold AcK
  rw [List.getD_eq_getElem?_getD, List.getElem?_eq_getElem h]
  rfl
theorem AcsIn.at {w : World} {a : Option Addr} {n c : Nat} {LL : List Ac} (h : AcsIn w (.slice a n c) LL) {i : Nat} (hi : i < LL.length) : ∃ g o u, a = some ⟨g, o, none⟩ ∧ w.cell? ⟨g, o + i * 4, none⟩ = some (.int .u8 ((AcK LL i).what : Nat)) ∧ w.cell? ⟨g, o + i * 4 + 1, none⟩ = some (.bool (AcK LL i).high) ∧ w.cell? ⟨g, o + i * 4 + 2, none⟩ = some u ∧ w.cell? ⟨g, o + i * 4 + 3, none⟩ = some (.int .i16 (AcK LL i).cols) ∧ S16 w u (AcK LL i).l ∧ (AcK LL i).Ok := by
  obtain ⟨a', c', e, _, h⟩ := h
  injection e with e1 _ _
  subst e1
  obtain ⟨g, o, ea, hg, hC⟩ := h (by omega)
  obtain ⟨h1, h2, ⟨u, h3, h4⟩, h5, h6⟩ := hC i hi
  rw [AcK_eq hi]
  exact ⟨g, o, u, ea, h1, h2, h3, h5, h4, h6⟩
section
variable {H : Type} (enc : TypeId × Value → H) (base : Nat) (W : World)
set_option maxRecDepth 100000 in
theorem open_s16f {n : Nat} {c : Value} {x : DataW H × List MemPlace} (h : DataW.trod enc Try.prog W 0 (fun _ => true) true n 35 [c] = some x) : ∃ l, S16 W c l := by
  rcases open_ints Try.underlying35 Try.underlying22 (by kernel_rfl) h with ⟨hcs, _⟩ | ⟨a, len, cap, zs, hcs, _, hl, hm, hz, _, hcell, hw⟩
  · obtain rfl : c = .slice none 0 0 := by simpa using hcs
    exact ⟨[], S16.nil W⟩
  · obtain rfl : c = .slice (some a) len cap := by simpa using hcs
    have hzl : zs.length = cap := by simpa using hz
    have htl : (zs.take len).length = len := by rw [List.length_take]; omega
    refine ⟨zs.take len, some a, cap, by rw [htl], by rw [htl]; omega, fun x hx => i_i16 (hw x (List.mem_of_mem_take hx)), fun h0 => ?_⟩
    rw [htl] at h0 ⊢
    obtain ⟨b, off, rfl, hb, hc⟩ := vals_ax (V := fun i => .int .i16 (zs.getD i 0)) hcell (by omega)
    refine ⟨b, off, rfl, hb, fun j hj => ?_⟩
    rw [hc j (by omega)]
    simp [List.getD_eq_getElem?_getD, hj]
set_option maxRecDepth 100000 in
theorem ac_at {n : Nat} {cs : List Value} {x : DataW H × List MemPlace} (h : DataW.trod enc Try.prog W 0 (fun _ => true) true n 37 cs = some x) :
    ∃ (a : Ac) (u : Value), cs = [.int .u8 (a.what : Nat), .bool a.high, u, .int .i16 a.cols] ∧ S16 W u a.l ∧ a.Ok := by
  obtain ⟨xs, m, _, _, hl, hlen, hq⟩ := DataW.trod_struct Try.underlying37 h
  match cs, hl.trans (show Try.prog.cellsOf 37 = 4 by kernel_rfl), xs, hlen with
  | [c0, c1, c2, c3], _, [y0, y1, y2, y3], _ =>
    have q0 : Try.prog.cellsOf 5 = 1 := by kernel_rfl
    have h0 : DataW.trod enc Try.prog W 0 (fun _ => true) true m 5 (([c0, c1, c2, c3].drop 0).take (Try.prog.cellsOf 5)) = some y0 := hq 0 _ rfl
    rw [q0] at h0
    replace h0 : DataW.trod enc Try.prog W 0 (fun _ => true) true m 5 [c0] = some y0 := h0
    have q1 : Try.prog.cellsOf 4 = 1 := by kernel_rfl
    have h1 : DataW.trod enc Try.prog W 0 (fun _ => true) true m 4 (([c0, c1, c2, c3].drop 1).take (Try.prog.cellsOf 4)) = some y1 := hq 1 _ rfl
    rw [q1] at h1
    replace h1 : DataW.trod enc Try.prog W 0 (fun _ => true) true m 4 [c1] = some y1 := h1
    have q2 : Try.prog.cellsOf 35 = 1 := by kernel_rfl
    have h2 : DataW.trod enc Try.prog W 0 (fun _ => true) true m 35 (([c0, c1, c2, c3].drop 2).take (Try.prog.cellsOf 35)) = some y2 := hq 2 _ rfl
    rw [q2] at h2
    replace h2 : DataW.trod enc Try.prog W 0 (fun _ => true) true m 35 [c2] = some y2 := h2
    have q3 : Try.prog.cellsOf 22 = 1 := by kernel_rfl
    have h3 : DataW.trod enc Try.prog W 0 (fun _ => true) true m 22 (([c0, c1, c2, c3].drop 3).take (Try.prog.cellsOf 22)) = some y3 := hq 3 _ rfl
    rw [q3] at h3
    replace h3 : DataW.trod enc Try.prog W 0 (fun _ => true) true m 22 [c3] = some y3 := h3
    obtain ⟨u0, e0, _, w0⟩ := DataW.trod_int Try.underlying5 h0
    obtain ⟨u1, e1, _⟩ := DataW.trod_bool Try.underlying4 h1
    obtain ⟨L, hL⟩ := open_s16f enc W h2
    obtain ⟨u3, e3, _, w3⟩ := DataW.trod_int Try.underlying22 h3
    simp at e0 e1 e3
    subst e0 e1 e3
    obtain ⟨a, rfl, ha⟩ := n_u8 w0
    have := i_i16 w3
    exact ⟨⟨a, u1, L, u3⟩, c2, rfl, hL, ha, this.1, this.2⟩
set_option maxRecDepth 100000 in
theorem open_ac {v : Value} {d : DataW H} {p : List MemPlace} (ok : Value.okWide Try.prog W .any base 37 v) (k : DataW.Trod enc Try.prog W 0 (fun _ => true) true 37 v d p) : ∃ (a : Ac) (u : Value), v = acV a u ∧ S16 W u a.l ∧ a.Ok := by
  obtain ⟨cs, rfl, hsz⟩ := okWide_struct Try.underlying37 ok
  obtain ⟨fuel, hf⟩ := k
  obtain ⟨a, u, e, hs, ha⟩ := ac_at enc W hf
  obtain ⟨l⟩ := cs
  replace e : l = [.int .u8 (a.what : Nat), .bool a.high, u, .int .i16 a.cols] := e
  subst e
  exact ⟨a, u, rfl, hs, ha⟩
set_option maxRecDepth 100000 in
theorem open_acs {v : Value} {d : DataW H} {p : List MemPlace} (ok : Value.okWide Try.prog W .any base 23 v) (k : DataW.Trod enc Try.prog W 0 (fun _ => true) true 23 v d p) : ∃ AL, AcsIn W v AL := by
  obtain ⟨a0, len0, cap0, rfl⟩ := okWide_slice Try.underlying23 ok
  obtain ⟨fuel, hf⟩ := k
  rcases open_slice Try.underlying23 hf with ⟨hcs, _⟩ | ⟨x, len, cap, m, n, D, Pl, hcs, _, hl, hm, hmm, _, hx⟩
  · simp [Value.cells] at hcs
    obtain ⟨rfl, rfl, rfl⟩ := hcs
    exact ⟨[], none, 0, rfl, Nat.zero_le _, fun h => by simp at h⟩
  · simp [Value.cells] at hcs
    obtain ⟨rfl, rfl, rfl⟩ := hcs
    simp at hmm
    subst hmm
    have q2 : Try.prog.cellsOf 37 = 4 := by kernel_rfl
    rw [q2] at hx
    have hall : ∀ i, i < len0 → ∃ y : Value × Ac, W.cell? (x.add (i * 4)) = some (.int .u8 (y.2.what : Nat)) ∧ W.cell? ((x.add (i * 4)).add 1) = some (.bool y.2.high) ∧ W.cell? ((x.add (i * 4)).add 2) = some y.1 ∧ W.cell? ((x.add (i * 4)).add 3) = some (.int .i16 y.2.cols) ∧ S16 W y.1 y.2.l ∧ y.2.Ok := by
      intro i hi
      obtain ⟨cs', h1, h2⟩ := hx i (by omega)
      obtain ⟨a, u, rfl, hs, ha⟩ := ac_at enc W h2
      obtain ⟨_, _, hcc⟩ := World.cells?_some h1
      refine ⟨⟨u, a⟩, ?_, ?_, ?_, ?_, hs, ha⟩
      · simpa [Addr.add] using hcc 0 (by simp)
      · exact hcc 1 (by simp)
      · exact hcc 2 (by simp)
      · exact hcc 3 (by simp)
    obtain ⟨T, hT⟩ := choose_lt hall
    refine ⟨(List.range len0).map fun i => (T i).2, some x, m, by simp, by simp; omega, fun h0 => ?_⟩
    simp only [List.length_map, List.length_range] at h0 ⊢
    obtain ⟨b, off, spot⟩ := x
    have hspot : spot = none := by simpa [Addr.add] using World.cell?_spot (hT 0 (by omega)).1
    subst hspot
    have hc := fun i (hi : i < len0) => hT i hi
    simp only [Go.WideShapes.add_plain] at hc
    refine ⟨b, off, rfl, World.block_lt_of_cell? (a := ⟨b, off + 0 * 4, none⟩) W (hc 0 (by omega)).1, fun i hi => ?_⟩
    have e2 : (List.map (fun i => (T i).2) (List.range len0))[i]'(by simpa using hi) = (T i).2 := by simp
    rw [e2]
    exact ⟨(hc i hi).1, (hc i hi).2.1, ⟨_, (hc i hi).2.2.1, (hc i hi).2.2.2.2.1⟩, (hc i hi).2.2.2.1, (hc i hi).2.2.2.2.2⟩
set_option maxRecDepth 100000 in
theorem open_s16 {v : Value} {d : DataW H} {p : List MemPlace} (ok : Value.okWide Try.prog W .any base 35 v) (k : DataW.Trod enc Try.prog W 0 (fun _ => true) true 35 v d p) : ∃ l, S16 W v l := by
  obtain ⟨a0, len0, cap0, rfl⟩ := okWide_slice Try.underlying35 ok
  obtain ⟨fuel, hf⟩ := k
  exact open_s16f enc W (n := fuel) (c := .slice a0 len0 cap0) hf
set_option maxRecDepth 100000 in
theorem open_u8 {v : Value} {d : DataW H} {p : List MemPlace} (k : DataW.Trod enc Try.prog W 0 (fun _ => true) true 5 v d p) (ok : Value.okWide Try.prog W .any base 5 v) : ∃ n : Nat, v = .int .u8 (n : Nat) ∧ n < 256 := by
  obtain ⟨q, rfl, _, _, wf⟩ := open_int Try.underlying5 ok k
  obtain ⟨n, rfl, hn⟩ := n_u8 wf
  exact ⟨n, rfl, hn⟩
set_option maxRecDepth 100000 in
theorem open_u16 {v : Value} {d : DataW H} {p : List MemPlace} (k : DataW.Trod enc Try.prog W 0 (fun _ => true) true 50 v d p) (ok : Value.okWide Try.prog W .any base 50 v) : ∃ n : Nat, v = .int .u16 (n : Nat) ∧ n < 65536 := by
  obtain ⟨q, rfl, _, _, wf⟩ := open_int Try.underlying50 ok k
  obtain ⟨n, rfl, hn⟩ := n_u16 wf
  exact ⟨n, rfl, hn⟩
set_option maxRecDepth 100000 in
theorem open_i16 {v : Value} {d : DataW H} {p : List MemPlace} (k : DataW.Trod enc Try.prog W 0 (fun _ => true) true 22 v d p) (ok : Value.okWide Try.prog W .any base 22 v) : ∃ n : Int, v = .int .i16 n ∧ -32768 ≤ n ∧ n ≤ 32767 := by
  obtain ⟨q, rfl, _, _, wf⟩ := open_int Try.underlying22 ok k
  exact ⟨q, rfl, i_i16 wf⟩
set_option maxRecDepth 100000 in
theorem open_a3 {v : Value} {d : DataW H} {p : List MemPlace} (ok : Value.okWide Try.prog W .any base 57 v) (k : DataW.Trod enc Try.prog W 0 (fun _ => true) true 57 v d p) :
    ∃ x y z : Nat, v = .agg #[.int .u16 (x : Nat), .int .u16 (y : Nat), .int .u16 (z : Nat)] ∧ x < 65536 ∧ y < 65536 ∧ z < 65536 := by
  obtain ⟨cs, rfl, _⟩ : ∃ cs, v = .agg cs ∧ cs.size = Try.prog.cellsOf 57 := by
    simp only [Value.okWide, Try.underlying57] at ok
    obtain ⟨cs, h1, h2, _⟩ := ok
    exact ⟨cs, h1, h2⟩
  obtain ⟨fuel, h⟩ := k
  obtain ⟨l⟩ := cs
  simp only [Value.cells] at h
  have hl : l.length = 3 := by
    obtain ⟨_, _, _, _, hl, _⟩ := DataW.trod_array Try.underlying57 h
    exact hl.trans (by kernel_rfl)
  match l, hl with
  | [c0, c1, c2], _ =>
    obtain ⟨y0, y1, y2, m, _, h0, h1, h2⟩ := trod_array3 Try.underlying57 (by kernel_rfl) h
    obtain ⟨u, e0, _, wu⟩ := DataW.trod_int Try.underlying50 h0
    obtain ⟨s, e1, _, ws⟩ := DataW.trod_int Try.underlying50 h1
    obtain ⟨v, e2, _, wv⟩ := DataW.trod_int Try.underlying50 h2
    simp at e0 e1 e2
    subst e0 e1 e2
    obtain ⟨x, rfl, hx⟩ := n_u16 wu
    obtain ⟨y, rfl, hy⟩ := n_u16 ws
    obtain ⟨z, rfl, hz⟩ := n_u16 wv
    exact ⟨x, y, z, rfl, hx, hy, hz⟩
end
end Go.Proofs.Ytmfbknmcmopjnaa.Lab
