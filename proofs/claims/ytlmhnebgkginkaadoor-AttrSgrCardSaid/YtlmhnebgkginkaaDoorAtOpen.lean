/- What the arguments of the statements of package attr read as: drafts, attributes, numbers, rows of numbers. -/
import Derived.Test.YtlmhnebgkginkaaDoorAtRowD
import Derived.Test.YtlmhnebgkginkaaDoorAtDraft
import Derived.ProofKit
import Derived.OpenShut
import Derived.Deep.Slices
import Derived.Deep.Matrix
import Derived.Lib.SmallJoins
import Derived.Laws.IdiomArrays
namespace Go.Proofs.YtlmhnebgkginkaaDoor.Lab
open Go Go.RowKit Go.ChangeShapes Go.WideShapes Go.Deep Go.Lib Go.Joins

theorem n_u8 {n : Int} (h : (Lit.int .u8 n).wf = true) : ∃ m : Nat, n = m ∧ m < 256 := by
  have h1 : 0 ≤ n ∧ n ≤ 255 := by
    simp [Lit.wf, IntKind.min, IntKind.max, IntKind.bits, IntKind.signed] at h
    omega
  exact ⟨n.toNat, by omega, by omega⟩
theorem i_u8 {n : Int} (h : (Lit.int .u8 n).wf = true) : 0 ≤ n ∧ n ≤ 255 := by
  simp [Lit.wf, IntKind.min, IntKind.max, IntKind.bits, IntKind.signed] at h
  omega
theorem n_u16 {n : Int} (h : (Lit.int .u16 n).wf = true) : ∃ m : Nat, n = m ∧ m < 65536 := by
  have h1 : 0 ≤ n ∧ n ≤ 65535 := by
    simp [Lit.wf, IntKind.min, IntKind.max, IntKind.bits, IntKind.signed] at h
    omega
  exact ⟨n.toNat, by omega, by omega⟩
theorem i_i16 {n : Int} (h : (Lit.int .i16 n).wf = true) : -32768 ≤ n ∧ n ≤ 32767 := by
  simp [Lit.wf, IntKind.min, IntKind.max, IntKind.bits, IntKind.signed] at h
  omega
theorem i_i64 {n : Int} (h : (Lit.int .i64 n).wf = true) : -9223372036854775808 ≤ n ∧ n ≤ 9223372036854775807 := by
  simp [Lit.wf, IntKind.min, IntKind.max, IntKind.bits, IntKind.signed] at h
  omega
theorem vals_ax {W : World} {a : Addr} {n : Nat} {V : Nat → Value} (h : ∀ i, i < n → W.cell? (a.add i) = some (V i)) (hp : 0 < n) : ∃ b off, a = ⟨b, off, none⟩ ∧ b < W.heap.size ∧ ∀ i, i < n → W.cell? ⟨b, off + i, none⟩ = some (V i) := by
  obtain ⟨b, off, spot⟩ := a
  have hspot : spot = none := by simpa [Addr.add] using World.cell?_spot (h 0 hp)
  subst hspot
  have hc : ∀ i, i < n → W.cell? ⟨b, off + i, none⟩ = some (V i) := fun i hi => by rw [← Go.WideShapes.add_plain]; exact h i hi
  exact ⟨b, off, rfl, World.block_lt_of_cell? (a := ⟨b, off + 0, none⟩) W (hc 0 hp), hc⟩

section
variable {H : Type} (enc : TypeId × Value → H) (base : Nat) (W : World)
set_option maxRecDepth 100000 in
theorem three_u8 {n : Nat} {cs : List Value} {x : DataW H × List MemPlace} (h : DataW.trod enc Tryd.prog W 0 (fun _ => true) true n 37 cs = some x) :
    ∃ a b c : Nat, cs = [.int .u8 (a : Nat), .int .u8 (b : Nat), .int .u8 (c : Nat)] ∧ a < 256 ∧ b < 256 ∧ c < 256 := by
  have hl : cs.length = 3 := by
    obtain ⟨_, _, _, _, hl, _⟩ := DataW.trod_array Tryd.underlying37 h
    exact hl.trans (by kernel_rfl)
  match cs, hl with
  | [c0, c1, c2], _ =>
    obtain ⟨y0, y1, y2, m, _, h0, h1, h2⟩ := trod_array3 Tryd.underlying37 (by kernel_rfl) h
    obtain ⟨u, e0, _, wu⟩ := DataW.trod_int Tryd.underlying5 h0
    obtain ⟨s, e1, _, ws⟩ := DataW.trod_int Tryd.underlying5 h1
    obtain ⟨v, e2, _, wv⟩ := DataW.trod_int Tryd.underlying5 h2
    simp at e0 e1 e2
    subst e0 e1 e2
    obtain ⟨a, rfl, ha⟩ := n_u8 wu
    obtain ⟨b, rfl, hb⟩ := n_u8 ws
    obtain ⟨c, rfl, hc⟩ := n_u8 wv
    exact ⟨a, b, c, rfl, ha, hb, hc⟩
theorem eight {α : Type} {cs : Array α} (h : cs.size = 8) : ∃ c0 c1 c2 c3 c4 c5 c6 c7, cs = #[c0, c1, c2, c3, c4, c5, c6, c7] := by
  obtain ⟨l⟩ := cs
  match l, h with
  | [c0, c1, c2, c3, c4, c5, c6, c7], _ => exact ⟨c0, c1, c2, c3, c4, c5, c6, c7, rfl⟩
theorem nine {α : Type} {cs : Array α} (h : cs.size = 9) : ∃ c0 c1 c2 c3 c4 c5 c6 c7 c8, cs = #[c0, c1, c2, c3, c4, c5, c6, c7, c8] := by
  obtain ⟨l⟩ := cs
  match l, h with
  | [c0, c1, c2, c3, c4, c5, c6, c7, c8], _ => exact ⟨c0, c1, c2, c3, c4, c5, c6, c7, c8, rfl⟩
set_option maxRecDepth 100000 in
theorem open_dr {v : Value} {d : DataW H} {p : List MemPlace} (ok : Value.okWide Tryd.prog W .any base 39 v) (k : DataW.Trod enc Tryd.prog W 0 (fun _ => true) true 39 v d p) :
    ∃ d : Dr, v = drV d ∧ d.ok := by
  obtain ⟨cs, rfl, hsz⟩ := okWide_struct Tryd.underlying39 ok
  obtain ⟨fuel, hf⟩ := k
  obtain ⟨xs, n, _, _, hl, hlen, hq⟩ := DataW.trod_struct Tryd.underlying39 hf
  obtain ⟨c0, c1, c2, c3, c4, c5, c6, c7, rfl⟩ := eight (hsz.trans (by kernel_rfl))
  have q1 : Tryd.prog.cellsOf 24 = 1 := by kernel_rfl
  have q2 : Tryd.prog.cellsOf 5 = 1 := by kernel_rfl
  have q3 : Tryd.prog.cellsOf 37 = 3 := by kernel_rfl
  match xs, hlen with
  | [y0, y1, y2, y3], _ =>
    have h0 : DataW.trod enc Tryd.prog W 0 (fun _ => true) true n 24 (([c0, c1, c2, c3, c4, c5, c6, c7].drop 0).take (Tryd.prog.cellsOf 24)) = some y0 := hq 0 _ rfl
    rw [q1] at h0
    replace h0 : DataW.trod enc Tryd.prog W 0 (fun _ => true) true n 24 [c0] = some y0 := h0
    have h1 : DataW.trod enc Tryd.prog W 0 (fun _ => true) true n 5 (([c0, c1, c2, c3, c4, c5, c6, c7].drop 1).take (Tryd.prog.cellsOf 5)) = some y1 := hq 1 _ rfl
    rw [q2] at h1
    replace h1 : DataW.trod enc Tryd.prog W 0 (fun _ => true) true n 5 [c1] = some y1 := h1
    have h2 : DataW.trod enc Tryd.prog W 0 (fun _ => true) true n 37 (([c0, c1, c2, c3, c4, c5, c6, c7].drop 2).take (Tryd.prog.cellsOf 37)) = some y2 := hq 2 _ rfl
    rw [q3] at h2
    replace h2 : DataW.trod enc Tryd.prog W 0 (fun _ => true) true n 37 [c2, c3, c4] = some y2 := h2
    have h3 : DataW.trod enc Tryd.prog W 0 (fun _ => true) true n 37 (([c0, c1, c2, c3, c4, c5, c6, c7].drop 5).take (Tryd.prog.cellsOf 37)) = some y3 := hq 3 _ rfl
    rw [q3] at h3
    replace h3 : DataW.trod enc Tryd.prog W 0 (fun _ => true) true n 37 [c5, c6, c7] = some y3 := h3
    obtain ⟨K, e0, _, w0⟩ := DataW.trod_int Tryd.underlying24 h0
    obtain ⟨p, e1, _, w1⟩ := DataW.trod_int Tryd.underlying5 h1
    obtain ⟨f0, f1, f2, e2, g0, g1, g2⟩ := three_u8 enc W h2
    obtain ⟨b0, b1, b2, e3, l0, l1, l2⟩ := three_u8 enc W h3
    simp at e0 e1 e2 e3
    obtain ⟨rfl, rfl, rfl⟩ := e2
    obtain ⟨rfl, rfl, rfl⟩ := e3
    subst e0 e1
    obtain ⟨K, rfl, hK⟩ := n_u16 w0
    obtain ⟨p, rfl, hp⟩ := n_u8 w1
    exact ⟨⟨K, p, f0, f1, f2, b0, b1, b2⟩, rfl, hK, hp, g0, g1, g2, l0, l1, l2⟩
set_option maxRecDepth 100000 in
theorem col_at {n : Nat} {cs : List Value} {x : DataW H × List MemPlace} (h : DataW.trod enc Tryd.prog W 0 (fun _ => true) true n 23 cs = some x) :
    ∃ c : Cl, cs = [.int .u8 c.k, .int .u8 c.r, .int .u8 c.g, .int .u8 c.b] ∧ c.ok := by
  obtain ⟨xs, n, _, _, hl, hlen, hq⟩ := DataW.trod_struct Tryd.underlying23 h
  have hl4 : cs.length = 4 := hl.trans (by kernel_rfl)
  have q2 : Tryd.prog.cellsOf 5 = 1 := by kernel_rfl
  match cs, hl4, xs, hlen with
  | [c0, c1, c2, c3], _, [y0, y1, y2, y3], _ =>
    have h0 : DataW.trod enc Tryd.prog W 0 (fun _ => true) true n 5 (([c0, c1, c2, c3].drop 0).take (Tryd.prog.cellsOf 5)) = some y0 := hq 0 _ rfl
    rw [q2] at h0
    replace h0 : DataW.trod enc Tryd.prog W 0 (fun _ => true) true n 5 [c0] = some y0 := h0
    have h1 : DataW.trod enc Tryd.prog W 0 (fun _ => true) true n 5 (([c0, c1, c2, c3].drop 1).take (Tryd.prog.cellsOf 5)) = some y1 := hq 1 _ rfl
    rw [q2] at h1
    replace h1 : DataW.trod enc Tryd.prog W 0 (fun _ => true) true n 5 [c1] = some y1 := h1
    have h2 : DataW.trod enc Tryd.prog W 0 (fun _ => true) true n 5 (([c0, c1, c2, c3].drop 2).take (Tryd.prog.cellsOf 5)) = some y2 := hq 2 _ rfl
    rw [q2] at h2
    replace h2 : DataW.trod enc Tryd.prog W 0 (fun _ => true) true n 5 [c2] = some y2 := h2
    have h3 : DataW.trod enc Tryd.prog W 0 (fun _ => true) true n 5 (([c0, c1, c2, c3].drop 3).take (Tryd.prog.cellsOf 5)) = some y3 := hq 3 _ rfl
    rw [q2] at h3
    replace h3 : DataW.trod enc Tryd.prog W 0 (fun _ => true) true n 5 [c3] = some y3 := h3
    obtain ⟨k, e0, _, w0⟩ := DataW.trod_int Tryd.underlying5 h0
    obtain ⟨r, e1, _, w1⟩ := DataW.trod_int Tryd.underlying5 h1
    obtain ⟨g, e2, _, w2⟩ := DataW.trod_int Tryd.underlying5 h2
    obtain ⟨b, e3, _, w3⟩ := DataW.trod_int Tryd.underlying5 h3
    simp at e0 e1 e2 e3
    subst e0 e1 e2 e3
    exact ⟨⟨k, r, g, b⟩, rfl, i_u8 w0, i_u8 w1, i_u8 w2, i_u8 w3⟩
set_option maxRecDepth 100000 in
theorem open_att {v : Value} {d : DataW H} {p : List MemPlace} (ok : Value.okWide Tryd.prog W .any base 26 v) (k : DataW.Trod enc Tryd.prog W 0 (fun _ => true) true 26 v d p) :
    ∃ a : At, v = attV a ∧ a.ok := by
  obtain ⟨cs, rfl, hsz⟩ := okWide_struct Tryd.underlying26 ok
  obtain ⟨fuel, hf⟩ := k
  obtain ⟨xs, n, _, _, hl, hlen, hq⟩ := DataW.trod_struct Tryd.underlying26 hf
  obtain ⟨c0, c1, c2, c3, c4, c5, c6, c7, c8, rfl⟩ := nine (hsz.trans (by kernel_rfl))
  have q1 : Tryd.prog.cellsOf 24 = 1 := by kernel_rfl
  have q4 : Tryd.prog.cellsOf 23 = 4 := by kernel_rfl
  match xs, hlen with
  | [y0, y1, y2], _ =>
    have h0 : DataW.trod enc Tryd.prog W 0 (fun _ => true) true n 23 (([c0, c1, c2, c3, c4, c5, c6, c7, c8].drop 0).take (Tryd.prog.cellsOf 23)) = some y0 := hq 0 _ rfl
    rw [q4] at h0
    replace h0 : DataW.trod enc Tryd.prog W 0 (fun _ => true) true n 23 [c0, c1, c2, c3] = some y0 := h0
    have h1 : DataW.trod enc Tryd.prog W 0 (fun _ => true) true n 23 (([c0, c1, c2, c3, c4, c5, c6, c7, c8].drop 4).take (Tryd.prog.cellsOf 23)) = some y1 := hq 1 _ rfl
    rw [q4] at h1
    replace h1 : DataW.trod enc Tryd.prog W 0 (fun _ => true) true n 23 [c4, c5, c6, c7] = some y1 := h1
    have h2 : DataW.trod enc Tryd.prog W 0 (fun _ => true) true n 24 (([c0, c1, c2, c3, c4, c5, c6, c7, c8].drop 8).take (Tryd.prog.cellsOf 24)) = some y2 := hq 2 _ rfl
    rw [q1] at h2
    replace h2 : DataW.trod enc Tryd.prog W 0 (fun _ => true) true n 24 [c8] = some y2 := h2
    obtain ⟨F, e0, hF⟩ := col_at enc W h0
    obtain ⟨B, e1, hB⟩ := col_at enc W h1
    obtain ⟨f, e2, _, w2⟩ := DataW.trod_int Tryd.underlying24 h2
    simp at e0 e1 e2
    obtain ⟨rfl, rfl, rfl, rfl⟩ := e0
    obtain ⟨rfl, rfl, rfl, rfl⟩ := e1
    subst e2
    obtain ⟨f, rfl, hfl⟩ := n_u16 w2
    exact ⟨⟨F, B, f⟩, rfl, hF, hB, hfl⟩
set_option maxRecDepth 100000 in
theorem open_u8 {v : Value} {d : DataW H} {p : List MemPlace} (k : DataW.Trod enc Tryd.prog W 0 (fun _ => true) true 5 v d p) (ok : Value.okWide Tryd.prog W .any base 5 v) : ∃ n : Nat, v = .int .u8 (n : Nat) ∧ n < 256 := by
  obtain ⟨q, rfl, _, _, wf⟩ := open_int Tryd.underlying5 ok k
  obtain ⟨n, rfl, hn⟩ := n_u8 wf
  exact ⟨n, rfl, hn⟩
set_option maxRecDepth 100000 in
theorem open_s16 {v : Value} {d : DataW H} {p : List MemPlace} (ok : Value.okWide Tryd.prog W .any base 28 v) (k : DataW.Trod enc Tryd.prog W 0 (fun _ => true) true 28 v d p) : ∃ l, S16 W v l := by
  obtain ⟨a0, len0, cap0, rfl⟩ := okWide_slice Tryd.underlying28 ok
  obtain ⟨fuel, h⟩ := k
  rcases open_ints Tryd.underlying28 Tryd.underlying55 (by kernel_rfl) h with ⟨hcs, _⟩ | ⟨a, len, cap, zs, hcs, _, hl, hm, hz, _, hcell, hw⟩
  · obtain ⟨rfl, rfl, rfl⟩ : a0 = none ∧ len0 = 0 ∧ cap0 = 0 := by simpa [Value.cells] using hcs
    exact ⟨[], none, 0, rfl, by simp, by simp, fun h => by simp at h⟩
  · obtain ⟨rfl, rfl, rfl⟩ : a0 = some a ∧ len0 = len ∧ cap0 = cap := by simpa [Value.cells] using hcs
    have hzl : zs.length = cap0 := by simpa using hz
    have htl : (zs.take len0).length = len0 := by rw [List.length_take]; omega
    refine ⟨zs.take len0, some a, cap0, by rw [htl], by rw [htl]; omega, fun x hx => i_i16 (hw x (List.mem_of_mem_take hx)), fun h0 => ?_⟩
    rw [htl] at h0 ⊢
    obtain ⟨b, off, rfl, hb, hc⟩ := vals_ax (V := fun i => .int .i16 (zs.getD i 0)) hcell (by omega)
    refine ⟨b, off, rfl, hb, fun j hj => ?_⟩
    rw [hc j (by omega)]
    simp [List.getD_eq_getElem?_getD, hj]
set_option maxRecDepth 100000 in
theorem open_u16s {v : Value} {d : DataW H} {p : List MemPlace} (ok : Value.okWide Tryd.prog W .any base 40 v) (k : DataW.Trod enc Tryd.prog W 0 (fun _ => true) true 40 v d p) : ∃ cs, U16s W v cs := by
  obtain ⟨a0, len0, cap0, rfl⟩ := okWide_slice Tryd.underlying40 ok
  obtain ⟨fuel, h⟩ := k
  rcases open_ints Tryd.underlying40 Tryd.underlying24 (by kernel_rfl) h with ⟨hcs, _⟩ | ⟨a, len, cap, zs, hcs, _, hl, hm, hz, _, hcell, hw⟩
  · obtain ⟨rfl, rfl, rfl⟩ : a0 = none ∧ len0 = 0 ∧ cap0 = 0 := by simpa [Value.cells] using hcs
    exact ⟨[], none, 0, rfl, by simp, by simp, fun h => by simp at h⟩
  · obtain ⟨rfl, rfl, rfl⟩ : a0 = some a ∧ len0 = len ∧ cap0 = cap := by simpa [Value.cells] using hcs
    have hzl : zs.length = cap0 := by simpa using hz
    have htl : ((zs.take len0).map Int.toNat).length = len0 := by rw [List.length_map, List.length_take]; omega
    have hb : ∀ x ∈ zs, 0 ≤ x ∧ x < 65536 := fun x hx => by
      obtain ⟨m, rfl, hm⟩ := n_u16 (hw x hx)
      omega
    refine ⟨(zs.take len0).map Int.toNat, some a, cap0, by rw [htl], by rw [htl]; omega, fun x hx => ?_, fun h0 => ?_⟩
    · obtain ⟨y, hy, rfl⟩ := List.mem_map.1 hx
      have := hb y (List.mem_of_mem_take hy)
      omega
    · rw [htl] at h0 ⊢
      obtain ⟨b, off, rfl, hbl, hc⟩ := vals_ax (V := fun i => .int .u16 (zs.getD i 0)) hcell (by omega)
      refine ⟨b, off, rfl, hbl, fun j hj => ?_⟩
      have hjz : j < zs.length := by omega
      have := hb _ (List.getElem_mem hjz)
      rw [hc j (by omega)]
      simp [List.getD_eq_getElem?_getD, hj, hjz]
      omega
set_option maxRecDepth 100000 in
theorem open_a3 {v : Value} {d : DataW H} {p : List MemPlace} (ok : Value.okWide Tryd.prog W .any base 56 v) (k : DataW.Trod enc Tryd.prog W 0 (fun _ => true) true 56 v d p) :
    ∃ x y z : Int, v = .agg #[.int .i16 x, .int .i16 y, .int .i16 z] ∧ (-32768 ≤ x ∧ x ≤ 32767) ∧ (-32768 ≤ y ∧ y ≤ 32767) ∧ (-32768 ≤ z ∧ z ≤ 32767) := by
  obtain ⟨cs, rfl, _⟩ : ∃ cs, v = .agg cs ∧ cs.size = Tryd.prog.cellsOf 56 := by
    simp only [Value.okWide, Tryd.underlying56] at ok
    obtain ⟨cs, h1, h2, _⟩ := ok
    exact ⟨cs, h1, h2⟩
  obtain ⟨fuel, h⟩ := k
  obtain ⟨l⟩ := cs
  simp only [Value.cells] at h
  have hl : l.length = 3 := by
    obtain ⟨_, _, _, _, hl, _⟩ := DataW.trod_array Tryd.underlying56 h
    exact hl.trans (by kernel_rfl)
  match l, hl with
  | [c0, c1, c2], _ =>
    obtain ⟨y0, y1, y2, m, _, h0, h1, h2⟩ := trod_array3 Tryd.underlying56 (by kernel_rfl) h
    obtain ⟨u, e0, _, wu⟩ := DataW.trod_int Tryd.underlying55 h0
    obtain ⟨s, e1, _, ws⟩ := DataW.trod_int Tryd.underlying55 h1
    obtain ⟨v, e2, _, wv⟩ := DataW.trod_int Tryd.underlying55 h2
    simp at e0 e1 e2
    subst e0 e1 e2
    exact ⟨u, s, v, rfl, i_i16 wu, i_i16 ws, i_i16 wv⟩
set_option maxRecDepth 100000 in
theorem open_rows {v : Value} {d : DataW H} {p : List MemPlace} (ok : Value.okWide Tryd.prog W .any base 27 v) (k : DataW.Trod enc Tryd.prog W 0 (fun _ => true) true 27 v d p) :
    ∃ R, MatAt W (fun _ => True) v R ∧ RowsI R := by
  obtain ⟨a0, len0, cap0, rfl⟩ := okWide_slice Tryd.underlying27 ok
  obtain ⟨fuel, h⟩ := k
  rcases open_int_rows Tryd.underlying27 Tryd.underlying50 Tryd.underlying3 (by kernel_rfl) (by kernel_rfl) h with ⟨hcs, _⟩ | ⟨a, len, cap, A, L, C, Z, hcs, _, hl, hm, _, hr⟩
  · obtain ⟨rfl, rfl, rfl⟩ : a0 = none ∧ len0 = 0 ∧ cap0 = 0 := by simpa [Value.cells] using hcs
    exact ⟨[], MatAt.nil _ _ _ _, fun r hr => by simp at hr⟩
  · obtain ⟨rfl, rfl, rfl⟩ : a0 = some a ∧ len0 = len ∧ cap0 = cap := by simpa [Value.cells] using hcs
    have hq : ∀ r, r < cap0 → ∀ x ∈ (Z r).take (L r), -9223372036854775808 ≤ x ∧ x ≤ 9223372036854775807 := fun r h x hx => i_i64 ((hr r h).2.2.2.2.1 x (List.mem_of_mem_take hx))
    refine ⟨(List.range len0).map fun r => (Z r).take (L r), ⟨some a, cap0, by simp, by simp; omega, by simp; omega, fun h0 => ?_⟩, ?_⟩
    · simp only [List.length_map, List.length_range] at h0 ⊢
      obtain ⟨b, off, rfl, hb, hc⟩ := vals_ax (n := cap0) (V := fun r => .slice (A r) (L r) (C r)) (fun r hr' => (hr r hr').1) (by omega)
      refine ⟨b, off, rfl, trivial, hb, fun j hj => ⟨_, hc j (by omega), ?_⟩⟩
      obtain ⟨_, r1, r2, r3, r4, r5, r6⟩ := hr j (by omega)
      have htl : ((Z j).take (L j)).length = L j := by rw [List.length_take]; omega
      have eg : (((List.range len0).map fun r => (Z r).take (L r)).getD j []) = (Z j).take (L j) := by simp [List.getD_eq_getElem?_getD, hj]
      rw [eg]
      refine ⟨A j, C j, by rw [htl], by rw [htl]; omega, by rw [htl]; omega, fun h1 => ?_⟩
      rw [htl] at h1 ⊢
      cases hA : A j with
      | none => have := r5 hA; omega
      | some a' =>
        obtain ⟨b', off', rfl, hb', hc'⟩ := vals_ax (n := C j) (V := fun c => .int .i64 ((Z j).getD c 0)) (r6 a' hA).2 (by omega)
        refine ⟨b', off', rfl, trivial, hb', fun i hi => ?_⟩
        rw [hc' i (by omega)]
        simp [List.getD_eq_getElem?_getD, hi]
    · intro q hq'
      obtain ⟨r, hr', rfl⟩ := List.mem_map.1 hq'
      exact hq r (by have := List.mem_range.1 hr'; omega)
end
end Go.Proofs.YtlmhnebgkginkaaDoor.Lab
