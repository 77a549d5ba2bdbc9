/- Rows of cells, and three numbers, as they come in. -/
import Derived.Test.YtdeahnphcfcfpaaGrOpA
namespace Go.Proofs.Ytdeahnphcfcfpaa.Lab
open Go Go.RowKit Go.ChangeShapes Go.WideShapes Go.Deep Go.Lib Go.Joins

theorem n_u16 {n : Int} (h : (Lit.int .u16 n).wf = true) : ∃ m : Nat, n = m ∧ m < 65536 := by
  have h1 : 0 ≤ n ∧ n ≤ 65535 := by
    simp [Lit.wf, IntKind.min, IntKind.max, IntKind.bits, IntKind.signed] at h
    omega
  exact ⟨n.toNat, by omega, by omega⟩
instance : Inhabited Cel := ⟨Cel.z⟩
section
variable {H : Type} (enc : TypeId × Value → H) (base : Nat) (W : World)
set_option maxRecDepth 100000 in
theorem col_at {n : Nat} {cs : List Value} {x : DataW H × List MemPlace} (h : DataW.trod enc Try.prog W 0 (fun _ => true) true n 36 cs = some x) :
    ∃ c : Cl, cs = [.int .u8 c.k, .int .u8 c.r, .int .u8 c.g, .int .u8 c.b] := by
  obtain ⟨xs, n, _, _, hl, hlen, hq⟩ := DataW.trod_struct Try.underlying36 h
  have hl4 : cs.length = 4 := hl.trans (by kernel_rfl)
  have q2 : Try.prog.cellsOf 5 = 1 := by kernel_rfl
  match cs, hl4, xs, hlen with
  | [c0, c1, c2, c3], _, [y0, y1, y2, y3], _ =>
    have h0 : DataW.trod enc Try.prog W 0 (fun _ => true) true n 5 (([c0, c1, c2, c3].drop 0).take (Try.prog.cellsOf 5)) = some y0 := hq 0 _ rfl
    rw [q2] at h0
    replace h0 : DataW.trod enc Try.prog W 0 (fun _ => true) true n 5 [c0] = some y0 := h0
    have h1 : DataW.trod enc Try.prog W 0 (fun _ => true) true n 5 (([c0, c1, c2, c3].drop 1).take (Try.prog.cellsOf 5)) = some y1 := hq 1 _ rfl
    rw [q2] at h1
    replace h1 : DataW.trod enc Try.prog W 0 (fun _ => true) true n 5 [c1] = some y1 := h1
    have h2 : DataW.trod enc Try.prog W 0 (fun _ => true) true n 5 (([c0, c1, c2, c3].drop 2).take (Try.prog.cellsOf 5)) = some y2 := hq 2 _ rfl
    rw [q2] at h2
    replace h2 : DataW.trod enc Try.prog W 0 (fun _ => true) true n 5 [c2] = some y2 := h2
    have h3 : DataW.trod enc Try.prog W 0 (fun _ => true) true n 5 (([c0, c1, c2, c3].drop 3).take (Try.prog.cellsOf 5)) = some y3 := hq 3 _ rfl
    rw [q2] at h3
    replace h3 : DataW.trod enc Try.prog W 0 (fun _ => true) true n 5 [c3] = some y3 := h3
    obtain ⟨k, e0, _, _⟩ := DataW.trod_int Try.underlying5 h0
    obtain ⟨r, e1, _, _⟩ := DataW.trod_int Try.underlying5 h1
    obtain ⟨g, e2, _, _⟩ := DataW.trod_int Try.underlying5 h2
    obtain ⟨b, e3, _, _⟩ := DataW.trod_int Try.underlying5 h3
    simp at e0 e1 e2 e3
    subst e0 e1 e2 e3
    exact ⟨⟨k, r, g, b⟩, rfl⟩
set_option maxRecDepth 100000 in
theorem att_at {n : Nat} {cs : List Value} {x : DataW H × List MemPlace} (h : DataW.trod enc Try.prog W 0 (fun _ => true) true n 39 cs = some x) :
    ∃ a : At, cs = [.int .u8 a.fg.k, .int .u8 a.fg.r, .int .u8 a.fg.g, .int .u8 a.fg.b, .int .u8 a.bg.k, .int .u8 a.bg.r, .int .u8 a.bg.g, .int .u8 a.bg.b, .int .u16 (a.fl : Nat)] := by
  obtain ⟨xs, n, _, _, hl, hlen, hq⟩ := DataW.trod_struct Try.underlying39 h
  have hl9 : cs.length = 9 := hl.trans (by kernel_rfl)
  have q1 : Try.prog.cellsOf 37 = 1 := by kernel_rfl
  have q4 : Try.prog.cellsOf 36 = 4 := by kernel_rfl
  match cs, hl9, xs, hlen with
  | [c0, c1, c2, c3, c4, c5, c6, c7, c8], _, [y0, y1, y2], _ =>
    have h0 : DataW.trod enc Try.prog W 0 (fun _ => true) true n 36 (([c0, c1, c2, c3, c4, c5, c6, c7, c8].drop 0).take (Try.prog.cellsOf 36)) = some y0 := hq 0 _ rfl
    rw [q4] at h0
    replace h0 : DataW.trod enc Try.prog W 0 (fun _ => true) true n 36 [c0, c1, c2, c3] = some y0 := h0
    have h1 : DataW.trod enc Try.prog W 0 (fun _ => true) true n 36 (([c0, c1, c2, c3, c4, c5, c6, c7, c8].drop 4).take (Try.prog.cellsOf 36)) = some y1 := hq 1 _ rfl
    rw [q4] at h1
    replace h1 : DataW.trod enc Try.prog W 0 (fun _ => true) true n 36 [c4, c5, c6, c7] = some y1 := h1
    have h2 : DataW.trod enc Try.prog W 0 (fun _ => true) true n 37 (([c0, c1, c2, c3, c4, c5, c6, c7, c8].drop 8).take (Try.prog.cellsOf 37)) = some y2 := hq 2 _ rfl
    rw [q1] at h2
    replace h2 : DataW.trod enc Try.prog W 0 (fun _ => true) true n 37 [c8] = some y2 := h2
    obtain ⟨F, e0⟩ := col_at enc W h0
    obtain ⟨B, e1⟩ := col_at enc W h1
    obtain ⟨f, e2, _, w2⟩ := DataW.trod_int Try.underlying37 h2
    simp at e0 e1 e2
    obtain ⟨rfl, rfl, rfl, rfl⟩ := e0
    obtain ⟨rfl, rfl, rfl, rfl⟩ := e1
    subst e2
    obtain ⟨f, rfl, _⟩ := n_u16 w2
    exact ⟨⟨F, B, f⟩, rfl⟩
set_option maxRecDepth 100000 in
theorem cell_at {n : Nat} {cs : List Value} {x : DataW H × List MemPlace} (h : DataW.trod enc Try.prog W 0 (fun _ => true) true n 42 cs = some x) :
    ∃ c : Cel, cs = [.int .i32 c.ru, .int .i32 c.m0, .int .i32 c.m1, .int .u8 c.k, .int .u8 c.a.fg.k, .int .u8 c.a.fg.r, .int .u8 c.a.fg.g, .int .u8 c.a.fg.b, .int .u8 c.a.bg.k, .int .u8 c.a.bg.r, .int .u8 c.a.bg.g, .int .u8 c.a.bg.b, .int .u16 (c.a.fl : Nat), .int .u8 c.l] := by
  obtain ⟨xs, m, _, _, hl, hlen, hq⟩ := DataW.trod_struct Try.underlying42 h
  have hl14 : cs.length = 14 := hl.trans (by kernel_rfl)
  have q1 : Try.prog.cellsOf 21 = 1 := by kernel_rfl
  have q2 : Try.prog.cellsOf 34 = 2 := by kernel_rfl
  have q3 : Try.prog.cellsOf 5 = 1 := by kernel_rfl
  have q4 : Try.prog.cellsOf 39 = 9 := by kernel_rfl
  have q5 : Try.prog.cellsOf 40 = 1 := by kernel_rfl
  match cs, hl14, xs, hlen with
  | [c0, c1, c2, c3, c4, c5, c6, c7, c8, c9, c10, c11, c12, c13], _, [y0, y1, y2, y3, y4], _ =>
    have h0 : DataW.trod enc Try.prog W 0 (fun _ => true) true m 21 (([c0, c1, c2, c3, c4, c5, c6, c7, c8, c9, c10, c11, c12, c13].drop 0).take (Try.prog.cellsOf 21)) = some y0 := hq 0 _ rfl
    rw [q1] at h0
    replace h0 : DataW.trod enc Try.prog W 0 (fun _ => true) true m 21 [c0] = some y0 := h0
    have h1 : DataW.trod enc Try.prog W 0 (fun _ => true) true m 34 (([c0, c1, c2, c3, c4, c5, c6, c7, c8, c9, c10, c11, c12, c13].drop 1).take (Try.prog.cellsOf 34)) = some y1 := hq 1 _ rfl
    rw [q2] at h1
    replace h1 : DataW.trod enc Try.prog W 0 (fun _ => true) true m 34 [c1, c2] = some y1 := h1
    have h2 : DataW.trod enc Try.prog W 0 (fun _ => true) true m 5 (([c0, c1, c2, c3, c4, c5, c6, c7, c8, c9, c10, c11, c12, c13].drop 3).take (Try.prog.cellsOf 5)) = some y2 := hq 2 _ rfl
    rw [q3] at h2
    replace h2 : DataW.trod enc Try.prog W 0 (fun _ => true) true m 5 [c3] = some y2 := h2
    have h3 : DataW.trod enc Try.prog W 0 (fun _ => true) true m 39 (([c0, c1, c2, c3, c4, c5, c6, c7, c8, c9, c10, c11, c12, c13].drop 4).take (Try.prog.cellsOf 39)) = some y3 := hq 3 _ rfl
    rw [q4] at h3
    replace h3 : DataW.trod enc Try.prog W 0 (fun _ => true) true m 39 [c4, c5, c6, c7, c8, c9, c10, c11, c12] = some y3 := h3
    have h4 : DataW.trod enc Try.prog W 0 (fun _ => true) true m 40 (([c0, c1, c2, c3, c4, c5, c6, c7, c8, c9, c10, c11, c12, c13].drop 13).take (Try.prog.cellsOf 40)) = some y4 := hq 4 _ rfl
    rw [q5] at h4
    replace h4 : DataW.trod enc Try.prog W 0 (fun _ => true) true m 40 [c13] = some y4 := h4
    obtain ⟨ru, e0, _, _⟩ := DataW.trod_int Try.underlying21 h0
    obtain ⟨zs, j, _, _, _, hz, hzq⟩ := DataW.trod_array Try.underlying34 h1
    rw [q1] at hzq
    obtain ⟨z0, z1, rfl⟩ : ∃ z0 z1, zs = [z0, z1] := by
      match zs, hz with
      | [z0, z1], _ => exact ⟨z0, z1, rfl⟩
    have g0 : DataW.trod enc Try.prog W 0 (fun _ => true) true j 21 [c1] = some z0 := hzq 0 (by omega)
    have g1 : DataW.trod enc Try.prog W 0 (fun _ => true) true j 21 [c2] = some z1 := hzq 1 (by omega)
    obtain ⟨m0, e1, _, _⟩ := DataW.trod_int Try.underlying21 g0
    obtain ⟨m1, e2, _, _⟩ := DataW.trod_int Try.underlying21 g1
    obtain ⟨k, e3, _, _⟩ := DataW.trod_int Try.underlying5 h2
    obtain ⟨a, e4⟩ := att_at enc W h3
    obtain ⟨l, e5, _, _⟩ := DataW.trod_int Try.underlying40 h4
    simp at e0 e1 e2 e3 e4 e5
    subst e0 e1 e2 e3 e5
    obtain ⟨rfl, rfl, rfl, rfl, rfl, rfl, rfl, rfl, rfl⟩ := e4
    exact ⟨⟨ru, m0, m1, k, a, l⟩, rfl⟩
set_option maxRecDepth 100000 in
theorem open_cells {v : Value} {d : DataW H} {p : List MemPlace} (ok : Value.okWide Try.prog W .any base 26 v) (k : DataW.Trod enc Try.prog W 0 (fun _ => true) true 26 v d p) :
    ∃ (a : Option Addr) (len cap : Nat) (T : Nat → Cel), v = .slice a len cap ∧ len ≤ cap ∧ len ≤ maxLen ∧ cap ≤ maxLen ∧ (0 < len → ∃ b off, a = some ⟨b, off, none⟩ ∧ b < W.heap.size ∧ ∀ i, i < len → C14 W b (off + i * 14) (T i)) := by
  obtain ⟨a0, len0, cap0, rfl⟩ := okWide_slice Try.underlying26 ok
  obtain ⟨fuel, hf⟩ := k
  rcases open_slice Try.underlying26 hf with ⟨hcs, _⟩ | ⟨x, len, cap, m, n, D, Pl, hcs, _, hl, hm, hmm, _, hx⟩
  · simp [Value.cells] at hcs
    obtain ⟨rfl, rfl, rfl⟩ := hcs
    exact ⟨none, 0, 0, fun _ => Cel.z, rfl, Nat.le_refl _, Nat.zero_le _, Nat.zero_le _, fun h => by omega⟩
  · simp [Value.cells] at hcs
    obtain ⟨rfl, rfl, rfl⟩ := hcs
    simp at hmm
    subst hmm
    have q9 : Try.prog.cellsOf 42 = 14 := by kernel_rfl
    rw [q9] at hx
    have hall : ∀ i, i < len0 → ∃ c : Cel, W.cell? (x.add (i * 14)) = some (.int .i32 c.ru) ∧ W.cell? ((x.add (i * 14)).add 1) = some (.int .i32 c.m0) ∧ W.cell? ((x.add (i * 14)).add 2) = some (.int .i32 c.m1) ∧ W.cell? ((x.add (i * 14)).add 3) = some (.int .u8 c.k) ∧ W.cell? ((x.add (i * 14)).add 4) = some (.int .u8 c.a.fg.k) ∧ W.cell? ((x.add (i * 14)).add 5) = some (.int .u8 c.a.fg.r) ∧ W.cell? ((x.add (i * 14)).add 6) = some (.int .u8 c.a.fg.g) ∧ W.cell? ((x.add (i * 14)).add 7) = some (.int .u8 c.a.fg.b) ∧ W.cell? ((x.add (i * 14)).add 8) = some (.int .u8 c.a.bg.k) ∧ W.cell? ((x.add (i * 14)).add 9) = some (.int .u8 c.a.bg.r) ∧ W.cell? ((x.add (i * 14)).add 10) = some (.int .u8 c.a.bg.g) ∧ W.cell? ((x.add (i * 14)).add 11) = some (.int .u8 c.a.bg.b) ∧ W.cell? ((x.add (i * 14)).add 12) = some (.int .u16 (c.a.fl : Nat)) ∧ W.cell? ((x.add (i * 14)).add 13) = some (.int .u8 c.l) := by
      intro i hi
      obtain ⟨cs', h1, h2⟩ := hx i (by omega)
      obtain ⟨c, rfl⟩ := cell_at enc W h2
      obtain ⟨_, _, hc⟩ := World.cells?_some h1
      refine ⟨c, ?_, ?_, ?_, ?_, ?_, ?_, ?_, ?_, ?_, ?_, ?_, ?_, ?_, ?_⟩
      · simpa [Addr.add] using hc 0 (by simp)
      · exact hc 1 (by simp)
      · exact hc 2 (by simp)
      · exact hc 3 (by simp)
      · exact hc 4 (by simp)
      · exact hc 5 (by simp)
      · exact hc 6 (by simp)
      · exact hc 7 (by simp)
      · exact hc 8 (by simp)
      · exact hc 9 (by simp)
      · exact hc 10 (by simp)
      · exact hc 11 (by simp)
      · exact hc 12 (by simp)
      · exact hc 13 (by simp)
    obtain ⟨T, hT⟩ := choose_lt hall
    refine ⟨some x, len0, m, T, rfl, hl, Nat.le_trans hl hm, hm, fun h0 => ?_⟩
    obtain ⟨b, off, spot⟩ := x
    have hspot : spot = none := by simpa [Addr.add] using World.cell?_spot (hT 0 (by omega)).1
    subst hspot
    simp only [Go.WideShapes.add_plain] at hT
    exact ⟨b, off, rfl, World.block_lt_of_cell? (a := ⟨b, off + 0 * 14, none⟩) W (hT 0 (by omega)).1, fun i hi => hT i hi⟩
set_option maxRecDepth 100000 in
theorem open_i3 {v : Value} {d : DataW H} {p : List MemPlace} (ok : Value.okWide Try.prog W .any base 25 v) (k : DataW.Trod enc Try.prog W 0 (fun _ => true) true 25 v d p) :
    ∃ x y z : Int, v = .agg #[.int .i64 x, .int .i64 y, .int .i64 z] := by
  obtain ⟨cs, rfl, _⟩ : ∃ cs, v = .agg cs ∧ cs.size = Try.prog.cellsOf 25 := by
    simp only [Value.okWide, Try.underlying25] at ok
    obtain ⟨cs, h1, h2, _⟩ := ok
    exact ⟨cs, h1, h2⟩
  obtain ⟨fuel, h⟩ := k
  obtain ⟨l⟩ := cs
  simp only [Value.cells] at h
  have hl : l.length = 3 := by
    obtain ⟨_, _, _, _, hl, _⟩ := DataW.trod_array Try.underlying25 h
    exact hl.trans (by kernel_rfl)
  match l, hl with
  | [c0, c1, c2], _ =>
    obtain ⟨y0, y1, y2, m, _, h0, h1, h2⟩ := trod_array3 Try.underlying25 (by kernel_rfl) h
    obtain ⟨u, e0, _, _⟩ := DataW.trod_int Try.underlying3 h0
    obtain ⟨s, e1, _, _⟩ := DataW.trod_int Try.underlying3 h1
    obtain ⟨v, e2, _, _⟩ := DataW.trod_int Try.underlying3 h2
    simp at e0 e1 e2
    subst e0 e1 e2
    exact ⟨u, s, v, rfl⟩
end
/-- The first ones of such a row. -/
theorem cells_row {W : World} {a : Option Addr} {len cap k : Nat} {T : Nat → Cel} (hk : k ≤ len) (hc : len ≤ cap) (hm : len ≤ maxLen) (h : 0 < len → ∃ b off, a = some ⟨b, off, none⟩ ∧ b < W.heap.size ∧ ∀ i, i < len → C14 W b (off + i * 14) (T i)) : RowIn W (.slice a k cap) ((List.range k).map T) := by
  have hl : ((List.range k).map T).length = k := by rw [List.length_map, List.length_range]
  refine ⟨a, cap, by rw [hl], by rw [hl]; omega, by rw [hl]; omega, fun h0 => ?_⟩
  rw [hl] at h0
  obtain ⟨b, off, ha, hb, hC⟩ := h (by omega)
  refine ⟨b, off, ha, hb, fun i hi => ?_⟩
  rw [hl] at hi
  have hg : gc ((List.range k).map T) i = T i := by rw [gc_eq (by rw [hl]; exact hi), List.getElem_map, List.getElem_range]
  rw [hg]
  exact hC i (by omega)
theorem cells_to (ad : Option Addr) (n c i : Nat) (hi : i ≤ c) (w : World) : (Instr.sliceAt 26 (.slice ad n c) none (some (.int .i64 (i : Nat))) none).run Try.prog w = .ok (.slice ad i c) w := by
  rw [run_sliceAt_slice w 26 _ _ _ _ unC, run_slice_h (P := Try.prog) (w := w) (t := 26) (ht := unC) (kh := .i64) (h := (i : Int)) (h0 := by omega) (h2 := by omega), elC, szC]
  simp only [Result.andThen, sliced, Int.toNat_natCast, Nat.sub_zero, Nat.zero_mul]
  cases ad with
  | none => simp
  | some ad =>
    obtain ⟨g, o, r⟩ := ad
    simp [Addr.add]
end Go.Proofs.Ytdeahnphcfcfpaa.Lab
