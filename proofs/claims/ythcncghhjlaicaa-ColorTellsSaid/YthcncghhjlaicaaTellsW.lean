/- The Go law ColorTells: what it says of its arguments as they come in. -/
import Derived.Test.YthcncghhjlaicaaTells
import Derived.Test.YthcncghhjlaicaaColOpen
import Derived.ChangeMaps5
namespace Go.Proofs.Ythcncghhjlaicaa.Lab
open Go.RowKit Go.ChangeShapes Go.WideShapes Go.ChangeAt Go.Deep Go.Joins Go.ChangeMaps

theorem wf_byte {n : Int} (h : (Lit.int .u8 n).wf = true) : ∃ m : Nat, n = m ∧ m < 256 := by
  have h1 : 0 ≤ n ∧ n ≤ 255 := by
    simp [Lit.wf, IntKind.min, IntKind.max, IntKind.bits, IntKind.signed] at h
    omega
  exact ⟨n.toNat, by omega, by omega⟩

section
variable {H : Type} (enc : TypeId × Value → H) (base : Nat) (W : World)

theorem pal_at' {n : Nat} {cs : List Value} {x : DataW H × List MemPlace} (hf : DataW.trod enc Try.prog W 0 (fun _ => true) true n 27 cs = some x) :
    ∃ (a : Option Addr) (len cap : Nat) (ps : List V), cs = [.slice a len cap] ∧ PalS W a len ps := by
  rcases open_slice Try.underlying27 hf with ⟨hcs, _⟩ | ⟨x, len0, cap0, m, n, D, Pl, hcs, _, hl, hm, hmm, _, hx⟩
  · exact ⟨none, 0, 0, [], hcs, .inl ⟨rfl, rfl⟩⟩
  · simp at hmm
    subst hmm
    have q35 : Try.prog.cellsOf 23 = 3 := by kernel_rfl
    rw [q35] at hx
    by_cases h0 : len0 = 0
    · subst h0
      exact ⟨some x, 0, m, [], hcs, .inl ⟨rfl, rfl⟩⟩
    · have hall : ∀ i, i < m → ∃ t : V, (W.cell? (x.add (i * 3)) = some (.int .u16 t.1) ∧ W.cell? ((x.add (i * 3)).add 1) = some (.int .u16 t.2.1) ∧ W.cell? ((x.add (i * 3)).add 2) = some (.int .u16 t.2.2)) ∧ U16 t := by
        intro i hi
        obtain ⟨cs', h1, h2⟩ := hx i hi
        obtain ⟨t, rfl, hu⟩ := arr_at enc W h2
        obtain ⟨_, _, hc⟩ := World.cells?_some h1
        refine ⟨t, ⟨?_, ?_, ?_⟩, hu⟩
        · simpa [Addr.add] using hc 0 (by omega)
        · exact hc 1 (by omega)
        · exact hc 2 (by omega)
      obtain ⟨T, hT⟩ := choose_lt (p := fun i (t : V) => (W.cell? (x.add (i * 3)) = some (.int .u16 t.1) ∧ W.cell? ((x.add (i * 3)).add 1) = some (.int .u16 t.2.1) ∧ W.cell? ((x.add (i * 3)).add 2) = some (.int .u16 t.2.2)) ∧ U16 t) hall
      refine ⟨some x, len0, m, (List.range len0).map T, hcs, .inr ?_⟩
      obtain ⟨b, off, spot⟩ := x
      have hspot : spot = none := by simpa [Addr.add] using World.cell?_spot (hT 0 (by omega)).1.1
      subst hspot
      have hc := fun i (hi : i < m) => (hT i hi).1
      simp only [add_plain] at hc
      refine ⟨b, off, rfl, block_lt (hc 0 (by omega)).1, by omega, by simp, fun i hi => ?_⟩
      have e : ((List.range len0).map T)[i]?.getD (0, 0, 0) = T i := by
        rw [List.getElem?_map, List.getElem?_range hi]
        rfl
      rw [e]
      exact ⟨(hT i (by omega)).2, hc i (by omega)⟩

set_option maxRecDepth 100000 in
theorem open_two {v : Value} {d : DataW H} {p : List MemPlace} (ok : Value.okWide Try.prog W .any base 24 v) (k : DataW.Trod enc Try.prog W 0 (fun _ => true) true 24 v d p) :
    ∃ t u : V, v = .agg #[.int .u16 t.1, .int .u16 t.2.1, .int .u16 t.2.2, .int .u16 u.1, .int .u16 u.2.1, .int .u16 u.2.2] ∧ U16 t ∧ U16 u := by
  obtain ⟨cs, rfl, hsz⟩ : ∃ cs, v = .agg cs ∧ cs.size = Try.prog.cellsOf 24 := by
    simp only [Value.okWide, Try.underlying24] at ok
    obtain ⟨cs, h1, h2, _⟩ := ok
    exact ⟨cs, h1, h2⟩
  have q6 : Try.prog.cellsOf 24 = 6 := by kernel_rfl
  have q3 : Try.prog.cellsOf 23 = 3 := by kernel_rfl
  obtain ⟨fuel, hf⟩ := k
  obtain ⟨xs, m, _, _, _, hl, hx⟩ := DataW.trod_array Try.underlying24 hf
  have h0 := hx 0 (by omega)
  have h1 := hx 1 (by omega)
  rw [List.getElem?_eq_getElem (by omega)] at h0 h1
  rw [q3] at h0 h1
  obtain ⟨t, ht, hu⟩ := arr_at enc W h0
  obtain ⟨u, hv, hw⟩ := arr_at enc W h1
  refine ⟨t, u, ?_, hu, hw⟩
  obtain ⟨l⟩ := cs
  have hlen : l.length = 6 := by simpa using hsz.trans q6
  match l, hlen with
  | [c0, c1, c2, c3, c4, c5], _ =>
    simp [Value.cells] at ht hv
    obtain ⟨rfl, rfl, rfl⟩ := ht
    obtain ⟨rfl, rfl, rfl⟩ := hv
    rfl

set_option maxRecDepth 100000 in
theorem color_at {n : Nat} {c0 c1 c2 c3 : Value} {x : DataW H × List MemPlace} (h : DataW.trod enc Try.prog W 0 (fun _ => true) true n 26 [c0, c1, c2, c3] = some x) :
    ∃ k r g b : Nat, c0 = .int .u8 k ∧ c1 = .int .u8 r ∧ c2 = .int .u8 g ∧ c3 = .int .u8 b ∧ r < 256 ∧ g < 256 ∧ b < 256 := by
  have q1 : Try.prog.cellsOf 5 = 1 := by kernel_rfl
  obtain ⟨xs, m, _, rfl, hl, hlen, hf⟩ := DataW.trod_struct Try.underlying26 h
  match xs, hlen with
  | [y0, y1, y2, y3], _ =>
    have h0 := hf 0 _ rfl
    have h1 := hf 1 _ rfl
    have h2 := hf 2 _ rfl
    have h3 := hf 3 _ rfl
    simp [q1] at h0 h1 h2 h3
    obtain ⟨k, e0, _, w0⟩ := DataW.trod_int Try.underlying5 h0
    obtain ⟨r, e1, _, w1⟩ := DataW.trod_int Try.underlying5 h1
    obtain ⟨g, e2, _, w2⟩ := DataW.trod_int Try.underlying5 h2
    obtain ⟨b, e3, _, w3⟩ := DataW.trod_int Try.underlying5 h3
    simp at e0 e1 e2 e3
    subst e0 e1 e2 e3
    obtain ⟨k, rfl, _⟩ := wf_byte w0
    obtain ⟨r, rfl, hr⟩ := wf_byte w1
    obtain ⟨g, rfl, hg⟩ := wf_byte w2
    obtain ⟨b, rfl, hb⟩ := wf_byte w3
    exact ⟨k, r, g, b, rfl, rfl, rfl, rfl, hr, hg, hb⟩

set_option maxRecDepth 100000 in
theorem open_ask {v : Value} {d : DataW H} {p : List MemPlace} (ok : Value.okWide Try.prog W .any base 29 v) (k : DataW.Trod enc Try.prog W 0 (fun _ => true) true 29 v d p) :
    ∃ (x : Asked) (ps : List V), v = .agg x.cells ∧ x.place < 65536 ∧ x.byte < 256 ∧ (x.r < 256 ∧ x.g < 256 ∧ x.b < 256) ∧ PalS W x.a x.len ps := by
  obtain ⟨cs, rfl, hsz⟩ : ∃ cs, v = .agg cs ∧ cs.size = Try.prog.cellsOf 29 := by
    simp only [Value.okWide, Try.underlying29] at ok
    obtain ⟨cs, h1, h2, _⟩ := ok
    exact ⟨cs, h1, h2⟩
  have q8 : Try.prog.cellsOf 29 = 8 := by kernel_rfl
  have q1 : Try.prog.cellsOf 5 = 1 := by kernel_rfl
  have q2 : Try.prog.cellsOf 22 = 1 := by kernel_rfl
  have q3 : Try.prog.cellsOf 3 = 1 := by kernel_rfl
  have q4 : Try.prog.cellsOf 26 = 4 := by kernel_rfl
  have q5 : Try.prog.cellsOf 27 = 1 := by kernel_rfl
  obtain ⟨fuel, hf0⟩ := k
  obtain ⟨l⟩ := cs
  have hlen8 : l.length = 8 := by simpa using hsz.trans q8
  match l, hlen8 with
  | [c0, c1, c2, c3, c4, c5, c6, c7], _ =>
    simp only [Value.cells] at hf0
    obtain ⟨xs, m, _, _, hl, hlen, hf⟩ := DataW.trod_struct Try.underlying29 hf0
    match xs, hlen with
    | [y0, y1, y2, y3, y4], _ =>
      have h0 := hf 0 _ rfl
      have h1 := hf 1 _ rfl
      have h2 := hf 2 _ rfl
      have h3 := hf 3 _ rfl
      have h4 := hf 4 _ rfl
      simp [q1, q2, q3, q4, q5] at h0 h1 h2 h3 h4
      obtain ⟨n, e0, _, w0⟩ := DataW.trod_int Try.underlying3 h0
      obtain ⟨at', e1, _, w1⟩ := DataW.trod_int Try.underlying22 h1
      obtain ⟨by', e2, _, w2⟩ := DataW.trod_int Try.underlying5 h2
      obtain ⟨k, r, g, b, e3, e4, e5, e6, hr, hg, hb⟩ := color_at enc W h3
      obtain ⟨a, len, cap, ps, e7, hP⟩ := pal_at' enc W h4
      simp at e0 e1 e2 e7
      subst e0 e1 e2 e3 e4 e5 e6 e7
      obtain ⟨at', rfl, ha⟩ := wf_u16 w1
      obtain ⟨by', rfl, hby⟩ := wf_byte w2
      exact ⟨⟨n, at', by', k, r, g, b, a, len, cap⟩, ps, rfl, ha, hby, ⟨hr, hg, hb⟩, hP⟩
end

set_option maxRecDepth 100000 in
theorem colorTells_walk {H : Type} (enc : TypeId × Value → H) (base : Nat) (W : World)
    (v0 : Value) (d0 : DataW H) (p0 : List MemPlace) (ok0 : Value.okWide Try.prog W .any base 9 v0) (k0 : DataW.Trod enc Try.prog W 0 (fun _ => true) true 9 v0 d0 p0)
    (v1 : Value) (d1 : DataW H) (p1 : List MemPlace) (ok1 : Value.okWide Try.prog W .any base 24 v1) (k1 : DataW.Trod enc Try.prog W 0 (fun _ => true) true 24 v1 d1 p1)
    (v2 : Value) (d2 : DataW H) (p2 : List MemPlace) (ok2 : Value.okWide Try.prog W .any base 29 v2) (k2 : DataW.Trod enc Try.prog W 0 (fun _ => true) true 29 v2 d2 p2) :
    Calls Try.prog 3 #[v0, v1, v2] W fun e w' => e = .returned (.bool true) ∧ Below W.heap.size W w' := by
  obtain ⟨s, rfl, _, _, hs⟩ := open_string Try.underlying9 ok0 k0
  obtain ⟨t, u, rfl, ht, hu⟩ := open_two enc base W ok1 k1
  obtain ⟨x, ps, rfl, h1, h2, h3, hP⟩ := open_ask enc base W ok2 k2
  exact colorTells_any s hs t u ht hu x h1 h2 h3 ps W hP
end Go.Proofs.Ythcncghhjlaicaa.Lab
