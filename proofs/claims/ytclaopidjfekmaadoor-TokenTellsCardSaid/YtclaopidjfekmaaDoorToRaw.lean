/- Rows of tokens as they come in: any kind, any parameters; no row is longer than the form's own reach. -/
import Derived.Test.YtclaopidjfekmaaDoorToMat
import Derived.SizedLaws
namespace Go.Proofs.YtclaopidjfekmaaDoor.Lab
open Go Go.RowKit Go.ChangeShapes Go.WideShapes Go.Deep Go.Lib Go.Joins

/-- All that a datum weighs is within reach. -/
def Fits {H : Type} (t : TypeId) (d : DataW H) : Prop := ∀ n ∈ d.weights Tryd.prog t, n ≤ reachBytes
theorem weightsAll_mem' {H : Type} {P : Program} {e : TypeId} : ∀ {ds : List (DataW H)} {d : DataW H}, d ∈ ds → ∀ n ∈ d.weights P e, n ∈ DataW.weightsAll P e ds
  | d0 :: ds, d, hd, n, hn => by
    simp only [DataW.weightsAll, List.mem_append]
    rcases List.mem_cons.1 hd with rfl | h
    · exact Or.inl hn
    · exact Or.inr (weightsAll_mem' h n hn)
theorem fits_each {H : Type} {ts : List TypeId} {ds : List (DataW H)} (h : (DataW.weightsEach Tryd.prog ts ds).all (· ≤ reachBytes) = true) {j : Nat} {t : TypeId} {d : DataW H} (ht : ts[j]? = some t) (hd : ds[j]? = some d) : Fits t d :=
  fun n hn => of_decide_eq_true (List.all_eq_true.1 h _ (DataW.weights_mem_each ht hd n hn))
theorem Fits.elem {H : Type} {t e : TypeId} {elems spare : List (DataW H)} (h : Fits t (.slice elems spare)) (hu : Tryd.prog.underlying t = some (.slice e)) {d : DataW H} (hd : d ∈ elems) : Fits e d := fun n hn =>
  h n (by
    simp only [DataW.weights, hu, List.mem_cons, List.mem_append]
    exact Or.inr (Or.inl (weightsAll_mem' hd n hn)))
theorem Fits.row {H : Type} {t e : TypeId} {elems spare : List (DataW H)} (h : Fits t (.slice elems spare)) (hu : Tryd.prog.underlying t = some (.slice e)) : (elems.length + spare.length) * Tryd.prog.bytesOf e ≤ reachBytes :=
  h _ (by simp only [DataW.weights, hu]; exact List.mem_cons_self)
theorem Fits.part {H : Type} {t : TypeId} {fs : Array Field} {parts : List (DataW H)} (h : Fits t (.agg parts)) (hu : Tryd.prog.underlying t = some (.struct fs)) {j : Nat} {u : TypeId} {d : DataW H} (ht : (fs.toList.map (·.type))[j]? = some u) (hd : parts[j]? = some d) : Fits u d := fun n hn =>
  h n (by
    simp only [DataW.weights, hu]
    exact DataW.weights_mem_each ht hd n hn)

/-- A token as it comes in. -/
def RawTok (W : World) (p : Tok × Value) : Prop := (p.1.wf ∧ i64 p.1.kind ∧ p.1.inter.size ≤ maxLen ∧ p.1.data.size ≤ maxLen) ∧ FMat W (· < W.heap.size) p.2 p.1.P ∧ ∃ a c, p.2 = .slice a p.1.P.length c ∧ p.1.P.length ≤ c ∧ c ≤ maxLen
def RawAt (W : World) (b o : Nat) (p : Tok × Value) : Prop := W.cell? ⟨b, o, none⟩ = some (.int .i64 p.1.kind) ∧ W.cell? ⟨b, o + 1, none⟩ = some (.int .i32 p.1.rune) ∧ W.cell? ⟨b, o + 2, none⟩ = some (.int .u8 p.1.priv) ∧ W.cell? ⟨b, o + 3, none⟩ = some p.2 ∧ W.cell? ⟨b, o + 4, none⟩ = some (.string p.1.inter) ∧ W.cell? ⟨b, o + 5, none⟩ = some (.int .u8 p.1.fin) ∧ W.cell? ⟨b, o + 6, none⟩ = some (.string p.1.data)
instance : Inhabited (Tok × Value) := ⟨(default, .slice none 0 0)⟩
def IsToks (W : World) (a : Option Addr) (len cap : Nat) (T : Nat → Tok × Value) : Prop :=
  len ≤ cap ∧ cap ≤ maxLen ∧ (∀ i, i < len → RawTok W (T i)) ∧ (0 < len → ∃ b off, a = some ⟨b, off, none⟩ ∧ b < W.heap.size ∧ ∀ i, i < len → RawAt W b (off + i * 7) (T i))
theorem RawTok.below {W W' : World} {p : Tok × Value} (h : RawTok W p) (hb : Below W.heap.size W W') : RawTok W' p := ⟨h.1, (h.2.1.below hb fun _ hg => hg).mono fun _ hg => Nat.lt_of_lt_of_le hg hb.size, h.2.2⟩
theorem IsToks.below {W W' : World} {a : Option Addr} {len cap : Nat} {T : Nat → Tok × Value} (h : IsToks W a len cap T) (hb : Below W.heap.size W W') : IsToks W' a len cap T := by
  refine ⟨h.1, h.2.1, fun i hi => (h.2.2.1 i hi).below hb, fun h0 => ?_⟩
  obtain ⟨b, off, e, h1, h2⟩ := h.2.2.2 h0
  refine ⟨b, off, e, Nat.lt_of_lt_of_le h1 hb.size, fun i hi => ?_⟩
  obtain ⟨q1, q2, q3, q4, q5, q6, q7⟩ := h2 i hi
  have k := Keeps.of hb
  exact ⟨k _ _ _ q1, k _ _ _ q2, k _ _ _ q3, k _ _ _ q4, k _ _ _ q5, k _ _ _ q6, k _ _ _ q7⟩

section
variable {H : Type} (enc : TypeId × Value → H) (W : World)
theorem lits_len (k : IntKind) (zs : List Int) : (lits k zs : List (DataW H)).length = zs.length := by simp [lits]
set_option maxRecDepth 100000 in
theorem open_mat {n : Nat} {c : Value} {x : DataW H × List MemPlace} (h : DataW.trod enc Tryd.prog W 0 (fun _ => true) true n 25 [c] = some x) (hf : Fits 25 x.1) :
    ∃ P, FMat W (· < W.heap.size) c P ∧ ∃ a cp, c = .slice a P.length cp ∧ P.length ≤ cp ∧ cp ≤ maxLen := by
  rcases open_int_rows Tryd.underlying25 Tryd.underlying47 Tryd.underlying3 (by kernel_rfl) (by kernel_rfl) h with ⟨hcs, _⟩ | ⟨a, len, cap, A, L, C, Z, hcs, _, hl, hm, hx, hr⟩
  · obtain rfl : c = .slice none 0 0 := by simpa using hcs
    exact ⟨[], ⟨MatIn.nil _ _, fun g o n c j u hv hj => by simp at hj, fun q hq => by simp at hq⟩, none, 0, rfl, Nat.le_refl _, Nat.zero_le _⟩
  · obtain rfl : c = .slice (some a) len cap := by simpa using hcs
    subst hx
    have htl : ∀ r, r < cap → ((Z r).take (L r)).length = L r := fun r hr' => by
      obtain ⟨_, r1, r2, r3, _⟩ := hr r hr'
      rw [List.length_take]
      omega
    have eg : ∀ j, j < len → (((List.range len).map fun r => (Z r).take (L r)).getD j []) = (Z j).take (L j) := fun j hj => by simp [List.getD_eq_getElem?_getD, hj]
    have hrow : ∀ r, r < len → L r * 8 ≤ 140737488355328 := fun r hr' => by
      obtain ⟨_, r1, r2, r3, r4, r5, r6⟩ := hr r (by omega)
      cases hA : A r with
      | none => have := r5 hA; omega
      | some a' =>
        have h1 : Fits (H := H) 47 (intRow .i64 (A r) (L r) (Z r)) := hf.elem Tryd.underlying25 (List.mem_map.2 ⟨r, List.mem_range.2 hr', rfl⟩)
        rw [hA] at h1
        have h2 := Fits.row (elems := lits .i64 ((Z r).take (L r))) (spare := lits .i64 ((Z r).drop (L r))) h1 Tryd.underlying47
        rw [lits_len, lits_len, show Tryd.prog.bytesOf 3 = 8 by kernel_rfl] at h2
        have h3 := reachBytes_lt
        have h4 : ((Z r).take (L r)).length + ((Z r).drop (L r)).length = (Z r).length := by rw [← List.length_append, List.take_append_drop]
        omega
    refine ⟨(List.range len).map fun r => (Z r).take (L r), ⟨⟨some a, cap, by simp, by simp; omega, fun h0 => ?_⟩, fun g o n' c' j u hv hj hu he => ?_, fun q hq => ?_⟩, some a, cap, by simp, by simpa using hl, hm⟩
    · simp only [List.length_map, List.length_range] at h0 ⊢
      obtain ⟨b, off, rfl, hc⟩ := vals_at (n := cap) (V := fun r => .slice (A r) (L r) (C r)) (fun r hr' => (hr r hr').1) (by omega)
      refine ⟨b, off, rfl, World.block_lt_of_cell? (a := ⟨b, off + 0, none⟩) W (hc 0 (by omega)), fun j hj => ?_⟩
      rw [eg j hj, htl j (by omega)]
      obtain ⟨_, r1, r2, r3, r4, r5, r6⟩ := hr j (by omega)
      refine ⟨A j, C j, hc j (by omega), by omega, fun h1 => ?_⟩
      cases hA : A j with
      | none => have := r5 hA; omega
      | some a' =>
        obtain ⟨b', off', rfl, hc'⟩ := vals_at (n := C j) (V := fun c => .int .i64 ((Z j).getD c 0)) (r6 a' hA).2 (by omega)
        refine ⟨b', off', rfl, World.block_lt_of_cell? (a := ⟨b', off' + 0, none⟩) W (hc' 0 (by omega)), fun i hi => ?_⟩
        rw [hc' i (by omega)]
        simp [List.getD_eq_getElem?_getD, hi]
    · simp only [List.length_map, List.length_range] at hj
      rw [eg j hj] at he
      obtain ⟨r0, r1, r2, r3, r4, r5, r6⟩ := hr j (by omega)
      injection hv with e1
      injection e1 with e1
      subst e1
      rw [Go.WideShapes.add_plain, hu] at r0
      injection r0 with r0
      have hL : L j = 0 := by rw [← htl j (by omega), he]; rfl
      cases hA : A j with
      | none => rw [r0, hA, hL, r5 hA]; exact .inl rfl
      | some a' => rw [r0, hA, hL]; exact .inr ⟨a', C j, rfl⟩
    · obtain ⟨r, hr', rfl⟩ := List.mem_map.1 hq
      have hr2 := List.mem_range.1 hr'
      show ((Z r).take (L r)).length * 8 ≤ _
      rw [htl r (by omega)]
      exact hrow r hr2

theorem wf_i64 {n : Int} (h : (Lit.int .i64 n).wf = true) : i64 n := by
  simp [Lit.wf, IntKind.min, IntKind.max, IntKind.bits, IntKind.signed] at h
  unfold i64
  omega
set_option maxRecDepth 100000 in
theorem tok_at {m : Nat} {cs : List Value} {x : DataW H × List MemPlace} (h : DataW.trod enc Tryd.prog W 0 (fun _ => true) true m 27 cs = some x) (hf : Fits 27 x.1) :
    ∃ p : Tok × Value, cs = cells7 p.1 p.2 ∧ RawTok W p := by
  obtain ⟨xs, n, _, hx, hl, hlen, hq⟩ := DataW.trod_struct Tryd.underlying27 h
  have hl7 : cs.length = 7 := hl.trans (by kernel_rfl)
  have q1 : Tryd.prog.cellsOf 3 = 1 := by kernel_rfl
  have q2 : Tryd.prog.cellsOf 21 = 1 := by kernel_rfl
  have q3 : Tryd.prog.cellsOf 5 = 1 := by kernel_rfl
  have q4 : Tryd.prog.cellsOf 25 = 1 := by kernel_rfl
  have q5 : Tryd.prog.cellsOf 9 = 1 := by kernel_rfl
  match cs, hl7, xs, hlen, hx with
  | [c0, c1, c2, c3, c4, c5, c6], _, [y0, y1, y2, y3, y4, y5, y6], _, hx =>
    have h0 : DataW.trod enc Tryd.prog W 0 (fun _ => true) true n 3 (([c0, c1, c2, c3, c4, c5, c6].drop 0).take (Tryd.prog.cellsOf 3)) = some y0 := hq 0 _ rfl
    rw [q1] at h0
    replace h0 : DataW.trod enc Tryd.prog W 0 (fun _ => true) true n 3 [c0] = some y0 := h0
    have h1 : DataW.trod enc Tryd.prog W 0 (fun _ => true) true n 21 (([c0, c1, c2, c3, c4, c5, c6].drop 1).take (Tryd.prog.cellsOf 21)) = some y1 := hq 1 _ rfl
    rw [q2] at h1
    replace h1 : DataW.trod enc Tryd.prog W 0 (fun _ => true) true n 21 [c1] = some y1 := h1
    have h2 : DataW.trod enc Tryd.prog W 0 (fun _ => true) true n 5 (([c0, c1, c2, c3, c4, c5, c6].drop 2).take (Tryd.prog.cellsOf 5)) = some y2 := hq 2 _ rfl
    rw [q3] at h2
    replace h2 : DataW.trod enc Tryd.prog W 0 (fun _ => true) true n 5 [c2] = some y2 := h2
    have h3 : DataW.trod enc Tryd.prog W 0 (fun _ => true) true n 25 (([c0, c1, c2, c3, c4, c5, c6].drop 3).take (Tryd.prog.cellsOf 25)) = some y3 := hq 3 _ rfl
    rw [q4] at h3
    replace h3 : DataW.trod enc Tryd.prog W 0 (fun _ => true) true n 25 [c3] = some y3 := h3
    have h4 : DataW.trod enc Tryd.prog W 0 (fun _ => true) true n 9 (([c0, c1, c2, c3, c4, c5, c6].drop 4).take (Tryd.prog.cellsOf 9)) = some y4 := hq 4 _ rfl
    rw [q5] at h4
    replace h4 : DataW.trod enc Tryd.prog W 0 (fun _ => true) true n 9 [c4] = some y4 := h4
    have h5 : DataW.trod enc Tryd.prog W 0 (fun _ => true) true n 5 (([c0, c1, c2, c3, c4, c5, c6].drop 5).take (Tryd.prog.cellsOf 5)) = some y5 := hq 5 _ rfl
    rw [q3] at h5
    replace h5 : DataW.trod enc Tryd.prog W 0 (fun _ => true) true n 5 [c5] = some y5 := h5
    have h6 : DataW.trod enc Tryd.prog W 0 (fun _ => true) true n 9 (([c0, c1, c2, c3, c4, c5, c6].drop 6).take (Tryd.prog.cellsOf 9)) = some y6 := hq 6 _ rfl
    rw [q5] at h6
    replace h6 : DataW.trod enc Tryd.prog W 0 (fun _ => true) true n 9 [c6] = some y6 := h6
    obtain ⟨K, e0, _, w0⟩ := DataW.trod_int Tryd.underlying3 h0
    obtain ⟨r, e1, _, _⟩ := DataW.trod_int Tryd.underlying21 h1
    obtain ⟨p, e2, _, w2⟩ := DataW.trod_int Tryd.underlying5 h2
    obtain ⟨s, e4, _, w4⟩ := DataW.trod_string Tryd.underlying9 h4
    obtain ⟨f, e5, _, w5⟩ := DataW.trod_int Tryd.underlying5 h5
    obtain ⟨d, e6, _, w6⟩ := DataW.trod_string Tryd.underlying9 h6
    subst hx
    have hf3 : Fits 25 y3.1 := Fits.part (j := 3) hf Tryd.underlying27 (by kernel_rfl) rfl
    obtain ⟨P, hP, a, cp, hc3, hP1, hP2⟩ := open_mat enc W h3 hf3
    simp at e0 e1 e2 e4 e5 e6
    subst e0 e1 e2 e4 e5 e6
    exact ⟨(⟨K, r, p, P, s, f, d⟩, c3), rfl, ⟨⟨(wf_u8 w2).1, (wf_u8 w2).2, (wf_u8 w5).1, (wf_u8 w5).2⟩, wf_i64 w0, w4, w6⟩, hP, a, cp, hc3, hP1, hP2⟩

set_option maxRecDepth 100000 in
theorem open_toks (base : Nat) {v : Value} {d : DataW H} {p : List MemPlace} (ok : Value.okWide Tryd.prog W .any base 22 v) (k : DataW.Trod enc Tryd.prog W 0 (fun _ => true) true 22 v d p) (hf : Fits 22 d) :
    ∃ (a : Option Addr) (len cap : Nat) (T : Nat → Tok × Value), v = .slice a len cap ∧ IsToks W a len cap T := by
  obtain ⟨a0, len0, cap0, rfl⟩ := okWide_slice Tryd.underlying22 ok
  obtain ⟨fuel, hfu⟩ := k
  rcases open_slice Tryd.underlying22 hfu with ⟨hcs, _⟩ | ⟨x, len, cap, m, n, D, Pl, hcs, _, hl, hm, hmm, hxx, hx⟩
  · simp [Value.cells] at hcs
    obtain ⟨rfl, rfl, rfl⟩ := hcs
    exact ⟨none, 0, 0, fun _ => default, rfl, Nat.le_refl _, by unfold maxLen; omega, fun i hi => by omega, fun h => by omega⟩
  · simp [Value.cells] at hcs
    obtain ⟨rfl, rfl, rfl⟩ := hcs
    simp at hmm
    subst hmm
    have q7 : Tryd.prog.cellsOf 27 = 7 := by kernel_rfl
    rw [q7] at hx
    have hd : d = .slice ((List.range len0).map D) ((List.range (m - len0)).map fun j => D (len0 + j)) := congrArg Prod.fst hxx
    subst hd
    have hall : ∀ i, i < len0 → ∃ (t : Tok × Value), (W.cell? (x.add (i * 7)) = some (.int .i64 t.1.kind) ∧ W.cell? ((x.add (i * 7)).add 1) = some (.int .i32 t.1.rune) ∧ W.cell? ((x.add (i * 7)).add 2) = some (.int .u8 t.1.priv) ∧ W.cell? ((x.add (i * 7)).add 3) = some t.2 ∧ W.cell? ((x.add (i * 7)).add 4) = some (.string t.1.inter) ∧ W.cell? ((x.add (i * 7)).add 5) = some (.int .u8 t.1.fin) ∧ W.cell? ((x.add (i * 7)).add 6) = some (.string t.1.data)) ∧ RawTok W t := by
      intro i hi
      obtain ⟨cs', h1, h2⟩ := hx i (by omega)
      obtain ⟨y, rfl, hy⟩ := tok_at enc W h2 (hf.elem Tryd.underlying22 (List.mem_map.2 ⟨i, List.mem_range.2 hi, rfl⟩))
      obtain ⟨_, _, hc⟩ := World.cells?_some h1
      refine ⟨y, ⟨?_, ?_, ?_, ?_, ?_, ?_, ?_⟩, hy⟩
      · simpa [Addr.add, cells7] using hc 0 (by simp)
      · exact hc 1 (by simp)
      · exact hc 2 (by simp)
      · exact hc 3 (by simp)
      · exact hc 4 (by simp)
      · exact hc 5 (by simp)
      · exact hc 6 (by simp)
    obtain ⟨T, hT⟩ := choose_lt hall
    refine ⟨some x, len0, m, T, rfl, hl, hm, fun i hi => (hT i hi).2, fun h0 => ?_⟩
    obtain ⟨b, off, spot⟩ := x
    have hspot : spot = none := by simpa [Addr.add] using World.cell?_spot (hT 0 (by omega)).1.1
    subst hspot
    have hc := fun i (hi : i < len0) => (hT i hi).1
    simp only [Go.WideShapes.add_plain] at hc
    exact ⟨b, off, rfl, World.block_lt_of_cell? (a := ⟨b, off + 0 * 7, none⟩) W (hc 0 (by omega)).1, fun i hi => hc i hi⟩
end
end Go.Proofs.YtclaopidjfekmaaDoor.Lab
