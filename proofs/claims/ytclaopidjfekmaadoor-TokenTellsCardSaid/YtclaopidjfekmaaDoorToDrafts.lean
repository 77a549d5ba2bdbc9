/- A draft's token, of whatever kind; a draft as it comes in; the table of powers of ten. -/
import Derived.Test.YtclaopidjfekmaaDoorToParD
import Derived.Test.YtclaopidjfekmaaDoorRows
import Derived.ProofKit
import Derived.OpenShut
import Derived.ChangeMaps5
import Derived.Deep.Matrix
import Derived.Lib.SmallJoins
import Derived.Lib.LaidU8T
import Derived.PinnedBridge
namespace Go.Proofs.YtclaopidjfekmaaDoor.Lab
open Go Go.RowKit Go.ChangeShapes Go.WideShapes Go.Deep Go.Lib Go.Joins

theorem right_sizes {t : Tok} (h : Right t) : t.inter.size ≤ 2 ∧ t.data.size ≤ 1024 ∧ 0 ≤ t.kind ∧ t.kind ≤ 5 := by
  have hz : ∀ {s : ByteArray}, bl s = [] → s.size = 0 := fun {s} h => by
    have : s.data.toList.length = 0 := by rw [show s.data.toList = [] from h]; rfl
    simpa using this
  rcases h with ⟨hk, _, _, hi, _, hd, _⟩ | ⟨hk, _, _, _, hi, hd, _⟩ | ⟨hk, _, _, _, hd, hi, _⟩ | ⟨hk, _, hd, _, _, hi, _⟩ | ⟨hk, _, _, _, hi, _, hd⟩ | ⟨hk, _, ⟨_, _, hi, _⟩, hd⟩
  · have := hz hi; have := hz hd; omega
  · have := hz hi; have := hz hd; omega
  · have := hi.1; have := hz hd; omega
  · have := hi.1; have := hz hd; omega
  · have := hz hi; have := hd.1; omega
  · have := hi.1; have := hd.1; omega
theorem tokOk_of {t : Tok} (hw : t.wf) (h : Right t) : TokOk t := by
  obtain ⟨h1, h2, h3, h4⟩ := right_sizes h
  exact ⟨hw, ⟨by omega, by omega⟩, by unfold maxLen; omega, by unfold maxLen; omega⟩

theorem draft_own (K p r : Int) (pv iv : Value) (PP : Rws) (I : List Int) (f : Int) (d : ByteArray) (w : World) (h0 : 0 ≤ K) (hK : K ≤ 255) (hp0 : 0 ≤ p) (hf0 : 0 ≤ f) (hf1 : f ≤ 255) (hI : BytAt w iv I) (hPP : ShortsAt w pv PP) :
    Calls Tryd.prog 17 #[drf K p r pv iv f d] w fun e w' => ∃ va vn vc, e = .returned (tokV (tokD K p r PP I f d) (.slice va vn vc)) ∧ (∃ B, w.heap.size ≤ B ∧ RRow w' B (.slice va vn vc) (tokD K p r PP I f d).P) ∧ Below w.heap.size w w' := by
  by_cases k0 : K % 6 = 0
  · refine (draft0_any K p r pv iv f d w h0 hK hf0 hf1 k0).mono ?_
    rintro e w' ⟨rfl, hb⟩
    rw [tokD, if_pos k0]
    exact ⟨none, 0, 0, rfl, ⟨w.heap.size, Nat.le_refl _, RRow.nil _ _⟩, hb⟩
  by_cases k1 : K % 6 = 1
  · refine (draft1_any K p r pv iv f d w h0 hK hf0 hf1 k1).mono ?_
    rintro e w' ⟨rfl, hb⟩
    rw [tokD, if_neg k0, if_pos k1]
    exact ⟨none, 0, 0, rfl, ⟨w.heap.size, Nat.le_refl _, RRow.nil _ _⟩, hb⟩
  by_cases k4 : K % 6 = 4
  · refine (draft4_any K p r pv iv f d w h0 hK hf0 hf1 k4).mono ?_
    rintro e w' ⟨rfl, hb⟩
    rw [tokD, if_neg k0, if_neg k1, if_pos k4]
    exact ⟨none, 0, 0, rfl, ⟨w.heap.size, Nat.le_refl _, RRow.nil _ _⟩, hb⟩
  by_cases k2 : K % 6 = 2
  · refine (draft2_any K p r 2 pv iv I f d w h0 hf0 hf1 rfl k2 hI).mono ?_
    rintro e w' ⟨rfl, hb⟩
    rw [tokD, if_neg k0, if_neg k1, if_neg k4, if_pos k2]
    exact ⟨none, 0, 0, rfl, ⟨w.heap.size, Nat.le_refl _, RRow.nil _ _⟩, hb⟩
  · refine (draft35_any K p r (K % 6) pv iv PP I f d w h0 hp0 hf0 (by omega) rfl hI hPP).mono ?_
    rintro e w' ⟨va, vn, vc, rfl, hM, hb⟩
    rw [tokD, if_neg k0, if_neg k1, if_neg k4, if_neg k2]
    exact ⟨va, vn, vc, rfl, hM, hb⟩

theorem draft_any (K p r : Int) (pv iv : Value) (PP : Rws) (I : List Int) (f : Int) (d : ByteArray) (w : World) (h0 : 0 ≤ K) (hK : K ≤ 255) (hp0 : 0 ≤ p) (hf0 : 0 ≤ f) (hf1 : f ≤ 255) (hI : BytAt w iv I) (hPP : ShortsAt w pv PP) :
    Calls Tryd.prog 17 #[drf K p r pv iv f d] w fun e w' => ∃ va vn vc, e = .returned (tokV (tokD K p r PP I f d) (.slice va vn vc)) ∧ MatAt w' (.slice va vn vc) (tokD K p r PP I f d).P ∧ Below w.heap.size w w' := by
  refine (draft_own K p r pv iv PP I f d w h0 hK hp0 hf0 hf1 hI hPP).mono ?_
  rintro e w' ⟨va, vn, vc, rfl, ⟨B, _, hR⟩, hb⟩
  exact ⟨va, vn, vc, rfl, hR.mat, hb⟩

/-- A draft as it comes in. -/
def DraftAt (w : World) (v : Value) (K p r f : Int) (PP : Rws) (I : List Int) (d : ByteArray) : Prop :=
  ∃ pv iv, v = drf K p r pv iv f d ∧ (0 ≤ K ∧ K ≤ 255) ∧ (0 ≤ p ∧ p ≤ 255) ∧ (0 ≤ f ∧ f ≤ 255) ∧ d.size ≤ maxLen ∧ ShortsAt w pv PP ∧ BytAt w iv I ∧ ∀ q ∈ PP, ∀ x ∈ q, -32768 ≤ x ∧ x ≤ 32767

theorem wf_u8 {n : Int} (h : (Lit.int .u8 n).wf = true) : 0 ≤ n ∧ n ≤ 255 := by
  simp [Lit.wf, IntKind.min, IntKind.max, IntKind.bits, IntKind.signed] at h
  omega
theorem wf_i16 {n : Int} (h : (Lit.int .i16 n).wf = true) : -32768 ≤ n ∧ n ≤ 32767 := by
  simp [Lit.wf, IntKind.min, IntKind.max, IntKind.bits, IntKind.signed] at h
  omega
theorem array7 {α : Type} {cs : Array α} (h : cs.size = 7) : ∃ c0 c1 c2 c3 c4 c5 c6, cs = #[c0, c1, c2, c3, c4, c5, c6] := by
  obtain ⟨l⟩ := cs
  match l, h with
  | [c0, c1, c2, c3, c4, c5, c6], _ => exact ⟨c0, c1, c2, c3, c4, c5, c6, rfl⟩
theorem vals_at {W : World} {a : Addr} {n : Nat} {V : Nat → Value} (h : ∀ i, i < n → W.cell? (a.add i) = some (V i)) (hp : 0 < n) : ∃ b off, a = ⟨b, off, none⟩ ∧ ∀ i, i < n → W.cell? ⟨b, off + i, none⟩ = some (V i) := by
  obtain ⟨b, off, spot⟩ := a
  have hspot : spot = none := by simpa [Addr.add] using World.cell?_spot (h 0 hp)
  subst hspot
  exact ⟨b, off, rfl, fun i hi => by rw [← Go.WideShapes.add_plain]; exact h i hi⟩

section
variable {H : Type} (enc : TypeId × Value → H) (W : World)
set_option maxRecDepth 100000 in
theorem open_byt {n : Nat} {c : Value} {x : DataW H × List MemPlace} (h : DataW.trod enc Tryd.prog W 0 (fun _ => true) true n 39 [c] = some x) : ∃ I, BytAt W c I := by
  rcases open_ints Tryd.underlying39 Tryd.underlying5 (by kernel_rfl) h with ⟨hcs, _⟩ | ⟨a, len, cap, zs, hcs, _, hl, hm, hz, _, hcell, hw⟩
  · obtain rfl : c = .slice none 0 0 := by simpa using hcs
    exact ⟨[], none, 0, rfl, by simp, by simp, fun h => by simp at h⟩
  · obtain rfl : c = .slice (some a) len cap := by simpa using hcs
    have hzl : zs.length = cap := by simpa using hz
    have htl : (zs.take len).length = len := by rw [List.length_take]; omega
    refine ⟨zs.take len, some a, cap, by rw [htl], by rw [htl]; omega, fun x hx => wf_u8 (hw x (List.mem_of_mem_take hx)), fun h0 => ?_⟩
    rw [htl] at h0 ⊢
    obtain ⟨b, off, rfl, hc⟩ := vals_at (V := fun i => .int .u8 (zs.getD i 0)) hcell (by omega)
    refine ⟨b, off, rfl, fun j hj => ?_⟩
    rw [hc j (by omega)]
    simp [List.getD_eq_getElem?_getD, hj]
set_option maxRecDepth 100000 in
theorem open_shorts {n : Nat} {c : Value} {x : DataW H × List MemPlace} (h : DataW.trod enc Tryd.prog W 0 (fun _ => true) true n 38 [c] = some x) :
    ∃ PP, ShortsAt W c PP ∧ ∀ q ∈ PP, ∀ x ∈ q, -32768 ≤ x ∧ x ≤ 32767 := by
  rcases open_int_rows Tryd.underlying38 Tryd.underlying70 Tryd.underlying71 (by kernel_rfl) (by kernel_rfl) h with ⟨hcs, _⟩ | ⟨a, len, cap, A, L, C, Z, hcs, _, hl, hm, _, hr⟩
  · obtain rfl : c = .slice none 0 0 := by simpa using hcs
    exact ⟨[], ⟨none, 0, rfl, by simp, fun h => by simp at h⟩, by simp⟩
  · obtain rfl : c = .slice (some a) len cap := by simpa using hcs
    have hq : ∀ r, r < cap → ∀ x ∈ (Z r).take (L r), -32768 ≤ x ∧ x ≤ 32767 := fun r h x hx => wf_i16 ((hr r h).2.2.2.2.1 x (List.mem_of_mem_take hx))
    refine ⟨(List.range len).map fun r => (Z r).take (L r), ⟨some a, cap, by simp, by simp; omega, fun h0 => ?_⟩, ?_⟩
    · simp only [List.length_map, List.length_range] at h0 ⊢
      obtain ⟨b, off, rfl, hc⟩ := vals_at (n := cap) (V := fun r => .slice (A r) (L r) (C r)) (fun r hr' => (hr r hr').1) (by omega)
      refine ⟨b, off, rfl, fun j hj => ⟨_, hc j (by omega), ?_⟩⟩
      obtain ⟨_, r1, r2, r3, r4, r5, r6⟩ := hr j (by omega)
      have htl : ((Z j).take (L j)).length = L j := by rw [List.length_take]; omega
      have eg : (((List.range len).map fun r => (Z r).take (L r)).getD j []) = (Z j).take (L j) := by simp [List.getD_eq_getElem?_getD, hj]
      rw [eg]
      refine ⟨A j, C j, by rw [htl], by rw [htl]; omega, hq j (by omega), fun h1 => ?_⟩
      rw [htl] at h1 ⊢
      cases hA : A j with
      | none => have := r5 hA; omega
      | some a' =>
        obtain ⟨b', off', rfl, hc'⟩ := vals_at (n := C j) (V := fun c => .int .i16 ((Z j).getD c 0)) (r6 a' hA).2 (by omega)
        refine ⟨b', off', rfl, fun i hi => ?_⟩
        rw [hc' i (by omega)]
        simp [List.getD_eq_getElem?_getD, hi]
    · intro q hq'
      obtain ⟨r, hr', rfl⟩ := List.mem_map.1 hq'
      exact hq r (by have := List.mem_range.1 hr'; omega)

set_option maxRecDepth 100000 in
theorem open_draft (base : Nat) {v : Value} {d : DataW H} {p : List MemPlace} (ok : Value.okWide Tryd.prog W .any base 41 v) (k : DataW.Trod enc Tryd.prog W 0 (fun _ => true) true 41 v d p) :
    ∃ K p r f PP I d, DraftAt W v K p r f PP I d := by
  obtain ⟨cs, rfl, hsz⟩ := okWide_struct Tryd.underlying41 ok
  obtain ⟨fuel, hf⟩ := k
  obtain ⟨xs, n, _, _, hl, hlen, hq⟩ := DataW.trod_struct Tryd.underlying41 hf
  obtain ⟨c0, c1, c2, c3, c4, c5, c6, rfl⟩ := array7 (hsz.trans (by kernel_rfl))
  have q1 : Tryd.prog.cellsOf 5 = 1 := by kernel_rfl
  have q2 : Tryd.prog.cellsOf 21 = 1 := by kernel_rfl
  have q3 : Tryd.prog.cellsOf 38 = 1 := by kernel_rfl
  have q4 : Tryd.prog.cellsOf 39 = 1 := by kernel_rfl
  have q5 : Tryd.prog.cellsOf 9 = 1 := by kernel_rfl
  match xs, hlen with
  | [y0, y1, y2, y3, y4, y5, y6], _ =>
    have h0 : DataW.trod enc Tryd.prog W 0 (fun _ => true) true n 5 (([c0, c1, c2, c3, c4, c5, c6].drop 0).take (Tryd.prog.cellsOf 5)) = some y0 := hq 0 _ rfl
    rw [q1] at h0
    replace h0 : DataW.trod enc Tryd.prog W 0 (fun _ => true) true n 5 [c0] = some y0 := h0
    have h1 : DataW.trod enc Tryd.prog W 0 (fun _ => true) true n 5 (([c0, c1, c2, c3, c4, c5, c6].drop 1).take (Tryd.prog.cellsOf 5)) = some y1 := hq 1 _ rfl
    rw [q1] at h1
    replace h1 : DataW.trod enc Tryd.prog W 0 (fun _ => true) true n 5 [c1] = some y1 := h1
    have h2 : DataW.trod enc Tryd.prog W 0 (fun _ => true) true n 21 (([c0, c1, c2, c3, c4, c5, c6].drop 2).take (Tryd.prog.cellsOf 21)) = some y2 := hq 2 _ rfl
    rw [q2] at h2
    replace h2 : DataW.trod enc Tryd.prog W 0 (fun _ => true) true n 21 [c2] = some y2 := h2
    have h3 : DataW.trod enc Tryd.prog W 0 (fun _ => true) true n 38 (([c0, c1, c2, c3, c4, c5, c6].drop 3).take (Tryd.prog.cellsOf 38)) = some y3 := hq 3 _ rfl
    rw [q3] at h3
    replace h3 : DataW.trod enc Tryd.prog W 0 (fun _ => true) true n 38 [c3] = some y3 := h3
    have h4 : DataW.trod enc Tryd.prog W 0 (fun _ => true) true n 39 (([c0, c1, c2, c3, c4, c5, c6].drop 4).take (Tryd.prog.cellsOf 39)) = some y4 := hq 4 _ rfl
    rw [q4] at h4
    replace h4 : DataW.trod enc Tryd.prog W 0 (fun _ => true) true n 39 [c4] = some y4 := h4
    have h5 : DataW.trod enc Tryd.prog W 0 (fun _ => true) true n 5 (([c0, c1, c2, c3, c4, c5, c6].drop 5).take (Tryd.prog.cellsOf 5)) = some y5 := hq 5 _ rfl
    rw [q1] at h5
    replace h5 : DataW.trod enc Tryd.prog W 0 (fun _ => true) true n 5 [c5] = some y5 := h5
    have h6 : DataW.trod enc Tryd.prog W 0 (fun _ => true) true n 9 (([c0, c1, c2, c3, c4, c5, c6].drop 6).take (Tryd.prog.cellsOf 9)) = some y6 := hq 6 _ rfl
    rw [q5] at h6
    replace h6 : DataW.trod enc Tryd.prog W 0 (fun _ => true) true n 9 [c6] = some y6 := h6
    obtain ⟨K, e0, _, w0⟩ := DataW.trod_int Tryd.underlying5 h0
    obtain ⟨p, e1, _, w1⟩ := DataW.trod_int Tryd.underlying5 h1
    obtain ⟨r, e2, _, w2⟩ := DataW.trod_int Tryd.underlying21 h2
    obtain ⟨f, e5, _, w5⟩ := DataW.trod_int Tryd.underlying5 h5
    obtain ⟨s, e6, _, w6⟩ := DataW.trod_string Tryd.underlying9 h6
    obtain ⟨PP, hP, hB⟩ := open_shorts enc W h3
    obtain ⟨I, hI⟩ := open_byt enc W h4
    simp at e0 e1 e2 e5 e6
    subst e0 e1 e2 e5 e6
    exact ⟨K, p, r, f, PP, I, s, c3, c4, rfl, wf_u8 w0, wf_u8 w1, wf_u8 w5, w6, hP, hI, hB⟩
end

/-! ### the table -/
theorem tabIs_of_reads {P : Program} {W : World} {name : String} {k : IntKind} {zs : List Int} {g : Nat} {t e : TypeId} {n : Nat}
    (hg : P.globalNamed name = some g) (hty : (P.globals[g]?).map (·.type) = some t) (ht : P.underlying t = some (.array n e)) (he : P.underlying e = some (.int k)) (hce : P.cellsOf e = 1) (hct : P.cellsOf t = n)
    (h : VarReads P W name (tabData k zs)) : TabIs P W name k zs := by
  obtain ⟨g', t', cs, fuel, p, hg', hty', hvar, hd⟩ := h
  obtain rfl := Option.some.inj (hg.symm.trans hg')
  obtain rfl := Option.some.inj (hty.symm.trans hty')
  unfold TabIs
  rw [hvar, ← cells_of_tab ht he hce hct hd]
theorem pow_of {W : World} {l : List (String × DataW Unit)} (h : laidMet Tryd.prog l W) (m1 : ("internal/strconv.uint64pow10", Rows.laid_internal_strconv_uint64pow10) ∈ l) : Pow W := by
  have r1 : VarReads Tryd.prog W "internal/strconv.uint64pow10" Rows.laid_internal_strconv_uint64pow10 := laidMet.reads h m1
  rw [show (Rows.laid_internal_strconv_uint64pow10 : DataW Unit) = tabData .u64 pow10Tab by kernel_rfl] at r1
  exact tabBelow_of_tabIs (tabIs_of_reads (g := 1) (t := 113) (e := 106) (n := 20) (by kernel_rfl) (by kernel_rfl) (by kernel_rfl) (by kernel_rfl) (by kernel_rfl) (by kernel_rfl) r1)
end Go.Proofs.YtclaopidjfekmaaDoor.Lab
