/- The project's laid: pieces made anew in a grid of the call's own. -/
import Derived.Test.YtlaafmjiiiaceaaDoorRcPieces
import Derived.RangeFuncFrom
set_option linter.unusedVariables false
namespace Go.Proofs.YtlaafmjiiiaceaaDoor.Lab
open Go Go.RowKit Go.Shelf
attribute [local go_sem] Oper.semAt_some

/-- A function that makes the i-th piece anew, called in a world that has grown from w. -/
def Lays (w : World) (af : Nat) (apre apost : Array Value) (k : Rk) (m : Nat) (L : Nat → Cls) : Prop :=
  ∀ (i : Nat) (W : World) (g cap : Nat) (R : Cls), i < k.n → Below w.heap.size w W → w.heap.size ≤ g → CRow W w.heap.size (.slice (some ⟨g, 0, none⟩) m cap) R → R.length = m → m ≤ cap →
    Calls Tryd.prog af (apre ++ #[posV (k.t + i) k.l, .slice (some ⟨g, k.l * 14, none⟩) k.c (cap - k.l)] ++ apost) W fun e w' => e = .returned (.tuple #[]) ∧ CRow w' w.heap.size (.slice (some ⟨g, 0, none⟩) m cap) (place R k.l (L (k.t + i))) ∧ But g W w'
def hdAt (H : List Hd) (k : Nat) : Hd := H.getD k ⟨0, 0, []⟩
theorem hdAt_eq {H : List Hd} {k : Nat} (h : k < H.length) : hdAt H k = H[k] := by
  unfold hdAt
  rw [List.getD_eq_getElem?_getD, List.getElem?_eq_getElem h]
  rfl
theorem rowG_hd (H : List Hd) (i : Nat) : rowG (H.map (·.R)) i = (hdAt H i).R := by
  unfold rowG hdAt
  rw [List.getD_eq_getElem?_getD, List.getD_eq_getElem?_getD, List.getElem?_map]
  cases H[i]? <;> rfl
/-- The rows when the first i pieces have been laid. -/
def laidTo (B : List Cls) (k : Rk) (L : Nat → Cls) (i j : Nat) : Cls := if k.t ≤ j ∧ j < k.t + i then place (rowG B j) k.l (L j) else rowG B j
/-- Rows that lie where H says, and read as R. -/
def RowsAt12 (W : World) (lo m : Nat) (H : List Hd) (R : Nat → Cls) : Prop := ∀ j, j < H.length → CRow W lo (.slice (some ⟨(hdAt H j).b, 0, none⟩) m (hdAt H j).c) (R j) ∧ (R j).length = m
theorem RowsAt12.turn {W W' : World} {lo m : Nat} {H : List Hd} {R : Nat → Cls} {row : Option Nat} (h : RowsAt12 W lo m H R) (hg : W.grownBy W' row) (hr : ∀ r, row = some r → ∃ o : Obj, W.heap[r]? = some o ∧ o.isCells = false) : RowsAt12 W' lo m H R :=
  fun j hj => ⟨World.ownsRow.turn (h j hj).1 hg hr, (h j hj).2⟩
theorem RowsAt12.below {W W' : World} {lo m : Nat} {H : List Hd} {R : Nat → Cls} (h : RowsAt12 W lo m H R) (k : Below W.heap.size W W') : RowsAt12 W' lo m H R := fun j hj => ⟨(h j hj).1.below k, (h j hj).2⟩
theorem nodup_at {H : List Hd} (h : (H.map (·.b)).Nodup) {i j : Nat} (hi : i < H.length) (hj : j < H.length) (hne : i ≠ j) : (hdAt H i).b ≠ (hdAt H j).b := by
  rw [hdAt_eq hi, hdAt_eq hj]
  intro e
  have h1 : (H.map (·.b))[i]'(by rw [List.length_map]; exact hi) = (H.map (·.b))[j]'(by rw [List.length_map]; exact hj) := by simpa using e
  exact hne (List.getElem_inj h |>.1 h1)
theorem RowsAt12.put {W W' : World} {lo m q : Nat} {H : List Hd} {R : Nat → Cls} {S : Cls} (h : RowsAt12 W lo m H R) (hn : (H.map (·.b)).Nodup) (hq : q < H.length) (hS : S.length = m)
    (hC : CRow W' lo (.slice (some ⟨(hdAt H q).b, 0, none⟩) m (hdAt H q).c) S) (hB : But (hdAt H q).b W W') : RowsAt12 W' lo m H (fun j => if j = q then S else R j) := fun j hj => by
  by_cases e : j = q
  · subst e
    simp only [if_true]
    exact ⟨hC, hS⟩
  · simp only [if_neg e]
    refine ⟨(h j hj).1.kept hB (.inr ?_), (h j hj).2⟩
    intro q'
    have : (hdAt H j).b = (hdAt H q).b := by simpa [Value.ownBlock] using q'
    exact nodup_at hn hj hq e this
theorem Q4.turn {W W' : World} {b : Nat} {r : R4} {row : Option Nat} (h : Q4 W b r) (hg : W.grownBy W' row) (hr : ∀ r, row = some r → ∃ o : Obj, W.heap[r]? = some o ∧ o.isCells = false) : Q4 W' b r := by
  obtain ⟨o, ho, hc⟩ := cells_of_cell h.2.1.1
  exact h.same hg.size (grownBy_keeps_cells hg hr ho hc)
theorem GOwn.see {w : World} {lo : Nat} {v : Value} {H : List Hd} {G : List Cls} (h : GOwn w lo v H G) : GSee w v G (fun j => hdV (hdAt H j)) := by
  obtain ⟨h1, h2, _⟩ := h
  have hl : G.length = H.length := by rw [← h2, List.length_map]
  obtain ⟨a, c, e, hc, _, hcell, hok⟩ := h1.src
  refine ⟨a, c, by rw [hl]; exact e, by rw [hl]; exact hc, fun h0 => ?_, fun i hi => ?_⟩
  · obtain ⟨g, o, ea, hg, hh⟩ := hcell (by omega)
    refine ⟨g, o, ea, hg, fun i hi => ?_⟩
    rw [hl] at hi
    show _ = some (hdV (hdAt H i))
    rw [hdAt_eq hi]
    exact hh i hi
  · rw [hl] at hi
    show RowIn w (hdV (hdAt H i)) (rowG G i)
    rw [← h2, rowG_hd, hdAt_eq hi]
    exact (hok _ (List.getElem_mem hi)).row
theorem laid_done {G : List Cls} {k : Rk} {L : Nat → Cls} {j : Nat} (hj : j < G.length) : laidTo (brkG G k) k L k.n j = rowG (layG G k L) j := by
  unfold laidTo layG
  rw [rowG_map hj, brkG, rowG_map hj]
  by_cases h : inR k j
  · have h' : k.t ≤ j ∧ j < k.t + k.n := h
    rw [if_pos h', if_pos h, if_pos h]
  · have h' : ¬ (k.t ≤ j ∧ j < k.t + k.n) := h
    rw [if_neg h', if_neg h, if_neg h]
theorem laid_start (B : List Cls) (k : Rk) (L : Nat → Cls) (j : Nat) : laidTo B k L 0 j = rowG B j := by
  unfold laidTo
  rw [if_neg (by omega)]
theorem laid_step (B : List Cls) (k : Rk) (L : Nat → Cls) (i j : Nat) : laidTo B k L (i + 1) j = if j = k.t + i then place (rowG B j) k.l (L j) else laidTo B k L i j := by
  unfold laidTo
  by_cases e : j = k.t + i
  · rw [if_pos e, if_pos (by omega)]
  · rw [if_neg e]
    by_cases h : k.t ≤ j ∧ j < k.t + i
    · rw [if_pos h, if_pos (by omega)]
    · rw [if_neg h, if_neg (by omega)]
set_option maxHeartbeats 4000000 in
set_option maxRecDepth 100000 in
theorem laid_any (w : World) (v : Value) (G : List Cls) (U : Nat → Value) (m : Nat) (r : R4) (k : Rk) (af : Nat) (apre apost : Array Value) (L : Nat → Cls) (h : GSee w v G U) (hg : GG G m) (hr : r.Ok) (hk : k = clipM r G.length m)
    (hL : ∀ i, i < G.length → inR k i → (L i).length = k.c) (hf : Lays w af apre apost k m L) (eaf : ∀ args w, (callFunc af args).run Tryd.prog w = .ok (.enter af args) w) :
    Calls Tryd.prog 42 #[v, r4V r, .func (.func af) apre apost] w fun x w' => ∃ v' U', x = .returned v' ∧ GSee w' v' (layG G k L) U' ∧ Below w.heap.size w w' := by
  have HBR := fun (wx : World) (hb : Below w.heap.size w wx) => broken_any wx v G U m r (h.below hb) hg hr
  rw [← hk] at HBR
  have HKI := Lib.hid (show k.In G.length m by rw [hk]; exact clip_in _ _ _)
  have HGB := Lib.hid (hg.brk k)
  have HLB := Lib.hid (show clipM r (brkG G k).length m = k by rw [len_brkG]; exact hk.symm)
  have HPI := fun (wx : World) (v' : Value) (U' : Nat → Value) (hs : GSee wx v' (brkG G k) U') => pieces_any wx v' (brkG G k) U' m r hs HGB.out hr
  rw [HLB.out] at HPI
  have HLL := Lib.hid hL
  have HF := Lib.hid hf
  have HGG := Lib.hid hg
  obtain ⟨t, l, nn, cc⟩ := r
  obtain ⟨a, c, hv⟩ := h.shape
  obtain ⟨N, hN⟩ : ∃ N, N = G.length := ⟨_, rfl⟩
  rw [← hN] at hv
  subst hv
  have HN := Lib.hid hN
  obtain ⟨w0, hw0⟩ : ∃ W0, W0 = (w.alloc (.cells #[.int .i64 t, .int .i64 l, .int .i64 nn, .int .i64 cc] 30)).alloc (.cells #[.func (.func af) apre apost] 92) := ⟨_, rfl⟩
  obtain ⟨b4, hb4⟩ : ∃ b, b = w.heap.size := ⟨_, rfl⟩
  obtain ⟨b5, hb5⟩ : ∃ b, b = w.heap.size + 1 := ⟨_, rfl⟩
  have HB0 := Lib.hid (show Below w.heap.size w w0 by rw [hw0]; exact ((Below.refl _ _).alloc (Nat.le_refl _) _).alloc (by simp) _)
  have q0 : w0.cell? ⟨b4, 0, none⟩ = some (.int .i64 t) := by rw [hw0, hb4]; simp
  have q1 : w0.cell? ⟨b4, 1, none⟩ = some (.int .i64 l) := by rw [hw0, hb4]; simp
  have q2 : w0.cell? ⟨b4, 2, none⟩ = some (.int .i64 nn) := by rw [hw0, hb4]; simp
  have q3 : w0.cell? ⟨b4, 3, none⟩ = some (.int .i64 cc) := by rw [hw0, hb4]; simp
  have c5 : w0.cell? ⟨b5, 0, none⟩ = some (.func (.func af) apre apost) := by rw [hw0, hb5]; simp
  have HNE := Lib.hid (show b4 < w0.heap.size ∧ b5 < w0.heap.size by rw [hw0, hb4, hb5]; exact ⟨by simp; omega, by simp⟩)
  have C1 := Lib.hid (HBR w0 HB0.out)
  clear h hg hr hk hL hf hN HBR
  refine (callsIn_wide (n := 0)).1 ?_
  refine callsIn_of_wp_marks Tryd.func42 rfl trivial ?_ rfl
  simp only [Tryd.ntmps42, List.size_toArray, List.length_cons, List.length_nil, Nat.reduceAdd, Nat.reduceSub, Array.replicate_succ, Array.replicate_zero, List.push_toArray, List.append_toArray, List.nil_append, List.cons_append]
  gi_wp2_with fail
  rw [← hw0, ← hb5, ← hb4]
  clear hw0 hb5 hb4
  refine ⟨trivial, rfl, ?_⟩
  refine (callsIn_wide.2 C1.out).mono ?_
  rintro e w3 ⟨v3, H, rfl, own3, b3⟩
  have HNE3 := Lib.hid (show b4 < w3.heap.size ∧ b5 < w3.heap.size from ⟨Nat.lt_of_lt_of_le HNE.out.1 b3.size, Nat.lt_of_lt_of_le HNE.out.2 b3.size⟩)
  have HB3 := Lib.hid (show Below w.heap.size w w3 from HB0.out.trans (b3.mono HB0.out.size))
  have HO3 := Lib.hid (show GOwn w3 w.heap.size v3 H (brkG G k) from ⟨own3.1.lower HB0.out.size HB0.out.size, own3.2.1, own3.2.2.mono HB0.out.size⟩)
  have p0 := (b3.cell (p := ⟨b4, 0, none⟩) HNE.out.1).trans q0
  have p1 := (b3.cell (p := ⟨b4, 1, none⟩) HNE.out.1).trans q1
  have p2 := (b3.cell (p := ⟨b4, 2, none⟩) HNE.out.1).trans q2
  have p3 := (b3.cell (p := ⟨b4, 3, none⟩) HNE.out.1).trans q3
  have C5 := Lib.hid ((b3.cell (p := ⟨b5, 0, none⟩) HNE.out.2).trans c5)
  have HS3 := Lib.hid own3.see
  have C2 := Lib.hid (HPI w3 v3 _ HS3.out)
  obtain ⟨oa, oc, hv3⟩ := HS3.out.shape
  rw [len_brkG, ← HN.out] at hv3
  subst hv3
  have HOL := Lib.hid (show (b5 < w0.heap.size ∧ w.heap.size ≤ w0.heap.size) ∧ ∀ x ∈ H, w0.heap.size ≤ x.b ∧ x.b < w3.heap.size from ⟨⟨HNE.out.2, HB0.out.size⟩, fun x hx => own3.1.2.lt hx⟩)
  clear own3 b3 q0 q1 q2 q3 c5 C1 HPI HB0 HNE
  gi_wp2_with fail
  refine ⟨trivial, rfl, ?_⟩
  refine (callsIn_wide.2 C2.out).mono ?_
  rintro e wp ⟨br, bg, rfl, hbr, hbg, hq, hcg, bp⟩
  have HBR := Lib.hid hbr
  have HBG := Lib.hid hbg
  have HQ := Lib.hid hq
  have HCG := Lib.hid hcg
  have HBP := Lib.hid bp
  clear hbr hbg hq hcg bp p0 p1 p2 p3 C2
  gi_wp2
  obtain ⟨B, hB⟩ : ∃ B, B = brkG G k := ⟨_, rfl⟩
  have HHL := Lib.hid (show H.length = N by have := congrArg List.length HO3.out.2.1; rw [List.length_map, len_brkG] at this; rw [this, HN.out])
  have HRB := Lib.hid (show ∀ j, j < N → (hdAt H j).R = rowG B j ∧ (rowG B j).length = m from fun j hj => by
    have e := rowG_hd H j
    rw [HO3.out.2.1] at e
    rw [hB]
    exact ⟨e.symm, (HGB.out.at (by rw [len_brkG, ← HN.out]; exact hj)).2.1⟩)
  have HPB := Lib.hid (show Below w.heap.size w wp from HB3.out.trans (HBP.out.mono HB3.out.size))
  have HOP := Lib.hid (show GRow wp w.heap.size w.heap.size (.slice oa N oc) H from HO3.out.1.below HBP.out)
  have HND := Lib.hid (HO3.out.2.2)
  have HLT := Lib.hid (show ∀ j, j < N → w0.heap.size ≤ (hdAt H j).b ∧ (hdAt H j).b < w3.heap.size from fun j hj => by
    rw [hdAt_eq (by rw [HHL.out]; exact hj)]
    exact HOL.out.2 _ (List.getElem_mem _))
  obtain ⟨og, hog⟩ : ∃ og : Nat, (0 < N → Value.slice oa N oc = .slice (some ⟨og, 0, none⟩) N oc ∧ N ≤ oc) ∧ ∀ j, j < N → wp.cell? ⟨og, j, none⟩ = some (hdV (hdAt H j)) := by
    rcases Nat.eq_zero_or_pos N with e | e
    · exact ⟨0, fun h => by omega, fun j hj => by omega⟩
    · obtain ⟨g, c', e1, _, _⟩ := HOP.out.here (by rw [HHL.out]; exact e)
      have hcap := HS3.out
      obtain ⟨_, _, e2, hcap, _⟩ := hcap
      rw [len_brkG, ← HN.out] at e2 hcap
      injection e2 with _ _ e2
      rw [HHL.out] at e1
      injection e1 with e1 _ e3
      refine ⟨g, fun _ => ⟨by rw [e1], by omega⟩, fun j hj => ?_⟩
      have := HOP.out
      rw [e1] at this
      rw [hdAt_eq (by rw [HHL.out]; exact hj)]
      exact this.at _
  have HOG := Lib.hid hog
  have HENC := Lib.hid (show encP k (fun j => hdV (hdAt H j)) = fun i => #[posV (k.t + i) k.l, .slice (some ⟨(hdAt H (k.t + i)).b, k.l * 14, none⟩) k.c ((hdAt H (k.t + i)).c - k.l)] from funext fun i => by unfold encP cutV; simp)
  have HIT := Lib.hid (pieces_iter br bg (.slice oa N oc) k (fun j => hdV (hdAt H j)) (by have := HKI.out.r; have := HGG.out.n1; omega) (by have := HKI.out.c; have := HGG.out.m1; omega) (heads_of HS3.out HGB.out (by rw [len_brkG]; exact HKI.out)))
  rw [HENC.out] at HIT
  have HR0 := Lib.hid (show RowsAt12 wp w.heap.size m H (laidTo B k L 0) from fun j hj => by
    rw [HHL.out] at hj
    obtain ⟨e1, e2⟩ := HRB.out j hj
    rw [laid_start]
    refine ⟨?_, e2⟩
    have h1 := HOP.out.row (i := j) (by rw [HHL.out]; exact hj)
    rw [← hdAt_eq (by rw [HHL.out]; exact hj)] at h1
    have h2 : CRow wp w.heap.size (.slice (some ⟨(hdAt H j).b, 0, none⟩) (hdAt H j).R.length (hdAt H j).c) (hdAt H j).R := h1
    rw [e1, e2] at h2
    exact h2)
  have HC5P := Lib.hid ((HBP.out.cell (p := ⟨b5, 0, none⟩) HNE3.out.2).trans C5.out)
  have HBB := Lib.hid hB
  clear hog hB
  refine wp_rangeA (gf := 55) (pre := #[]) (post := #[.pointer (some ⟨br, 0, none⟩), .pointer (some ⟨bg, 0, none⟩)]) rfl (enters_of Tryd.func55 (by kernel_rfl) rfl) HIT.out (fun _ => rfl)
    (fun i W => i ≤ k.n ∧ RowsAt12 W w.heap.size m H (laidTo B k L i) ∧ Below w.heap.size w W ∧ (∀ j, j < N → W.cell? ⟨og, j, none⟩ = some (hdV (hdAt H j))) ∧ Q4 W br k.r4 ∧ W.cell? ⟨bg, 0, none⟩ = some (.slice oa N oc) ∧ W.cell? ⟨b5, 0, none⟩ = some (.func (.func af) apre apost))
    (fun i a' W => ∃ b8, a' = { tmps := #[Value.slice a N c, r4V ⟨t, l, nn, cc⟩, .func (.func af) apre apost, undef, .pointer (some ⟨b4, 0, none⟩), .pointer (some ⟨b5, 0, none⟩), .slice none 0 0, .slice oa N oc, .pointer (some ⟨b8, 0, none⟩), .slice (some ⟨(hdAt H (k.t + i)).b, k.l * 14, none⟩) k.c ((hdAt H (k.t + i)).c - k.l), .slice a N c, .agg #[.int .i64 t, .int .i64 l, .int .i64 nn, .int .i64 cc], .slice oa N oc, .slice oa N oc, .agg #[.int .i64 t, .int .i64 l, .int .i64 nn, .int .i64 cc], .func (.func 55) #[] #[.pointer (some ⟨br, 0, none⟩), .pointer (some ⟨bg, 0, none⟩)], posV (k.t + i) k.l, .slice (some ⟨(hdAt H (k.t + i)).b, k.l * 14, none⟩) k.c ((hdAt H (k.t + i)).c - k.l), undef, undef, undef, undef, undef], defers := [] } ∧
      (W.cell? ⟨b8, 0, none⟩ = some (.int .i64 ((k.t + i : Nat) : Int)) ∧ W.cell? ⟨b8, 1, none⟩ = some (.int .i64 (k.l : Nat))) ∧ i ≤ k.n ∧ RowsAt12 W w.heap.size m H (laidTo B k L i) ∧ Below w.heap.size w W ∧ (∀ j, j < N → W.cell? ⟨og, j, none⟩ = some (hdV (hdAt H j))) ∧ Q4 W br k.r4 ∧ W.cell? ⟨bg, 0, none⟩ = some (.slice oa N oc) ∧ W.cell? ⟨b5, 0, none⟩ = some (.func (.func af) apre apost))
    ?hI ?hA ?hH ?h0 ?assign ?body ?done
  case hI =>
    rintro i W W' row ⟨s1, s2, s3, s4, s5, s6, s7⟩ hg hr
    have hr' := fun r e => (hr r e).2
    exact ⟨s1, s2.turn hg hr', ownFrom_below (β := Unit) (Nat.le_refl _) HPB.out.size () W W' row s3 hg hr, fun j hj => cell_kept (s4 j hj) hg hr', s5.turn hg hr', cell_kept s6 hg hr', cell_kept s7 hg hr'⟩
  case hA =>
    rintro i a' _ W W' row ⟨b8, e8, ⟨z0, z1⟩, s1, s2, s3, s4, s5, s6, s7⟩ hg hr
    have hr' := fun r e => (hr r e).2
    exact ⟨b8, e8, ⟨cell_kept z0 hg hr', cell_kept z1 hg hr'⟩, s1, s2.turn hg hr', ownFrom_below (β := Unit) (Nat.le_refl _) HPB.out.size () W W' row s3 hg hr, fun j hj => cell_kept (s4 j hj) hg hr', s5.turn hg hr', cell_kept s6 hg hr', cell_kept s7 hg hr'⟩
  case hH =>
    rintro i W ⟨s1, s2, s3, s4, s5, s6, s7⟩
    refine hrp_of s5 s6 fun h0 => ?_
    have hN0 : 0 < N := by have := HKI.out.r; rw [← HN.out] at this; omega
    obtain ⟨e1, e2⟩ := HOG.out.1 hN0
    exact ⟨og, 0, N, oc, e1, by have := HKI.out.r; rw [← HN.out] at this; exact this, e2, fun j hj => by rw [Nat.zero_add]; exact s4 j hj⟩
  case h0 => exact ⟨Nat.zero_le _, HR0.out, HPB.out, HOG.out.2, HQ.out, HCG.out, HC5P.out⟩
  case assign =>
    intro ll i W K hk hW hI hK
    have HI := Lib.hid hI
    have HK := Lib.hid hK
    clear hI hK
    gi_wp2
    obtain ⟨s1, s2, s3, s4, s5, s6, s7⟩ := HI.out
    have hg := grown_alloc W (.cells #[.int .i64 ((k.t + i : Nat) : Int), .int .i64 (k.l : Nat)] 32)
    have hr' : ∀ r, (none : Option Nat) = some r → ∃ o : Obj, W.heap[r]? = some o ∧ o.isCells = false := fun r e => by cases e
    exact HK.out _ _ ((KeepsOthers.alloc W _).from _) ⟨W.heap.size, rfl, ⟨by simp, by simp⟩, s1, s2.turn hg hr', s3.alloc s3.size _, fun j hj => cell_kept (s4 j hj) hg hr', s5.turn hg hr', cell_kept s6 hg hr', cell_kept s7 hg hr'⟩
  case body =>
    rintro ll i a' W hk hW ⟨b8, rfl, ⟨z0, z1⟩, s1, s2, s3, s4, s5, s6, s7⟩
    have hqN : k.t + i < N := by have := HKI.out.r; rw [← HN.out] at this; omega
    obtain ⟨q, hq⟩ : ∃ q, q = k.t + i := ⟨_, rfl⟩
    have hqH : q < H.length := by rw [HHL.out, hq]; exact hqN
    obtain ⟨x, hx⟩ : ∃ x, x = hdAt H q := ⟨_, rfl⟩
    obtain ⟨r1, r2⟩ := s2 q hqH
    obtain ⟨g1, g2⟩ := HLT.out q (by rw [← HHL.out]; exact hqH)
    rw [← hx] at r1 g1 g2
    have hcap : m ≤ x.c := by
      obtain ⟨_, _, e, hc, _⟩ := r1.row
      injection e with _ _ e
      rw [r2] at hc
      omega
    have HCALL := Lib.hid (HF.out i W x.b x.c _ hk s3 (Nat.le_trans HOL.out.1.2 g1) r1 r2 hcap)
    rw [← hq] at HCALL z0 ⊢
    rw [← hx]
    have HX := Lib.hid hx
    have HQI := Lib.hid hq
    have HS := Lib.hid (And.intro s1 (And.intro s2 (And.intro s3 (And.intro s4 (And.intro s5 (And.intro s6 s7))))))
    have HGX := Lib.hid (And.intro g1 g2)
    have HRX := Lib.hid r2
    have HQH := Lib.hid hqH
    have HIK := Lib.hid hk
    clear hx hq r1 r2 g1 g2 hcap hqN s1 s2 s3 s4 s5 s6 hqH hk
    rw [Array.append_assoc] at HCALL
    refine wpIn_block ?_
    gi_wp2
    refine ⟨trivial, rfl, (CallsIn.inRound ll (callsIn_wide.2 HCALL.out)).mono ?_⟩
    rintro e W' ⟨rfl, hc, hb⟩
    have HC := Lib.hid hc
    have HB := Lib.hid hb
    clear hc hb HCALL
    gi_wp2
    obtain ⟨s1, s2, s3, s4, s5, s6, s7⟩ := HS.out
    obtain ⟨g1, g2⟩ := HGX.out
    have hgq : x.b = (hdAt H q).b := by rw [HX.out]
    have cells : ∀ (a : Addr) (v : Value), a.block ≠ x.b → W.cell? a = some v → W'.cell? a = some v := fun a v hne hc => (World.cell?_of_block (HB.out.block a.block (World.block_lt_of_cell? W a hc) (by simp; omega))).trans hc
    have ty := CRow.type (x := x) (lo := w.heap.size) (w := wp) (by
      have := HOP.out.row (i := q) HQH.out
      rw [← hdAt_eq HQH.out, ← HX.out] at this
      exact this)
    obtain ⟨cur, hty⟩ := ty
    have hp3 := HBP.out.size
    have hol := HOL.out.1
    refine ⟨KeepsFrom.of_grownBy HB.out (fun j e => by cases e; omega), by have := HIK.out; omega, ?_, Below.grown (row := some x.b) s3 HB.out s3.size (fun k e => by cases e; omega), fun j hj => cells _ _ ?_ (s4 j hj), s5.but HB.out (by have := HBR.out; omega), cells _ _ (by have := HBG.out; show bg ≠ x.b; omega) s6, cells _ _ (by show b5 ≠ x.b; omega) s7⟩
    · have hfun : laidTo B k L (i + 1) = fun j => if j = q then place (laidTo B k L i q) k.l (L q) else laidTo B k L i j := funext fun j => by
        rw [laid_step, ← HQI.out]
        by_cases e : j = q
        · subst e
          rw [if_pos rfl, if_pos rfl]
          unfold laidTo
          rw [if_neg (by have := HQI.out; omega)]
        · rw [if_neg e, if_neg e]
      rw [hfun]
      have hqG : q < G.length := by rw [← HN.out, ← HHL.out]; exact HQH.out
      have hqR : inR k q := by unfold inR; have := HQI.out; have := HIK.out; omega
      have hLq := HLL.out q hqG hqR
      refine s2.put HND.out.2 HQH.out ?_ (by rw [← HX.out]; exact HC.out) (by rw [← HX.out]; exact HB.out)
      rw [len_place (by rw [HRX.out, hLq]; exact HKI.out.c), HRX.out]
    · show og ≠ x.b
      have hN0 : 0 < N := by omega
      obtain ⟨e1, _⟩ := HOG.out.1 hN0
      have h1 := HOP.out
      rw [e1] at h1
      obtain ⟨cu, h2⟩ := h1.type
      intro e
      rw [e, hty] at h2
      injection h2 with h2
      injection h2 with _ h2
      exact absurd h2 (by decide)
  case done =>
    rintro D W hD ⟨s1, s2, s3, s4, s5, s6, s7⟩ hK
    have HK := Lib.hid hK
    have HS := Lib.hid (And.intro s2 (And.intro s3 s4))
    clear s1 s2 s3 s4 s5 s6 s7 hK
    gi_wp2
    refine ⟨by simp, .inl ⟨_, _, rfl, run_takeDeferred HK.out, ?_⟩⟩
    obtain ⟨s2, s3, s4⟩ := HS.out
    have tg := grownBy_putObj' W D (.deferred none)
    have tr : ∀ r, some D = some r → ∃ o : Obj, W.heap[r]? = some o ∧ o.isCells = false := fun r e => by cases e; exact ⟨_, HK.out, rfl⟩
    have s2' := s2.turn tg tr
    refine ⟨_, results_tmp rfl _ _ _, _, fun j => hdV (hdAt H j), rfl, ?_, Below.grown (row := some D) s3 tg s3.size (fun r e => by cases e; exact Nat.le_trans HPB.out.size hD)⟩
    obtain ⟨_, _, e2, hcap, _⟩ := HS3.out
    rw [len_brkG, ← HN.out] at e2 hcap
    injection e2 with _ _ e2
    have hLN : (layG G k L).length = N := by rw [len_layG, HN.out]
    refine ⟨oa, oc, by rw [hLN]; rfl, by rw [hLN]; omega, fun h0 => ?_, fun j hj => ?_⟩
    · rw [hLN] at h0
      obtain ⟨e1, _⟩ := HOG.out.1 h0
      injection e1 with e1
      refine ⟨og, 0, e1, ?_, fun j hj => ?_⟩
      · have := World.block_lt_of_cell? _ _ (cell_kept (s4 0 h0) tg tr)
        exact this
      · rw [hLN] at hj
        rw [Nat.zero_add]
        exact cell_kept (s4 j hj) tg tr
    · rw [hLN] at hj
      obtain ⟨c1, c2⟩ := s2' j (by rw [HHL.out]; exact hj)
      show RowIn _ (hdV (hdAt H j)) _
      obtain ⟨e1, e2⟩ := HRB.out j hj
      have e3 : laidTo B k L k.n j = rowG (layG G k L) j := by rw [HBB.out]; exact laid_done (by rw [← HN.out]; exact hj)
      rw [← e3]
      have h2 : hdV (hdAt H j) = .slice (some ⟨(hdAt H j).b, 0, none⟩) m (hdAt H j).c := by
        show Value.slice _ (hdAt H j).R.length _ = _
        rw [e1, e2]
      rw [h2]
      exact c1.row
end Go.Proofs.YtlaafmjiiiaceaaDoor.Lab
