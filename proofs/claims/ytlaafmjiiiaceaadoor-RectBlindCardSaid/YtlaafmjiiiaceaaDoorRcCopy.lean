/- Places as keys of a map of the call's own; pieces as its elements. The project's Copy of rectangles. -/
import Derived.Test.YtlaafmjiiiaceaaDoorRcFill
import Derived.Test.YtlaafmjiiiaceaaDoorRcSum
import Derived.DeepKeys5
import Derived.Maps.Own
import Derived.Maps.Views
set_option linter.unusedVariables false
namespace Go.Proofs.YtlaafmjiiiaceaaDoor.Lab
open Go Go.RowKit

open Go.Maps (Keyed)

theorem laidOut12 : laidOutB Tryd.prog = true := by kernel_rfl
set_option maxRecDepth 100000 in
theorem keyedPos : Keyed Tryd.prog 32 := Keyed.of_law (deep_law_gate laidOut12 (by decide) (by decide) (by kernel_rfl) (by kernel_rfl))
theorem posKey (i j : Nat) (hi : i ≤ 2000) (hj : j ≤ 2000) : ∃ l, keyOf Tryd.prog 32 (posV i j) = some l := by
  unfold keyOf
  rw [Tryd.underlying32]
  simp only []
  have h1 : Tryd.prog.keyType 32 = true := by kernel_rfl
  have c1 : Tryd.prog.cellsOf 32 = 2 := by kernel_rfl
  have c2 : Tryd.prog.cellsOf 3 = 1 := by kernel_rfl
  have h2 : Value.formed Tryd.prog 32 (posV i j) = true := by
    unfold Value.formed
    simp [Tryd.underlying32, c1]
  rw [h1, h2]
  have h0 : 1 ≤ Tryd.prog.types.size := of_decide_eq_true (by kernel_rfl)
  obtain ⟨n, hn⟩ : ∃ n, Tryd.prog.types.size + 1 = n + 2 := ⟨Tryd.prog.types.size - 1, by omega⟩
  rw [hn]
  have wf : ∀ q : Nat, q ≤ 2000 → (Lit.int .i64 (q : Nat)).wf = true := fun q hq => by
    simp [Lit.wf, IntKind.min, IntKind.max, IntKind.signed, IntKind.bits]
    omega
  have w1 := wf i hi
  have w2 := wf j hj
  simp [Program.keyLits, Tryd.underlying32, Tryd.underlying3, c1, c2, Value.cells, w1, w2]
def klP (P : Program) (T : TypeId) (i j : Nat) : Lit := (keyOf P T (posV i j)).getD (.bool false)
theorem klP_is (i j : Nat) (hi : i ≤ 2000) (hj : j ≤ 2000) : keyOf Tryd.prog 32 (posV i j) = some (klP Tryd.prog 32 i j) := by
  obtain ⟨l, h⟩ := posKey i j hi hj
  unfold klP
  rw [h]
  rfl
theorem klP_ne {i i' j : Nat} (hi : i ≤ 2000) (hi' : i' ≤ 2000) (hj : j ≤ 2000) (h : i ≠ i') : klP Tryd.prog 32 i j ≠ klP Tryd.prog 32 i' j := fun e => by
  have h1 := klP_is i j hi hj
  have h2 := klP_is i' j hi' hj
  rw [e] at h1
  have := keyedPos.inj h1 h2
  simp at this
  omega
/-- How an element reads. -/
def rSl (v : Value) : Option (DataW Unit × List MemPlace) := match v with
  | .slice none 0 0 => some (.lit .nil, [])
  | .slice (some ⟨g, o, none⟩) n c => some (.agg [.lit (.int .i64 (g : Nat)), .lit (.int .i64 (o : Nat)), .lit (.int .i64 (n : Nat)), .lit (.int .i64 (c : Nat))], [])
  | _ => none
def encS (g o n c : Nat) : DataW Unit := .agg [.lit (.int .i64 (g : Nat)), .lit (.int .i64 (o : Nat)), .lit (.int .i64 (n : Nat)), .lit (.int .i64 (c : Nat))]
theorem rSl_inv {v : Value} {g o n c : Nat} {ps : List MemPlace} (h : rSl v = some (encS g o n c, ps)) : v = .slice (some ⟨g, o, none⟩) n c := by
  unfold rSl at h
  split at h
  · injection h with h
    injection h with h _
    cases h
  · injection h with h
    injection h with h _
    unfold encS at h
    simp at h
    obtain ⟨⟨h1, h2, h3, h4⟩, _⟩ := h
    simp
    omega
  · cases h
/-- The first pieces lie in a map of the call's own, each at its place. -/
def HasP (w : World) (bm n tr tc : Nat) (F : Nat → Value) : Prop := ∃ (D : DataW Unit) (N : Nat), w.ownsMap Tryd.prog 32 rSl bm N D ∧ N ≤ n ∧ ∀ i, i < n → ∃ g o m c, F i = .slice (some ⟨g, o, none⟩) m c ∧ ∀ zd, D.atKey (klP Tryd.prog 32 (tr + i) tc) zd = encS g o m c
theorem hasP_new (w : World) (tr tc : Nat) (F : Nat → Value) : HasP (w.alloc (.map #[] 0)) w.heap.size 0 tr tc F := ⟨_, 0, World.ownsMap_made w _ _ _, Nat.le_refl _, fun i hi => absurd hi (Nat.not_lt_zero _)⟩
theorem HasP.kept {w w' : World} {bm n tr tc : Nat} {F : Nat → Value} {row : Option Nat} (h : HasP w bm n tr tc F) (hg : w.grownBy w' row) (hne : some bm ≠ row) : HasP w' bm n tr tc F := by
  obtain ⟨D, N, h1, h2, h3⟩ := h
  exact ⟨D, N, h1.kept hg hne, h2, h3⟩
theorem HasP.below {w w' : World} {bm n tr tc : Nat} {F : Nat → Value} (h : HasP w bm n tr tc F) (k : Below w.heap.size w w') : HasP w' bm n tr tc F := h.kept (row := none) ⟨k.os, k.tape, k.output, k.size, fun i hi _ => k.block i hi⟩ (by simp)
theorem HasP.lt {w : World} {bm n tr tc : Nat} {F : Nat → Value} (h : HasP w bm n tr tc F) : bm < w.heap.size := by
  obtain ⟨D, N, h1, _⟩ := h
  exact h1.lt
set_option maxRecDepth 100000 in
theorem HasP.put {w : World} {bm i tr tc : Nat} {F : Nat → Value} (h : HasP w bm i tr tc F) (hi : tr + i ≤ 2000) (hc : tc ≤ 2000) {g o m c : Nat} (hF : F i = .slice (some ⟨g, o, none⟩) m c) :
    ∃ w', (Instr.mapUpdate 90 (.map (some bm)) (posV (tr + i) tc) (.slice (some ⟨g, o, none⟩) m c)).run Tryd.prog w = .ok () w' ∧ HasP w' bm (i + 1) tr tc F ∧ w.grownBy w' (some bm) := by
  obtain ⟨D, N, h1, h2, h3⟩ := h
  have hk := klP_is (tr + i) tc hi hc
  obtain ⟨w', r1, r2, r3⟩ := h1.update keyedPos Tryd.underlying90 (by unfold maxLen; omega) hk (d := encS g o m c) (ps := []) (val := .slice (some ⟨g, o, none⟩) m c) rfl
  refine ⟨w', r1, ⟨_, N + 1, r2, by omega, fun q hq => ?_⟩, r3⟩
  by_cases e : q = i
  · subst e
    refine ⟨g, o, m, c, hF, fun zd => Maps.atKey_put_same ?_ (keyedPos.key hk) _ zd⟩
    obtain ⟨es, clock, _, _, _, hD⟩ := h1
    exact ⟨_, hD⟩
  · obtain ⟨g', o', m', c', e1, e2⟩ := h3 q (by omega)
    refine ⟨g', o', m', c', e1, fun zd => ?_⟩
    rw [Maps.atKey_put_other (klP_ne (by omega) hi hc (by omega)) _ zd]
    exact e2 zd
set_option maxRecDepth 100000 in
theorem HasP.get {w : World} {bm n tr tc i : Nat} {F : Nat → Value} (h : HasP w bm n tr tc F) (hi : i < n) (hr : tr + i ≤ 2000) (hc : tc ≤ 2000) : (Instr.lookup 90 (.map (some bm)) (posV (tr + i) tc) false).run Tryd.prog w = .ok (F i) w := by
  obtain ⟨D, N, h1, h2, h3⟩ := h
  have hk := klP_is (tr + i) tc hr hc
  obtain ⟨g, o, m, c, e1, e2⟩ := h3 i hi
  obtain ⟨v, ps, r1, r2⟩ := h1.lookup keyedPos Tryd.underlying90 (z := .slice none 0 0) (zd := .lit .nil) (zp := []) (by kernel_rfl) rfl hk
  rw [e2] at r2
  rw [r1, e1, rSl_inv r2]

open Go Go.RowKit Go.Shelf
attribute [local go_sem] Oper.semAt_some

set_option maxHeartbeats 4000000 in
theorem copy1_any (W : World) (b8 bm N tr tc i j lo g n c : Nat) (F : Nat → Value) (R S : Cls) (p m cm : Nat) (H : CRow W lo (.slice (some ⟨g, 0, none⟩) n c) R) (hn : n = R.length) (hp : p + S.length ≤ R.length) (hm : S.length = m)
    (hM : HasP W bm N tr tc F) (h8 : W.cell? ⟨b8, 0, none⟩ = some (.map (some bm))) (hi : i < N) (hr : tr + i ≤ 2000) (hc : tc ≤ 2000) (hS : RowIn W (F i) S) :
    Calls Tryd.prog 43 #[posV (tr + i) tc, .slice (some ⟨g, p * 14, none⟩) m cm, .pointer (some ⟨b8, 0, none⟩)] W fun e w' => e = .returned (.tuple #[]) ∧ CRow w' lo (.slice (some ⟨g, 0, none⟩) n c) (place R p S) ∧ But g W w' := by
  obtain ⟨w0, hw0⟩ : ∃ w0, w0 = W.alloc (.cells #[.int .i64 ((tr + i : Nat) : Int), .int .i64 (tc : Nat)] 32) := ⟨_, rfl⟩
  obtain ⟨b3, hb3⟩ : ∃ b, b = W.heap.size := ⟨_, rfl⟩
  have HB0 := Lib.hid (show Below W.heap.size W w0 by rw [hw0]; exact (Below.refl _ _).alloc (Nat.le_refl _) _)
  have HH := Lib.hid (H.below HB0.out)
  have hrun := (hM.below HB0.out).get hi hr hc
  have HSS := Lib.hid (hS.below HB0.out)
  have c8 := (HB0.out.cell (p := ⟨b8, 0, none⟩) (World.block_lt_of_cell? W ⟨b8, 0, none⟩ h8)).trans h8
  have d0 : w0.cell? ⟨b3, 0, none⟩ = some (.int .i64 ((tr + i : Nat) : Int)) := by rw [hw0, hb3]; simp
  have d1 : w0.cell? ⟨b3, 1, none⟩ = some (.int .i64 (tc : Nat)) := by rw [hw0, hb3]; simp
  obtain ⟨q, hq⟩ : ∃ q, q = tr + i := ⟨_, rfl⟩
  rw [← hq] at hrun d0 hw0 ⊢
  have HN := Lib.hid hn
  have HP := Lib.hid hp
  have HM := Lib.hid hm
  obtain ⟨fa, fc, hf⟩ := hS.shape
  rw [hf] at hrun HSS
  obtain ⟨s, hs⟩ : ∃ s, s = S.length := ⟨_, rfl⟩
  have HSL := Lib.hid hs
  rw [← hs] at hrun HSS
  clear H hM hS hf hn hp hm h8 hi hr hq hs
  go_enter Tryd.func43, Tryd.ntmps43
  go_upto_region 1 with (fail)
  rw [← hw0, ← hb3]
  clear hw0 hb3
  go_wp2_with (refine wpList_copy_cells rfl (.tmp 5) (.tmp 8) rfl lo g n c R HH.out HN.out _ S rfl HSS.out p m cm _ rfl HP.out (Nat.le_of_eq HM.out) (fun _ => rfl) ?_)
  intro w2 own2 but2
  have HO := Lib.hid own2
  have HBT := Lib.hid but2
  clear own2 but2
  go_wp2
  go_end0
  exact ⟨rfl, HO.out, (But.of HB0.out).trans HBT.out⟩
theorem Q4.put2 {w : World} {b : Nat} {t l m c : Int} (h : Q4 w b ⟨t, l, m, c⟩) (m' c' : Int) : Q4 ((w.setCell ⟨b, 2, none⟩ (.int .i64 m')).setCell ⟨b, 3, none⟩ (.int .i64 c')) b ⟨t, l, m', c'⟩ := by
  obtain ⟨h0, ⟨a0, a1, a2, a3⟩, hf⟩ := h
  dsimp only at a0 a1 a2 a3
  refine ⟨by simp; exact h0, ?_, fun i => by simp [hf i]⟩
  refine ⟨?_, ?_, ?_, ?_⟩ <;> simp [World.cell?_setCell_other, World.cell?_setCell_same', a0, a1, a2, a3]
theorem RowIn.butM {w w' : World} {g : Nat} {v : Value} {R : Cls} (h : RowIn w v R) (k : But g w w') (hg : ∃ o : Obj, w.heap[g]? = some o ∧ o.isCells = false) : RowIn w' v R := by
  obtain ⟨a, c, e, hc, hm, hh⟩ := h
  refine ⟨a, c, e, hc, hm, fun h0 => ?_⟩
  obtain ⟨b, o, ea, hb, hC⟩ := hh h0
  refine ⟨b, o, ea, Nat.lt_of_lt_of_le hb k.size, fun i hi => (hC i hi).same (k.block b hb (fun e => ?_))⟩
  have e' : b = g := by simpa using e
  obtain ⟨ob, ho, hcl⟩ := cells_of_cell (hC 0 h0).1
  obtain ⟨og, hog, hcg⟩ := hg
  dsimp only at ho
  rw [e', hog] at ho
  injection ho with ho
  rw [ho] at hcg
  rw [hcg] at hcl
  cases hcl
theorem RowIn.turn {w w' : World} {v : Value} {R : Cls} {row : Option Nat} (h : RowIn w v R) (hg : w.grownBy w' row) (hr : ∀ r, row = some r → ∃ o : Obj, w.heap[r]? = some o ∧ o.isCells = false) : RowIn w' v R := by
  obtain ⟨a, c, e, hc, hm, hh⟩ := h
  refine ⟨a, c, e, hc, hm, fun h0 => ?_⟩
  obtain ⟨b, o, ea, hb, hC⟩ := hh h0
  obtain ⟨ob, ho, hcl⟩ := cells_of_cell (hC 0 h0).1
  exact ⟨b, o, ea, Nat.lt_of_lt_of_le hb hg.size, fun i hi => (hC i hi).same (grownBy_keeps_cells hg hr ho hcl)⟩
theorem GSee.turn {w w' : World} {v : Value} {G : List Cls} {U : Nat → Value} {row : Option Nat} (h : GSee w v G U) (hg : w.grownBy w' row) (hr : ∀ r, row = some r → ∃ o : Obj, w.heap[r]? = some o ∧ o.isCells = false) : GSee w' v G U := by
  obtain ⟨a, c, e, h1, h2, h3⟩ := h
  refine ⟨a, c, e, h1, fun h0 => ?_, fun i hi => (h3 i hi).turn hg hr⟩
  obtain ⟨g, o, ea, hg', hc⟩ := h2 h0
  exact ⟨g, o, ea, Nat.lt_of_lt_of_le hg' hg.size, fun i hi => cell_kept (hc i hi) hg hr⟩
/-- What Copy makes of a grid. -/
def copyR (G : List Cls) (m : Nat) (r : R4) (tr tc : Int) : List Cls :=
  if ((clipM ⟨tr, tc, ((clipM r G.length m).n : Nat), ((clipM r G.length m).c : Nat)⟩ G.length m).t : Int) = tr ∧ ((clipM ⟨tr, tc, ((clipM r G.length m).n : Nat), ((clipM r G.length m).c : Nat)⟩ G.length m).l : Int) = tc
  then copyG G (clipM r G.length m) (clipM ⟨tr, tc, ((clipM r G.length m).n : Nat), ((clipM r G.length m).c : Nat)⟩ G.length m) else G
set_option maxHeartbeats 8000000 in
set_option maxRecDepth 100000 in
theorem copy12_any (w : World) (v : Value) (G : List Cls) (U : Nat → Value) (m : Nat) (r : R4) (tr tc : Int) (h : GSee w v G U) (hg : GG G m) (hr : r.Ok) (htr : I64 tr) (htc : I64 tc) :
    Calls Tryd.prog 19 #[v, r4V r, .agg #[.int .i64 tr, .int .i64 tc]] w (Makes12 w (copyR G m r tr tc)) := by
  obtain ⟨k, hk⟩ : ∃ k, k = clipM r G.length m := ⟨_, rfl⟩
  obtain ⟨q, hq⟩ : ∃ q, q = clipM ⟨tr, tc, (k.n : Nat), (k.c : Nat)⟩ G.length m := ⟨_, rfl⟩
  have hkin : k.In G.length m := by rw [hk]; exact clip_in _ _ _
  have hqin : q.In G.length m := by rw [hq]; exact clip_in _ _ _
  obtain ⟨GR, hGR⟩ : ∃ GR, GR = copyR G m r tr tc := ⟨_, rfl⟩
  have HGR := Lib.hid (show GR = if (q.t : Int) = tr ∧ (q.l : Int) = tc then copyG G k q else G by rw [hGR, hq, hk]; rfl)
  rw [← hGR]
  have hkn : k.n ≤ 600 ∧ k.c ≤ 600 := by have := hkin.r; have := hkin.c; have := hg.n1; have := hg.m1; omega
  have HC1 := Lib.hid (fun (wx : World) (hb : Below w.heap.size w wx) => (show Calls Tryd.prog 40 #[v, r4V r] wx fun x w' => x = .returned (rkV k) ∧ Below wx.heap.size wx w' by rw [hk]; exact clipped_any wx v G U m r (h.below hb) hg hr))
  have HC2 := Lib.hid (fun (wx : World) (hb : Below w.heap.size w wx) => (show Calls Tryd.prog 40 #[v, .agg #[.int .i64 tr, .int .i64 tc, .int .i64 (k.n : Nat), .int .i64 (k.c : Nat)]] wx fun x w' => x = .returned (rkV q) ∧ Below wx.heap.size wx w' by
    rw [hq]
    exact clipped_any wx v G U m ⟨tr, tc, (k.n : Nat), (k.c : Nat)⟩ (h.below hb) hg ⟨htr, htc, ⟨by dsimp only; omega, by dsimp only; omega⟩, ⟨by dsimp only; omega, by dsimp only; omega⟩⟩))
  have HNO := Lib.hid (fun (wx : World) (hb : Below w.heap.size w wx) => broken_see wx v G U m (h.below hb) hg)
  have HKI := Lib.hid hkin
  have HQI := Lib.hid hqin
  have HS := Lib.hid h
  have HGG := Lib.hid hg
  obtain ⟨t, l, nn, cc⟩ := r
  obtain ⟨kt, kl, kn, kc⟩ := k
  obtain ⟨qt, ql, qn, qc⟩ := q
  have HCQ := Lib.hid hq
  have HCN := Lib.hid (show qn ≤ kn ∧ qc ≤ kc ∨ ¬ ((qt : Int) = tr ∧ (ql : Int) = tc) by
    by_cases e : (qt : Int) = tr ∧ (ql : Int) = tc
    · refine .inl ?_
      have := clip_at (t := tr) (l := tc) (n := kn) (c := kc) (rows := G.length) (cols := m) (by omega) (by omega)
      rw [← hq] at this
      exact this
    · exact .inr e)
  obtain ⟨a, c, hv⟩ := h.shape
  obtain ⟨N, hN⟩ : ∃ N, N = G.length := ⟨_, rfl⟩
  rw [← hN] at hv
  subst hv
  have HN := Lib.hid hN
  obtain ⟨w0, hw0⟩ : ∃ W0, W0 = (w.alloc (.cells #[.int .i64 t, .int .i64 l, .int .i64 nn, .int .i64 cc] 30)).alloc (.cells #[.int .i64 tr, .int .i64 tc] 32) := ⟨_, rfl⟩
  obtain ⟨b4, hb4⟩ : ∃ q, q = w.heap.size := ⟨_, rfl⟩
  obtain ⟨b5, hb5⟩ : ∃ q, q = w.heap.size + 1 := ⟨_, rfl⟩
  have HB0 := Lib.hid (show Below w.heap.size w w0 by rw [hw0]; exact ((Below.refl _ _).alloc (Nat.le_refl _) _).alloc (by simp) _)
  have HQ0 := Lib.hid (show Q4 w0 b4 ⟨t, l, nn, cc⟩ by rw [hw0, hb4]; exact (Q4.newAt w _ rfl _ _ _ _ _).below ((Below.refl _ _).alloc (Nat.le_refl _) _))
  have HP0 := Lib.hid (show w0.cell? ⟨b5, 0, none⟩ = some (.int .i64 tr) ∧ w0.cell? ⟨b5, 1, none⟩ = some (.int .i64 tc) by rw [hw0, hb5]; exact ⟨by simp, by simp⟩)
  have HNE := Lib.hid (show b4 ≠ b5 ∧ w.heap.size ≤ b4 ∧ w.heap.size ≤ b5 ∧ b4 < w0.heap.size ∧ b5 < w0.heap.size by rw [hw0, hb4, hb5]; exact ⟨by omega, by omega, by omega, by simp; omega, by simp⟩)
  have C1 := Lib.hid (HC1.out w0 HB0.out)
  obtain ⟨_, ⟨x0, x1, x2, x3⟩, _⟩ := HQ0.out
  dsimp only at x0 x1 x2 x3
  clear h hg hr hk hN hq hkin hqin hGR hkn htr htc
  refine (callsIn_wide (n := 0)).1 ?_
  refine callsIn_of_wp_marks Tryd.func19 rfl trivial ?_ rfl
  simp only [Tryd.ntmps19, List.size_toArray, List.length_cons, List.length_nil, Nat.reduceAdd, Nat.reduceSub, Array.replicate_succ, Array.replicate_zero, List.push_toArray, List.append_toArray, List.nil_append, List.cons_append]
  gi_wp2_with fail
  rw [← hw0, ← hb5, ← hb4]
  clear hw0 hb5 hb4
  refine ⟨trivial, rfl, ?_⟩
  refine (callsIn_wide.2 C1.out).mono ?_
  rintro e w1 ⟨rfl, b1⟩
  have HB1 := Lib.hid (HB0.out.trans (b1.mono HB0.out.size))
  have HQ1 := Lib.hid (HQ0.out.below b1)
  obtain ⟨_, ⟨q0, q1, q2, q3⟩, hf⟩ := HQ1.out
  dsimp only at q0 q1 q2 q3
  have f0 := hf 0
  have f1 := hf 1
  have f2 := hf 2
  have f3 := hf 3
  obtain ⟨w2, hw2⟩ : ∃ x, x = put4 w1 b4 (kt : Nat) (kl : Nat) (kn : Nat) (kc : Nat) := ⟨_, rfl⟩
  have HQ2 := Lib.hid (show Q4 w2 b4 (Rk.r4 ⟨kt, kl, kn, kc⟩) by rw [hw2]; exact HQ1.out.put _ _ _ _)
  have HB2 := Lib.hid (show Below w.heap.size w w2 by rw [hw2]; exact HB1.out.trans ((put4_but w1 b4 _ _ _ _).below HNE.out.2.1 HB1.out.size))
  have HP2 := Lib.hid (show w2.cell? ⟨b5, 0, none⟩ = some (.int .i64 tr) ∧ w2.cell? ⟨b5, 1, none⟩ = some (.int .i64 tc) by
    rw [hw2]
    have p1 := (b1.cell (p := ⟨b5, 0, none⟩) HNE.out.2.2.2.2).trans HP0.out.1
    have p2 := (b1.cell (p := ⟨b5, 1, none⟩) HNE.out.2.2.2.2).trans HP0.out.2
    exact ⟨(put4_but w1 b4 _ _ _ _).cell p1 (by show b5 ≠ b4; exact fun e => HNE.out.1 e.symm), (put4_but w1 b4 _ _ _ _).cell p2 (by show b5 ≠ b4; exact fun e => HNE.out.1 e.symm)⟩)
  have HL2 := Lib.hid (show b4 < w2.heap.size ∧ b5 < w2.heap.size by
    have := b1.size
    have := HNE.out
    rw [hw2]
    have h5 := (put4_but w1 b4 (kt : Nat) (kl : Nat) (kn : Nat) (kc : Nat)).size
    exact ⟨by omega, by omega⟩)
  unfold put4 at hw2
  have C2 := Lib.hid (HC2.out w2 HB2.out)
  have y0 := HP2.out.1
  have y1 := HP2.out.2
  obtain ⟨_, ⟨_, _, y2, y3⟩, _⟩ := HQ2.out
  unfold Rk.r4 at y2 y3
  dsimp only at y2 y3
  clear b1 hf x0 x1 x2 x3 HC1 HC2 C1 HQ0 HP0 HQ1 HB1
  gi_wp2_with (first | (rw [← hw2]; clear hw2) | fail)
  refine ⟨trivial, rfl, ?_⟩
  refine (callsIn_wide.2 C2.out).mono ?_
  rintro e w3 ⟨rfl, b3⟩
  have HB3 := Lib.hid (show Below w.heap.size w w3 from HB2.out.trans (b3.mono HB2.out.size))
  have HQ3 := Lib.hid (HQ2.out.below b3)
  have HP3 := Lib.hid (show w3.cell? ⟨b5, 0, none⟩ = some (.int .i64 tr) ∧ w3.cell? ⟨b5, 1, none⟩ = some (.int .i64 tc) from ⟨(b3.cell (p := ⟨b5, 0, none⟩) HL2.out.2).trans HP2.out.1, (b3.cell (p := ⟨b5, 1, none⟩) HL2.out.2).trans HP2.out.2⟩)
  have HL3 := Lib.hid (show b4 < w3.heap.size ∧ b5 < w3.heap.size from ⟨Nat.lt_of_lt_of_le HL2.out.1 b3.size, Nat.lt_of_lt_of_le HL2.out.2 b3.size⟩)
  obtain ⟨b7, hb7⟩ : ∃ b, b = w3.heap.size := ⟨_, rfl⟩
  obtain ⟨w4, hw4⟩ : ∃ x, x = w3.alloc (.cells #[.int .i64 (qt : Nat), .int .i64 (ql : Nat), .int .i64 (qn : Nat), .int .i64 (qc : Nat)] 30) := ⟨_, rfl⟩
  have y0 := HP3.out.1
  have y1 := HP3.out.2
  have HB34 := Lib.hid (show Below w3.heap.size w3 w4 by rw [hw4]; exact (Below.refl _ _).alloc (Nat.le_refl _) _)
  have z0 := (HB34.out.cell (p := ⟨b5, 0, none⟩) HL3.out.2).trans HP3.out.1
  have z1 := (HB34.out.cell (p := ⟨b5, 1, none⟩) HL3.out.2).trans HP3.out.2
  rw [hw4] at z0 z1
  clear b3 C2 HB2 HQ2 HP2 HL2 y2 y3
  have HQ4 := Lib.hid (HQ3.out.below HB34.out)
  have HB4 := Lib.hid (show Below w.heap.size w w4 from HB3.out.trans (HB34.out.mono HB3.out.size))
  have HQ7 := Lib.hid (show Q4 w4 b7 (Rk.r4 ⟨qt, ql, qn, qc⟩) by rw [hw4]; exact Q4.newAt w3 b7 hb7 _ _ _ _ _)
  have HL7 := Lib.hid (show w3.heap.size ≤ b7 ∧ b4 ≠ b7 ∧ b5 ≠ b7 by have := HL3.out; exact ⟨by omega, by omega, by omega⟩)
  by_cases he : (qt : Int) = tr ∧ (ql : Int) = tc
  case neg =>
    have HG1 := Lib.hid (show GR = G by rw [HGR.out]; exact if_neg he)
    have HN4 := Lib.hid (HNO.out w4 HB4.out)
    clear HGR HCN
    by_cases e1 : (qt : Int) = tr
    · have e2 : ¬ (ql : Int) = tc := fun e => he ⟨e1, e⟩
      subst e1
      have e3 : ((ql : Int) == tc) = false := by simpa using e2
      clear he
      gi_wp2_with fail
      rw [← hw4, ← hb7]
      clear hw4 hb7
      refine ⟨trivial, rfl, ?_⟩
      refine (callsIn_wide.2 HN4.out).mono ?_
      rintro e w5 ⟨v', U', rfl, hs, b5'⟩
      have HS5 := Lib.hid hs
      have HB5 := Lib.hid (HB4.out.trans (b5'.mono HB4.out.size))
      obtain ⟨a', c', rfl⟩ := hs.shape
      obtain ⟨n', hn'⟩ : ∃ n', n' = G.length := ⟨_, rfl⟩
      rw [← hn'] at HS5 ⊢
      clear hs b5' hn'
      gi_wp2
      refine ⟨_, results_tmp rfl _ _ _, _, U', rfl, by rw [HG1.out]; exact HS5.out, HB5.out⟩
    · have e3 : ((qt : Int) == tr) = false := by simpa using e1
      clear he
      gi_wp2_with fail
      rw [← hw4, ← hb7]
      clear hw4 hb7
      refine ⟨trivial, rfl, ?_⟩
      refine (callsIn_wide.2 HN4.out).mono ?_
      rintro e w5 ⟨v', U', rfl, hs, b5'⟩
      have HS5 := Lib.hid hs
      have HB5 := Lib.hid (HB4.out.trans (b5'.mono HB4.out.size))
      obtain ⟨a', c', rfl⟩ := hs.shape
      obtain ⟨n', hn'⟩ : ∃ n', n' = G.length := ⟨_, rfl⟩
      rw [← hn'] at HS5 ⊢
      clear hs b5' hn'
      gi_wp2
      refine ⟨_, results_tmp rfl _ _ _, _, U', rfl, by rw [HG1.out]; exact HS5.out, HB5.out⟩
  case pos =>
    have HG1 := Lib.hid (show GR = copyG G ⟨kt, kl, kn, kc⟩ ⟨qt, ql, qn, qc⟩ by rw [HGR.out]; exact if_pos he)
    have HLE := Lib.hid (show qn ≤ kn ∧ qc ≤ kc from HCN.out.resolve_right (fun h => h he))
    clear HGR HCN
    obtain ⟨e1, e2⟩ := he
    subst e1 e2
    have HKF := Lib.hid (show Rk.In ⟨kt, kl, qn, qc⟩ G.length m from ⟨by have h1 := HKI.out.r; have h2 := HLE.out; dsimp only at h1 ⊢; omega, by have h1 := HKI.out.c; have h2 := HLE.out; dsimp only at h1 ⊢; omega, fun e => by
      have hz := HQI.out.e e
      injection hz with z1 z2 z3 z4
      dsimp only at e
      have hk0 : kn = 0 ∨ kc = 0 := by
        rcases Nat.eq_zero_or_pos kn with h0 | h0
        · exact .inl h0
        · rcases Nat.eq_zero_or_pos kc with h1 | h1
          · exact .inr h1
          · exfalso
            have hr := HKI.out.r
            have hc := HKI.out.c
            dsimp only at hr hc
            have hq' := HCQ.out
            have : (clipM ⟨((qt : Nat) : Int), ((ql : Nat) : Int), ((kn : Nat) : Int), ((kc : Nat) : Int)⟩ G.length m).n ≠ 0 := by
              rw [z1, z2]
              unfold clipM
              dsimp only
              rw [span_yes (by omega), span_yes (by omega), if_neg (by omega), if_neg (by omega)]
              rw [if_neg (by first | omega | simp | decide)]
              dsimp only
              omega
            rw [← hq'] at this
            exact this z3
      have hz2 := HKI.out.e hk0
      injection hz2 with y1 y2 y3 y4
      rw [y1, y2, z3, z4]⟩)
    have HGK := Lib.hid (HGG.out.brk ⟨kt, kl, qn, qc⟩)
    have HBR := Lib.hid (fun (wx : World) (hb : Below w.heap.size w wx) => (show Calls Tryd.prog 41 #[.slice a N c, .agg #[.int .i64 (kt : Nat), .int .i64 (kl : Nat), .int .i64 (qn : Nat), .int .i64 (qc : Nat)]] wx fun x w' => ∃ v' H, x = .returned v' ∧ GOwn w' wx.heap.size v' H (brkG G ⟨kt, kl, qn, qc⟩) ∧ Below wx.heap.size wx w' by
      have := broken_any wx (.slice a N c) G U m (Rk.r4 ⟨kt, kl, qn, qc⟩) (HS.out.below hb) HGG.out (HKF.out.ok (by have := HGG.out.n1; omega) (by have := HGG.out.m1; omega))
      rw [clip_self HKF.out] at this
      exact this))
    have HPS := Lib.hid (fun (wx : World) (v' : Value) (U' : Nat → Value) (hs : GSee wx v' (brkG G ⟨kt, kl, qn, qc⟩) U') => (show Calls Tryd.prog 34 #[v', .agg #[.int .i64 (kt : Nat), .int .i64 (kl : Nat), .int .i64 (qn : Nat), .int .i64 (qc : Nat)]] wx _ by
      have := pieces_any wx v' (brkG G ⟨kt, kl, qn, qc⟩) U' m (Rk.r4 ⟨kt, kl, qn, qc⟩) hs HGK.out (HKF.out.ok (by have := HGG.out.n1; omega) (by have := HGG.out.m1; omega))
      rw [show clipM (Rk.r4 ⟨kt, kl, qn, qc⟩) (brkG G ⟨kt, kl, qn, qc⟩).length m = ⟨kt, kl, qn, qc⟩ by rw [len_brkG]; exact clip_self HKF.out] at this
      exact this))
    obtain ⟨w5, hw5⟩ : ∃ x, x = w4.drew := ⟨_, rfl⟩
    obtain ⟨w6, hw6⟩ : ∃ x, x = (w5.setCell ⟨b4, 2, none⟩ (.int .i64 (qn : Nat))).setCell ⟨b4, 3, none⟩ (.int .i64 (qc : Nat)) := ⟨_, rfl⟩
    have HQ5 := Lib.hid (show Q4 w5 b4 (Rk.r4 ⟨kt, kl, kn, kc⟩) by rw [hw5]; exact HQ4.out)
    have HT6 := Lib.hid (show But b4 w5 w6 by rw [hw6]; exact (But.set w5 b4 2 _).trans (But.set _ b4 3 _))
    have HQ6 := Lib.hid (show Q4 w6 b4 (Rk.r4 ⟨kt, kl, qn, qc⟩) by rw [hw6]; exact HQ5.out.put2 _ _)
    have H57 := Lib.hid (show Q4 w5 b7 (Rk.r4 ⟨qt, ql, qn, qc⟩) by rw [hw5]; exact HQ7.out)
    have H67 := Lib.hid (H57.out.but HT6.out (fun e => HL7.out.2.1 e.symm))
    have HB6 := Lib.hid (show Below w.heap.size w w6 by
      have h5 : Below w.heap.size w w5 := by rw [hw5]; exact HB4.out.drew
      exact h5.trans (HT6.out.below HNE.out.2.1 h5.size))
    have HP6 := Lib.hid (show w6.cell? ⟨b5, 0, none⟩ = some (.int .i64 (qt : Nat)) ∧ w6.cell? ⟨b5, 1, none⟩ = some (.int .i64 (ql : Nat)) by
      rw [← hw4] at z0 z1
      have k0 : w5.cell? ⟨b5, 0, none⟩ = some (.int .i64 (qt : Nat)) := by rw [hw5]; exact z0
      have k1 : w5.cell? ⟨b5, 1, none⟩ = some (.int .i64 (ql : Nat)) := by rw [hw5]; exact z1
      exact ⟨HT6.out.cell k0 (fun e => HNE.out.1 e.symm), HT6.out.cell k1 (fun e => HNE.out.1 e.symm)⟩)
    have HL5 := Lib.hid (show b5 < w6.heap.size from World.block_lt_of_cell? w6 ⟨b5, 0, none⟩ HP6.out.1)
    gi_wp2_with fail
    rw [← hw4, ← hb7]
    clear hw4 hb7 z0 z1 y0 y1 q0 q1 q2 q3 f0 f1 f2 f3
    refine wpIn_wide.2 (wp_onlyN ?_)
    refine wp_region_held_drew (S := fun wx => wx.cell? ⟨b7, 2, none⟩ = some (.int .i64 (qn : Nat)) ∧ wx.cell? ⟨b7, 3, none⟩ = some (.int .i64 (qc : Nat))) (by kernel_rfl) ?_ (fun hHeld => ?_)
    · rw [← hw5]
      exact ⟨H57.out.2.1.2.2.1, H57.out.2.1.2.2.2⟩
    rw [← hw5] at hHeld ⊢
    clear hw5
    refine tk 0 rfl (fun w hSw => by (try dsimp only at hSw); go_simp; try with_reducible rfl) ?_
    go_frame
    refine tk 2 rfl (fun w hSw => by (try dsimp only at hSw); go_simp; try with_reducible rfl) ?_
    go_frame
    refine tk 1 rfl (fun w hSw => by (try dsimp only at hSw); go_simp; try with_reducible rfl) ?_
    go_frame
    refine tk 3 rfl (fun w hSw => by (try dsimp only at hSw); go_simp; try with_reducible rfl) ?_
    go_frame
    refine tk 4 rfl (fun w hSw => by (try dsimp only at hSw); go_simp; try with_reducible rfl) ?_
    go_frame
    obtain ⟨_, ⟨g0, g1, g2, g3⟩, gf⟩ := HQ5.out
    unfold Rk.r4 at g2 g3
    dsimp only at g2 g3
    have gf2 := gf 2
    have gf3 := gf 3
    have kp7 : ∀ (W : World) (i j : Nat) (u v : Value), W.cell? ⟨b7, i, none⟩ = some v → (W.setCell ⟨b4, j, none⟩ u).cell? ⟨b7, i, none⟩ = some v := fun W i j u v h => (World.cell?_setCell_other _ _ _ _ (fun e => HL7.out.2.1 (by injection e with e _ _))).trans h
    have KP7 := Lib.hid kp7
    clear gf kp7
    refine do_at (i := 5) rfl (by kernel_rfl) (by kernel_rfl) (fun K hK => ?_)
    go_simp
    refine hK.out _ _ ?_ (fun hHeld => ?_)
    · exact ⟨KP7.out _ _ _ _ _ hHeld.1, KP7.out _ _ _ _ _ hHeld.2⟩
    clear hK K
    try go_frame
    refine tk 6 rfl (fun w hSw => by (try dsimp only at hSw); go_simp; try with_reducible rfl) ?_
    go_frame
    refine do_at (i := 7) rfl (by kernel_rfl) (by kernel_rfl) (fun K hK => ?_)
    have g3' : (w5.setCell ⟨b4, 2, none⟩ (.int .i64 (qn : Nat))).cell? ⟨b4, 3, none⟩ = some (.int .i64 (kc : Nat)) := (World.cell?_setCell_other _ _ _ _ (fun e => by injection e with _ e _; exact absurd e (by decide))).trans g3
    go_simp
    refine hK.out _ _ ?_ (fun hHeld => ?_)
    · exact ⟨KP7.out _ _ _ _ _ hHeld.1, KP7.out _ _ _ _ _ hHeld.2⟩
    clear hK K
    try go_frame
    refine wpAnyH_done (by kernel_rfl) ?_ _
    rw [← hw6]
    clear hw6 hHeld KP7 g0 g1 g2 g3 gf2 gf3 g3'
    unfold onlyN
    try dsimp only
    obtain ⟨bm, hbm⟩ : ∃ b, b = w6.heap.size := ⟨_, rfl⟩
    obtain ⟨b8, hb8⟩ : ∃ b, b = w6.heap.size + 1 := ⟨_, rfl⟩
    obtain ⟨w8, hw8⟩ : ∃ x, x = (w6.alloc (.map #[] 0)).alloc (.cells #[.map (some w6.heap.size)] 90) := ⟨_, rfl⟩
    have HB8 := Lib.hid (show Below w6.heap.size w6 w8 by rw [hw8]; exact ((Below.refl _ _).alloc (Nat.le_refl _) _).alloc (by simp) _)
    have HM8 := Lib.hid (fun F => (show HasP w8 bm 0 qt ql F by rw [hw8, hbm]; exact (hasP_new w6 qt ql F).below ((Below.refl _ _).alloc (Nat.le_refl _) _)))
    have HC8 := Lib.hid (show w8.cell? ⟨b8, 0, none⟩ = some (.map (some bm)) by rw [hw8, hb8, hbm]; simp)
    have HL8 := Lib.hid (show w6.heap.size ≤ bm ∧ bm ≠ b8 ∧ w6.heap.size ≤ b8 ∧ bm < w8.heap.size ∧ b8 < w8.heap.size by rw [hw8, hb8, hbm]; exact ⟨by omega, by omega, by omega, by simp; omega, by simp⟩)
    have HQ8 := Lib.hid (HQ6.out.below HB8.out)
    have H87 := Lib.hid (H67.out.below HB8.out)
    have HP8 := Lib.hid (show w8.cell? ⟨b5, 0, none⟩ = some (.int .i64 (qt : Nat)) ∧ w8.cell? ⟨b5, 1, none⟩ = some (.int .i64 (ql : Nat)) from ⟨(HB8.out.cell (p := ⟨b5, 0, none⟩) HL5.out).trans HP6.out.1, (HB8.out.cell (p := ⟨b5, 1, none⟩) HL5.out).trans HP6.out.2⟩)
    have HBW8 := Lib.hid (show Below w.heap.size w w8 from HB6.out.trans (HB8.out.mono HB6.out.size))
    have hmm := @run_makeMap Tryd.prog
    gi_wp2
    rw [← hw8, ← hb8, ← hbm]
    clear hw8 hb8 hbm hmm
    obtain ⟨w9, hw9⟩ : ∃ x, x = w8.drew := ⟨_, rfl⟩
    have HB9 := Lib.hid (show Below w8.heap.size w8 w9 by rw [hw9]; exact (Below.refl _ _).drew)
    have HBW9 := Lib.hid (show Below w.heap.size w w9 from HBW8.out.trans (HB9.out.mono HBW8.out.size))
    have HQ9 := Lib.hid (HQ8.out.below HB9.out)
    have C9 := Lib.hid (HBR.out w9 HBW9.out)
    refine wpIn_wide.2 (wp_onlyN ?_)
    refine wp_region_held_drew (S := fun wx => wx.cell? ⟨b4, 0, none⟩ = some (.int .i64 (kt : Nat)) ∧ wx.cell? ⟨b4, 1, none⟩ = some (.int .i64 (kl : Nat)) ∧ wx.cell? ⟨b4, 2, none⟩ = some (.int .i64 (qn : Nat)) ∧ wx.cell? ⟨b4, 3, none⟩ = some (.int .i64 (qc : Nat))) (by kernel_rfl) ?_ (fun hHeld => ?_)
    · rw [← hw9]
      exact HQ9.out.2.1
    rw [← hw9] at hHeld ⊢
    clear hw9
    refine tk 0 rfl (fun w hSw => by (try dsimp only at hSw); go_simp; try with_reducible rfl) ?_
    go_frame
    refine tk 1 rfl (fun w hSw => by (try dsimp only at hSw); go_simp; try with_reducible rfl) ?_
    go_frame
    refine tk 3 rfl (fun w hSw => by (try dsimp only at hSw); go_simp; try with_reducible rfl) ?_
    go_frame
    refine do_at (i := 2) rfl (by kernel_rfl) (by kernel_rfl) (fun K hK => ?_)
    go_simp
    refine C9.out.mono ?_
    rintro e wa ⟨va, H, rfl, own, ba⟩
    have HOW := Lib.hid own
    have HBA := Lib.hid ba
    have HSA := Lib.hid own.see
    obtain ⟨oa, oc, hva⟩ := own.see.shape
    rw [len_brkG, ← HN.out] at hva
    subst hva
    have C10 := Lib.hid (HPS.out wa _ _ HSA.out)
    clear own ba
    go_wp2_with fail
    refine hK.out _ _ ?_ (fun hHeld => ?_)
    · exact (HQ9.out.below HBA.out).2.1
    clear hK K
    try go_frame
    refine do_at (i := 4) rfl (by kernel_rfl) (by kernel_rfl) (fun K hK => ?_)
    go_simp
    refine C10.out.mono ?_
    rintro e wp ⟨br, bg, rfl, hbr, hbg, hq, hcg, bp⟩
    have HBR' := Lib.hid hbr
    have HBG := Lib.hid hbg
    have HQP := Lib.hid hq
    have HCG := Lib.hid hcg
    have HBP := Lib.hid bp
    clear hbr hbg hq hcg bp
    go_wp2_with fail
    refine hK.out _ _ ?_ (fun hHeld => ?_)
    · exact ((HQ9.out.below HBA.out).below HBP.out).2.1
    clear hK K
    try go_frame
    refine wpAnyH_done (by kernel_rfl) ?_ _
    unfold onlyN
    try dsimp only
    clear hHeld C9 C10
    have HB8P := Lib.hid (show Below w8.heap.size w8 wp from (HB9.out.trans (HBA.out.mono HB9.out.size)).trans (HBP.out.mono (Nat.le_trans HB9.out.size HBA.out.size)))
    have HPB := Lib.hid (show Below w.heap.size w wp from HBW8.out.trans (HB8P.out.mono HBW8.out.size))
    have HSP := Lib.hid (HSA.out.below HBP.out)
    have H8A := Lib.hid (show w8.heap.size ≤ wa.heap.size from Nat.le_trans HB9.out.size HBA.out.size)
    obtain ⟨F, hF⟩ : ∃ F : Nat → Value, F = fun i => cutV (hdV (hdAt H (kt + i))) kl qc := ⟨_, rfl⟩
    have HFE := Lib.hid (show ∀ i, ∃ g o m c, F i = .slice (some ⟨g, o, none⟩) m c from fun i => by rw [hF]; exact ⟨_, _, _, _, rfl⟩)
    have HENC := Lib.hid (show encP ⟨kt, kl, qn, qc⟩ (fun j => hdV (hdAt H j)) = fun i => #[posV (kt + i) kl, F i] by rw [hF]; rfl)
    have HFS := Lib.hid (show ∀ i, i < qn → RowIn wp (F i) (piece (rowG G (kt + i)) kl qc) from fun i hi => by
      have h1 := (piece_in HSP.out HGK.out (show Rk.In ⟨kt, kl, qn, qc⟩ (brkG G ⟨kt, kl, qn, qc⟩).length m by rw [len_brkG]; exact HKF.out) (i := i) hi).1
      have hlt : kt + i < G.length := by have h := HKF.out.r; dsimp only at h; omega
      have hin : inR ⟨kt, kl, qn, qc⟩ (kt + i) := by unfold inR; dsimp only; omega
      unfold cellsK at h1
      dsimp only at h1
      rw [brkG, rowG_map hlt, if_pos hin] at h1
      rw [hF]
      exact h1)
    have HIT := Lib.hid (pieces_iter br bg (.slice oa N oc) ⟨kt, kl, qn, qc⟩ (fun j => hdV (hdAt H j)) (by have h := HKF.out.r; have := HGG.out.n1; dsimp only at h ⊢; omega) (by have h := HKF.out.c; have := HGG.out.m1; dsimp only at h ⊢; omega) (heads_of HSA.out HGK.out (by rw [len_brkG]; exact HKF.out)))
    rw [HENC.out] at HIT
    clear hF
    have HMP := Lib.hid ((HM8.out F).below HB8P.out)
    have HLM := Lib.hid (show bm < wp.heap.size ∧ br ≠ bm ∧ bg ≠ bm ∧ w.heap.size ≤ bm ∧ b4 ≠ bm ∧ b5 ≠ bm ∧ b7 ≠ bm ∧ b8 ≠ bm ∧ b8 < wp.heap.size by
      have h1 := HL8.out
      have h2 := HB8P.out.size
      have h3 := HBR'.out
      have h4 := HBG.out
      have h5 := H8A.out
      have h6 := HB6.out.size
      have h7 := HQ6.out.1
      have h8 := H67.out.1
      have h9 := HL5.out
      exact ⟨by omega, by omega, by omega, by omega, by omega, by omega, by omega, by omega, by omega⟩)
    have HQB := Lib.hid (HQ8.out.below HB8P.out)
    have HPP := Lib.hid (show wp.cell? ⟨b5, 0, none⟩ = some (.int .i64 (qt : Nat)) ∧ wp.cell? ⟨b5, 1, none⟩ = some (.int .i64 (ql : Nat)) from ⟨(HB8P.out.cell (p := ⟨b5, 0, none⟩) (Nat.lt_of_lt_of_le HL5.out HB8.out.size)).trans HP8.out.1, (HB8P.out.cell (p := ⟨b5, 1, none⟩) (Nat.lt_of_lt_of_le HL5.out HB8.out.size)).trans HP8.out.2⟩)
    have HCP := Lib.hid ((HB8P.out.cell (p := ⟨b8, 0, none⟩) HL8.out.2.2.2.2).trans HC8.out)
    have HHP := Lib.hid (show 0 < qn → ∃ g o n cap, Value.slice oa N oc = .slice (some ⟨g, o, none⟩) n cap ∧ kt + qn ≤ n ∧ n ≤ cap ∧ g ≠ bm ∧ ∀ j, j < n → wp.cell? ⟨g, o + j, none⟩ = some (hdV (hdAt H j)) from fun h0 => by
      have hr := HKF.out.r
      dsimp only at hr
      obtain ⟨g, o, cp, e1, e2, e3, e4⟩ := HSA.out.open (by rw [len_brkG]; omega)
      obtain ⟨g', o', cp', e1', _, _, e4'⟩ := HSP.out.open (by rw [len_brkG]; omega)
      rw [len_brkG, ← HN.out] at e1 e2 e1' e4'
      rw [e1] at e1'
      injection e1' with x1 x2 x3
      injection x1 with x1
      injection x1 with x1 x4
      subst x1 x4 x3
      refine ⟨g, o, N, cp, e1, by rw [HN.out]; exact hr, e2, ?_, e4'⟩
      intro e
      have h0' : 0 < N := by rw [HN.out]; omega
      obtain ⟨ob, ho, hcl⟩ := cells_of_cell (e4' 0 h0')
      dsimp only at ho
      obtain ⟨D, Nn, ⟨es, ck, hm, _⟩, _⟩ := HMP.out
      rw [e] at ho
      rw [hm] at ho
      injection ho with ho
      rw [← ho] at hcl
      cases hcl)
    gi_wp2
    refine wp_rangeA (gf := 55) (pre := #[]) (post := #[.pointer (some ⟨br, 0, none⟩), .pointer (some ⟨bg, 0, none⟩)]) rfl (enters_of Tryd.func55 (by kernel_rfl) rfl) HIT.out (fun _ => rfl)
      (fun i X => i ≤ qn ∧ But bm wp X ∧ HasP X bm i qt ql F)
      (fun i a' X => ∃ b9, a' = { tmps := #[Value.slice a N c, r4V ⟨t, l, nn, cc⟩, .agg #[.int .i64 (qt : Nat), .int .i64 (ql : Nat)], undef, .pointer (some ⟨b4, 0, none⟩), .pointer (some ⟨b5, 0, none⟩), .slice none 0 0, .pointer (some ⟨b7, 0, none⟩), .pointer (some ⟨b8, 0, none⟩), .pointer (some ⟨b9, 0, none⟩), F i, .slice a N c, .agg #[.int .i64 t, .int .i64 l, .int .i64 nn, .int .i64 cc], rkV ⟨kt, kl, kn, kc⟩, .slice a N c, .pointer (some ⟨b5, 0, none⟩), .int .i64 (qt : Nat), .pointer (some ⟨b5, 1, none⟩), .int .i64 (ql : Nat), .pointer (some ⟨b4, 2, none⟩), .int .i64 (kn : Nat), .pointer (some ⟨b4, 3, none⟩), .int .i64 (kc : Nat), .agg #[.int .i64 (qt : Nat), .int .i64 (ql : Nat), .int .i64 (kn : Nat), .int .i64 (kc : Nat)], rkV ⟨qt, ql, qn, qc⟩, .pointer (some ⟨b7, 0, none⟩), .int .i64 (qt : Nat), .pointer (some ⟨b7, 1, none⟩), .int .i64 (ql : Nat), .agg #[.int .i64 (qt : Nat), .int .i64 (ql : Nat)], .agg #[.int .i64 (qt : Nat), .int .i64 (ql : Nat)], .bool false, undef, undef, undef, .pointer (some ⟨b7, 2, none⟩), .int .i64 (qn : Nat), .pointer (some ⟨b7, 3, none⟩), .int .i64 (qc : Nat), .pointer (some ⟨b4, 2, none⟩), .pointer (some ⟨b4, 3, none⟩), .map (some bm), .slice a N c, .agg #[.int .i64 (kt : Nat), .int .i64 (kl : Nat), .int .i64 (qn : Nat), .int .i64 (qc : Nat)], .slice oa N oc, .agg #[.int .i64 (kt : Nat), .int .i64 (kl : Nat), .int .i64 (qn : Nat), .int .i64 (qc : Nat)], .func (.func 55) #[] #[.pointer (some ⟨br, 0, none⟩), .pointer (some ⟨bg, 0, none⟩)], posV (kt + i) kl, F i, undef, undef, undef, undef, undef, undef, undef, undef, undef, undef, undef, undef, undef, undef, undef, undef, undef], defers := [] } ∧ (X.cell? ⟨b9, 0, none⟩ = some (.int .i64 ((kt + i : Nat) : Int)) ∧ X.cell? ⟨b9, 1, none⟩ = some (.int .i64 (kl : Nat))) ∧ i ≤ qn ∧ But bm wp X ∧ HasP X bm i qt ql F)
      ?hI ?hA ?hH ?h0 ?assign ?body ?done
    case hI =>
      rintro i X X' row ⟨s1, s2, s3⟩ hg hr
      exact ⟨s1, s2.turn hg (Nat.le_refl _) (fun r e => (hr r e).1), s3.kept hg (fun e => by have := (hr bm e.symm).1; have := HLM.out.1; omega)⟩
    case hA =>
      rintro i a' _ X X' row ⟨b9, e9, ⟨z0, z1⟩, s1, s2, s3⟩ hg hr
      have hr' := fun r e => (hr r e).2
      exact ⟨b9, e9, ⟨cell_kept z0 hg hr', cell_kept z1 hg hr'⟩, s1, s2.turn hg (Nat.le_refl _) (fun r e => (hr r e).1), s3.kept hg (fun e => by have := (hr bm e.symm).1; have := HLM.out.1; omega)⟩
    case hH =>
      rintro i X ⟨s1, s2, s3⟩
      refine hrp_of (HQP.out.but s2 HLM.out.2.1) (s2.cell HCG.out HLM.out.2.2.1) fun h0 => ?_
      obtain ⟨g, o, n, cap, e1, e2, e3, e4, e5⟩ := HHP.out h0
      exact ⟨g, o, n, cap, e1, e2, e3, fun j hj => s2.cell (e5 j hj) e4⟩
    case h0 => exact ⟨Nat.zero_le _, But.refl _ _, HMP.out⟩
    case assign =>
      intro ll i X K hk hW hI hK
      have HI := Lib.hid hI
      have HK := Lib.hid hK
      obtain ⟨fv, hfv⟩ : ∃ fv, fv = F i := ⟨_, rfl⟩
      have HFV := Lib.hid hfv
      clear hI hK
      dsimp only
      rw [← hfv]
      clear hfv
      gi_wp2
      obtain ⟨s1, s2, s3⟩ := HI.out
      have hg := grown_alloc X (.cells #[.int .i64 ((kt + i : Nat) : Int), .int .i64 (kl : Nat)] 32)
      exact HK.out _ _ ((KeepsOthers.alloc X _).from _) ⟨X.heap.size, by rw [HFV.out], ⟨by simp, by simp⟩, s1, s2.trans (But.of ((Below.refl _ _).alloc (Nat.le_refl _) _)), s3.kept hg (by simp)⟩
    case body =>
      rintro ll i a' X hk hW ⟨b9, rfl, ⟨z0, z1⟩, s1, s2, s3⟩
      obtain ⟨g, o, fm, fc, hFi⟩ := HFE.out i
      have hlt600 : qt + i ≤ 2000 ∧ ql ≤ 2000 ∧ kt ≤ 600 ∧ i ≤ 600 ∧ qt ≤ 600 := by
        have h1 := HQI.out.r
        have h2 := HQI.out.c
        have h3 := HKI.out.r
        have h4 := HGG.out.n1
        have h5 := HGG.out.m1
        dsimp only at h1 h2 h3
        omega
      obtain ⟨X', hrun, hP', hgr⟩ := s3.put hlt600.1 hlt600.2.1 hFi
      have HP' := Lib.hid hP'
      have HGR' := Lib.hid hgr
      have HBX := Lib.hid s2
      have HIK := Lib.hid hk
      obtain ⟨_, ⟨d0, d1, _, _⟩, _⟩ := HQB.out.but s2 HLM.out.2.2.2.2.1
      unfold Rk.r4 at d0 d1
      dsimp only at d0 d1
      have p0 := s2.cell HPP.out.1 HLM.out.2.2.2.2.2.1
      have p1 := s2.cell HPP.out.2 HLM.out.2.2.2.2.2.1
      have c8 := s2.cell HCP.out HLM.out.2.2.2.2.2.2.2.1
      rw [hFi]
      obtain ⟨ki, hki⟩ : ∃ ki, ki = kt + i := ⟨_, rfl⟩
      obtain ⟨ri, hri⟩ : ∃ ri, ri = qt + i := ⟨_, rfl⟩
      rw [← hki] at z0 ⊢
      rw [← hri] at hrun
      have u1 : IntKind.i64.wrap ((ki : Int) - (kt : Int)) = (i : Int) := by rw [IntKind.wrap_i64]; omega
      have u2 : IntKind.i64.wrap ((i : Int) + (qt : Int)) = (ri : Int) := by rw [IntKind.wrap_i64]; omega
      clear s1 s2 s3 hP' hgr hk hW hFi hki hri hlt600
      refine wpIn_block ?_
      gi_wp2
      exact ⟨KeepsFrom.of_grownBy HGR'.out (fun j e => by cases e; exact HLM.out.1), by have := HIK.out; omega, HBX.out.trans HGR'.out, HP'.out⟩
    case done =>
      rintro D X hD ⟨s1, s2, s3⟩ hK
      have HK := Lib.hid hK
      have HBX := Lib.hid s2
      have HPX := Lib.hid s3
      have HDD := Lib.hid hD
      have HBWX := Lib.hid (show Below w.heap.size w X from HPB.out.trans (s2.below HLM.out.2.2.2.1 HPB.out.size))
      have c8 := s2.cell HCP.out HLM.out.2.2.2.2.2.2.2.1
      have HC8X := Lib.hid c8
      obtain ⟨_, ⟨d0, d1, d2, d3⟩, _⟩ := ((H87.out.below HB8P.out).but s2 HLM.out.2.2.2.2.2.2.1)
      unfold Rk.r4 at d0 d1 d2 d3
      dsimp only at d0 d1 d2 d3
      have HFSX := Lib.hid (show ∀ i, i < qn → RowIn X (F i) (piece (rowG G (kt + i)) kl qc) from fun i hi => (HFS.out i hi).butM s2 (by obtain ⟨D, Nn, ⟨es, ck, hm, _⟩, _⟩ := HMP.out; exact ⟨_, hm, rfl⟩))
      have HLAY := Lib.hid (show Calls Tryd.prog 42 #[.slice a N c, .agg #[.int .i64 (qt : Nat), .int .i64 (ql : Nat), .int .i64 (qn : Nat), .int .i64 (qc : Nat)], .func (.func 43) #[] #[.pointer (some ⟨b8, 0, none⟩)]] X fun x w' => ∃ v' U', x = .returned v' ∧ GSee w' v' (copyG G ⟨kt, kl, kn, kc⟩ ⟨qt, ql, qn, qc⟩) U' ∧ Below X.heap.size X w' from by
        refine laid_any X (.slice a N c) G U m (Rk.r4 ⟨qt, ql, qn, qc⟩) ⟨qt, ql, qn, qc⟩ 43 #[] #[.pointer (some ⟨b8, 0, none⟩)] (fun i => piece (rowG G (i - qt + kt)) kl qc) (HS.out.below HBWX.out) HGG.out (HQI.out.ok (by have := HGG.out.n1; omega) (by have := HGG.out.m1; omega)) (clip_self HQI.out).symm ?_ ?_ (enters_of Tryd.func43 (by kernel_rfl) rfl)
        · intro i hi hr
          unfold inR at hr
          dsimp only at hr
          have h1 := HKF.out.r
          have h2 := HKF.out.c
          dsimp only at h1 h2
          exact len_piece (by rw [(HGG.out.at (show i - qt + kt < G.length by omega)).2.1]; exact h2)
        · intro i W g cap R hi hb hg hC hl hcap
          dsimp only at hi
          have h1 := HQI.out.r
          have h2 := HQI.out.c
          have h3 := HGG.out.n1
          have h4 := HGG.out.m1
          have h5 := HKF.out.r
          have h6 := HKF.out.c
          dsimp only at h1 h2 h5 h6
          have hS : RowIn W (F i) (piece (rowG G (qt + i - qt + kt)) kl qc) := by
            rw [show qt + i - qt + kt = kt + i by omega]
            exact (HFSX.out i hi).below hb
          have hlp : (piece (rowG G (qt + i - qt + kt)) kl qc).length = qc := len_piece (by rw [(HGG.out.at (show qt + i - qt + kt < G.length by omega)).2.1]; exact h6)
          exact copy1_any W b8 bm qn qt ql i 0 X.heap.size g m cap F R _ ql qc (cap - ql) hC hl.symm (by rw [hlp, hl]; exact h2) hlp (HPX.out.below hb) ((hb.cell (p := ⟨b8, 0, none⟩) (World.block_lt_of_cell? X ⟨b8, 0, none⟩ HC8X.out)).trans HC8X.out) hi (by omega) (by omega) hS)
      clear s1 s2 s3 hK hD
      gi_wp2_with fail
      refine ⟨trivial, rfl, ?_⟩
      refine (callsIn_wide.2 HLAY.out).mono ?_
      rintro e wz ⟨v', U', rfl, hs, bz⟩
      have HSZ := Lib.hid hs
      have HBZ := Lib.hid bz
      have HKZ := Lib.hid ((bz.block D (Array.getElem?_eq_some_iff.1 HK.out).1).trans HK.out)
      obtain ⟨a', c', rfl⟩ := hs.shape
      obtain ⟨n', hn'⟩ : ∃ n', n' = (copyG G ⟨kt, kl, kn, kc⟩ ⟨qt, ql, qn, qc⟩).length := ⟨_, rfl⟩
      rw [← hn'] at HSZ ⊢
      clear hs bz hn' c8 d0 d1 d2 d3
      gi_wp2
      refine ⟨by simp, .inl ⟨_, _, rfl, run_takeDeferred HKZ.out, ?_⟩⟩
      have tg := grownBy_putObj' wz D (.deferred none)
      have tr : ∀ r, some D = some r → ∃ o : Obj, wz.heap[r]? = some o ∧ o.isCells = false := fun r e => by cases e; exact ⟨_, HKZ.out, rfl⟩
      refine ⟨_, results_tmp rfl _ _ _, _, U', rfl, by rw [HG1.out]; exact HSZ.out.turn tg tr, ?_⟩
      exact Below.grown (row := some D) (HBWX.out.trans (HBZ.out.mono HBWX.out.size)) tg (Nat.le_trans HBWX.out.size HBZ.out.size) (fun r e => by cases e; exact Nat.le_trans HPB.out.size HDD.out)
end Go.Proofs.YtlaafmjiiiaceaaDoor.Lab
