/- Modes as keys of a map: the table of their bits, as it is made, asked and ranged over. -/
import Derived.Test.YtjdfinimbdcmbaaMdMath
import Derived.Test.YtjdfinimbdcmbaaManyFree
import Derived.Test.YtjdfinimbdcmbaaProg
import Derived.DeepKeys5
import Derived.Maps.Own
import Derived.Maps.OwnSet
import Derived.Maps.Views
import Derived.Maps.RangeWalk
import Derived.Deep.AppendLies
import Derived.Deep.CutBlock
import Derived.Deep.DeepCutAuto
import Derived.Deep.LoopGhost
set_option linter.unusedVariables false
namespace Go.Proofs.Ytjdfinimbdcmbaa.Lab
open Go Go.RowKit
open Go.Maps (Keyed)

abbrev MoT : TypeId := 24
abbrev MpT : TypeId := 59
def moV (x : Mo) : Value := .agg #[.bool x.1, .int .i64 x.2]
theorem moV_inj {x y : Mo} (h : moV x = moV y) : x = y := by
  unfold moV at h
  injection h with h
  simp at h
  exact Prod.ext h.1 h.2
def wfM (x : Mo) : Prop := -9223372036854775808 ≤ x.2 ∧ x.2 ≤ 9223372036854775807
instance (x : Mo) : Decidable (wfM x) := by unfold wfM; infer_instance
theorem laidOut15 : laidOutB Try.prog = true := by kernel_rfl
set_option maxRecDepth 100000 in
theorem keyedMo : Keyed Try.prog MoT := Keyed.of_law (deep_law_gate laidOut15 (by decide) (by decide) (by kernel_rfl) (by kernel_rfl))
theorem moKey (x : Mo) (h : wfM x) : ∃ l, keyOf Try.prog MoT (moV x) = some l := by
  obtain ⟨p, n⟩ := x
  unfold keyOf moV
  rw [Try.underlying24]
  simp only []
  have h1 : Try.prog.keyType MoT = true := by kernel_rfl
  have c1 : Try.prog.cellsOf MoT = 2 := by kernel_rfl
  have c2 : Try.prog.cellsOf 3 = 1 := by kernel_rfl
  have c3 : Try.prog.cellsOf 4 = 1 := by kernel_rfl
  have h2 : Value.formed Try.prog MoT (.agg #[.bool p, .int .i64 n]) = true := by
    unfold Value.formed
    simp [Try.underlying24, c1]
  rw [h1, h2]
  have h0 : 1 ≤ Try.prog.types.size := of_decide_eq_true (by kernel_rfl)
  obtain ⟨m, hm⟩ : ∃ m, Try.prog.types.size + 1 = m + 2 := ⟨Try.prog.types.size - 1, by omega⟩
  rw [hm]
  have w1 : (Lit.int .i64 n).wf = true := by
    unfold wfM at h
    simp [Lit.wf, IntKind.min, IntKind.max, IntKind.signed, IntKind.bits]
    omega
  simp [Program.keyLits, Try.underlying24, Try.underlying3, Try.underlying4, c1, c2, c3, Value.cells, w1]
def klK (P : Program) (x : Mo) : Lit := (keyOf P MoT (moV x)).getD (.bool false)
theorem klM_is (x : Mo) (h : wfM x) : keyOf Try.prog MoT (moV x) = some (klK Try.prog x) := by
  obtain ⟨l, e⟩ := moKey x h
  unfold klK
  rw [e]
  rfl
theorem klM_inj {x y : Mo} (hx : wfM x) (hy : wfM y) (h : klK Try.prog x = klK Try.prog y) : x = y := by
  have h1 := klM_is x hx
  rw [h] at h1
  exact moV_inj (keyedMo.inj h1 (klM_is y hy))
theorem tab_wf : ∀ e ∈ tabM, wfM e.1 := by decide
abbrev lit16 (n : Nat) : DataW Unit := .lit (.int .u16 (n : Nat))
theorem lit16_inj {c d : Int} (h : (DataW.lit (.int .u16 c) : DataW Unit) = .lit (.int .u16 d)) : c = d := by
  injection h with h
  injection h
theorem el16_is {n : Nat} (h : n < 65536) : plainElem (H := Unit) Try.prog 25 (.int .u16 (n : Nat)) = some (lit16 n, []) := plainElem_int Try.underlying25 (by simp [Lit.wf, IntKind.min, IntKind.max, IntKind.signed, IntKind.bits]; omega)

/-- The map holds just these of the table. -/
structure TabIs (D : DataW Unit) (L : List (Mo × Nat)) : Prop where
  has : ∀ kl, Maps.has D kl = true ↔ ∃ e ∈ L, kl = klK Try.prog e.1
  at_ : ∀ e ∈ L, ∀ zd, D.atKey (klK Try.prog e.1) zd = lit16 (2 ^ e.2)
theorem tab_two : ∀ e ∈ tabM, ∀ f ∈ tabM, e.1 = f.1 → e = f := by decide
theorem TabIs.put {D : DataW Unit} {L L' : List (Mo × Nat)} {e : Mo × Nat} (h : TabIs D L) (hm : Maps.IsMap D) (hL : ∀ f ∈ L, f ∈ tabM) (he : e ∈ tabM) (h' : ∀ f, f ∈ L' ↔ f ∈ L ∨ f = e) : TabIs (D.put (klK Try.prog e.1) (lit16 (2 ^ e.2))) L' := by
  have hk := keyedMo.key (klM_is e.1 (tab_wf e he))
  refine ⟨fun kl => ?_, fun f hf zd => ?_⟩
  · by_cases hkl : kl = klK Try.prog e.1
    · subst hkl
      rw [Maps.has_put_same hm hk]
      exact ⟨fun _ => ⟨e, (h' e).2 (.inr rfl), rfl⟩, fun _ => rfl⟩
    · rw [Maps.has_put_other hkl, h.has]
      constructor
      · rintro ⟨f, hf, rfl⟩
        exact ⟨f, (h' f).2 (.inl hf), rfl⟩
      · rintro ⟨f, hf, rfl⟩
        rcases (h' f).1 hf with hf | rfl
        · exact ⟨f, hf, rfl⟩
        · exact absurd rfl hkl
  · by_cases hfe : f = e
    · subst hfe
      exact Maps.atKey_put_same hm hk _ zd
    · rcases (h' f).1 hf with hf' | rfl
      · rw [Maps.atKey_put_other (fun q => hfe (tab_two _ (hL f hf') _ he (klM_inj (tab_wf f (hL f hf')) (tab_wf e he) q)))]
        exact h.at_ f hf' zd
      · exact absurd rfl hfe
/-- The program's table, as it lies in a world. -/
def BMap (w : World) (b : Nat) : Prop := ∃ D N, w.ownsMap Try.prog MoT (plainElem (H := Unit) Try.prog 25) b N D ∧ N ≤ 13 ∧ TabIs D tabM
theorem BMap.lt {w : World} {b : Nat} (h : BMap w b) : b < w.heap.size := by
  obtain ⟨D, N, h1, _⟩ := h
  exact h1.lt
theorem BMap.grown {w w' : World} {b : Nat} {row : Option Nat} (h : BMap w b) (hg : w.grownBy w' row) (hne : some b ≠ row) : BMap w' b := by
  obtain ⟨D, N, h1, h2⟩ := h
  exact ⟨D, N, h1.kept hg hne, h2⟩
theorem BMap.below {w w' : World} {b : Nat} (h : BMap w b) (k : Below w.heap.size w w') : BMap w' b := h.grown (row := none) ⟨k.os, k.tape, k.output, k.size, fun i hi _ => k.block i hi⟩ (by simp)
/-- What the table tells of a mode. -/
def bitV (x : Mo) : Nat := match bitM x with
  | none => 0
  | some j => 2 ^ j
theorem bitV_lt (x : Mo) : bitV x < 2048 := by
  unfold bitV
  cases e : bitM x with
  | none => decide
  | some j => exact Nat.pow_lt_pow_right (by decide) (bitM_lt e)
theorem findM_none {x : Mo} : ∀ {l : List (Mo × Nat)}, findM l x = none → ∀ e ∈ l, e.1 ≠ x
  | [], _, _, h => by cases h
  | f :: r, h, e, he => by
    unfold findM at h
    split at h
    · cases h
    · rename_i hx
      rcases List.mem_cons.1 he with rfl | he
      · exact hx
      · exact findM_none h e he
theorem TabIs.look {D : DataW Unit} (h : TabIs D tabM) (x : Mo) (hx : wfM x) : D.atKey (klK Try.prog x) (lit16 0) = lit16 (bitV x) ∧ Maps.has D (klK Try.prog x) = (bitM x).isSome := by
  unfold bitV
  cases e : bitM x with
  | none =>
    have h0 : Maps.has D (klK Try.prog x) = false := by
      rw [Bool.eq_false_iff]
      intro ht
      obtain ⟨f, hf, hk⟩ := (h.has _).1 ht
      exact findM_none e f hf (klM_inj (tab_wf f hf) hx hk.symm)
    exact ⟨Maps.atKey_of_not_has h0 _, h0⟩
  | some j =>
    have hm := findM_some e
    exact ⟨h.at_ _ hm _, (h.has _).2 ⟨_, hm, rfl⟩⟩
theorem zero16 (w : World) : (zeroValue 25).run Try.prog w = .ok (.int .u16 0) w := by kernel_rfl
theorem zero16' : plainElem (H := Unit) Try.prog 25 (.int .u16 0) = some (lit16 0, []) := el16_is (n := 0) (by decide)
theorem BMap.look {w : World} {b : Nat} (h : BMap w b) (x : Mo) (hx : wfM x) : (Instr.lookup MpT (.map (some b)) (moV x) false).run Try.prog w = .ok (.int .u16 (bitV x : Nat)) w := by
  obtain ⟨D, N, h1, _, h2⟩ := h
  obtain ⟨v, ps, hrun, hv⟩ := h1.lookup keyedMo Try.underlying59 (zero16 w) zero16' (klM_is x hx)
  rw [(h2.look x hx).1] at hv
  obtain ⟨a, rfl, hz, _⟩ := plainElem_int_inv Try.underlying25 hv
  injection hz with hz _
  rw [hrun, lit16_inj hz]
theorem BMap.look_ok {w : World} {b : Nat} (h : BMap w b) (x : Mo) (hx : wfM x) : (Instr.lookup MpT (.map (some b)) (moV x) true).run Try.prog w = .ok (.tuple #[.int .u16 (bitV x : Nat), .bool (bitM x).isSome]) w := by
  obtain ⟨D, N, h1, _, h2⟩ := h
  obtain ⟨v, ps, hrun, hv⟩ := h1.look_ok keyedMo Try.underlying59 (zero16 w) zero16' (klM_is x hx)
  rw [(h2.look x hx).1] at hv
  obtain ⟨a, rfl, hz, _⟩ := plainElem_int_inv Try.underlying25 hv
  injection hz with hz _
  rw [hrun, lit16_inj hz, (h2.look x hx).2]
/-! ### the literal: thirteen inserts, in whatever order -/
def idxT : List (Nat × (Mo × Nat)) := [(2, (false, 4), 0), (4, (false, 20), 1), (6, (true, 1), 2), (8, (true, 5), 3), (10, (true, 6), 4), (12, (true, 7), 5), (14, (true, 25), 6), (16, (true, 47), 7), (18, (true, 1047), 7), (20, (true, 1049), 7), (22, (true, 1004), 8), (24, (true, 1048), 9), (26, (true, 2004), 10)]
theorem idx_tab : ∀ q ∈ idxT, q.2 ∈ tabM := by decide
theorem tab_idx : ∀ e ∈ tabM, ∃ q ∈ idxT, q.2 = e := by decide
theorem idx_one : ∀ q ∈ idxT, ∀ p ∈ idxT, q.1 = p.1 → q = p := by decide
/-- Those that have come. -/
def cameL (f : Nat → Bool) : List (Mo × Nat) := (idxT.filter fun q => f q.1).map (·.2)
theorem mem_came {f : Nat → Bool} {e : Mo × Nat} : e ∈ cameL f ↔ ∃ q ∈ idxT, f q.1 = true ∧ q.2 = e := by
  unfold cameL
  simp only [List.mem_map, List.mem_filter]
  constructor
  · rintro ⟨q, ⟨h1, h2⟩, h3⟩
    exact ⟨q, h1, h2, h3⟩
  · rintro ⟨q, h1, h2, h3⟩
    exact ⟨q, ⟨h1, h2⟩, h3⟩
/-- The map in the midst of its literal, behind a world w0; b its block. -/
def BInv (w0 : World) (b : Nat) (f : Nat → Bool) (w : World) : Prop := ∃ D N, w.ownsMap Try.prog MoT (plainElem (H := Unit) Try.prog 25) b N D ∧ N + ((idxT.map (·.1)).filter fun j => !f j).length ≤ 13 ∧ TabIs D (cameL f) ∧ Below w0.heap.size w0 w ∧ w0.heap.size ≤ b
theorem idx_nodup : (idxT.map (·.1)).Nodup := by decide
theorem wp_insert {o : Oper} {a : Act} {w : World} {K : Act → World → Prop} {Q : Exit → Act → World → Prop} (m x v : Operand) (hop : o.op = Op.insert MpT m x v) (w0 : World) (b : Nat) (f : Nat → Bool) (i : Nat) (e : Mo × Nat) (hi : (i, e) ∈ idxT) (hf : f i = false)
    (hI : BInv w0 b f w) (hm : a.eval m = .map (some b)) (hx : a.eval x = moV e.1) (hv : a.eval v = .int .u16 (2 ^ e.2 : Nat)) (hK : ∀ w', BInv w0 b (fun j => f j || j == i) w' → K (a.put o.dst undef) w') : Oper.wp Try.prog o a w K Q := by
  obtain ⟨D, N, h1, h2, h3, h4, h5⟩ := hI
  have he := idx_tab _ hi
  have hlt : 2 ^ e.2 < 65536 := by
    have : ∀ e ∈ tabM, 2 ^ e.2 < 65536 := by decide
    exact this e he
  have hl := left_step idx_nodup (List.mem_map_of_mem (f := (·.1)) hi) hf
  generalize hN : 2 ^ e.2 = n at hv hlt
  have hML : N < maxLen := by unfold maxLen; omega
  obtain ⟨w', hrun, r1, r2⟩ := h1.update keyedMo Try.underlying59 hML (klM_is e.1 (tab_wf e he)) (el16_is hlt)
  unfold Oper.wp
  simp [execOp, hop, hm, hx, hv, hrun, Result.andThen]
  rw [← hN] at r1
  refine hK w' ⟨_, N + 1, r1, by show N + 1 + ((idxT.map (·.1)).filter fun j => !(f j || j == i)).length ≤ 13; omega, h3.put h1.isMap (fun g hg => ?_) he (fun g => ?_), Below.grown h4 r2 h4.size (by intro k hk; cases hk; exact h5), h5⟩
  · obtain ⟨q, hq, _, rfl⟩ := mem_came.1 hg
    exact idx_tab q hq
  · rw [mem_came, mem_came]
    constructor
    · rintro ⟨q, hq, hfq, rfl⟩
      rw [Bool.or_eq_true] at hfq
      rcases hfq with hfq | hfq
      · exact .inl ⟨q, hq, hfq, rfl⟩
      · have := idx_one q hq _ hi (by simpa using hfq)
        exact .inr (by rw [this])
    · rintro (⟨q, hq, hfq, rfl⟩ | rfl)
      · exact ⟨q, hq, by simp [hfq], rfl⟩
      · exact ⟨_, hi, by simp, rfl⟩
theorem TabIs.none : TabIs (DataW.map [] : DataW Unit) [] := ⟨fun kl => by simp [Maps.has], fun e h => by cases h⟩
theorem BInv.start (w : World) : BInv w w.heap.size (fun _ => false) (w.alloc (.map #[] 0)) := by
  refine ⟨_, 0, World.ownsMap_made w _ _ _, by decide, ?_, (Below.refl _ _).alloc (Nat.le_refl _) _, Nat.le_refl _⟩
  have : cameL (fun _ => false) = [] := by decide
  rw [this]
  exact TabIs.none
theorem BInv.done {w0 w : World} {b : Nat} {f : Nat → Bool} (h : BInv w0 b f w) (hf : ∀ q ∈ idxT, f q.1 = true) : BMap w b ∧ w0.heap.size ≤ b ∧ Below w0.heap.size w0 w := by
  obtain ⟨D, N, h1, h2, h3, h4, h5⟩ := h
  refine ⟨⟨D, N, h1, by omega, ⟨fun kl => ?_, fun e he zd => ?_⟩⟩, h5, h4⟩
  · rw [h3.has]
    constructor
    · rintro ⟨e, he, rfl⟩
      obtain ⟨q, hq, _, rfl⟩ := mem_came.1 he
      exact ⟨_, idx_tab q hq, rfl⟩
    · rintro ⟨e, he, rfl⟩
      obtain ⟨q, hq, rfl⟩ := tab_idx e he
      exact ⟨_, mem_came.2 ⟨q, hq, hf q hq, rfl⟩, rfl⟩
  · obtain ⟨q, hq, rfl⟩ := tab_idx e he
    exact h3.at_ _ (mem_came.2 ⟨q, hq, hf q hq, rfl⟩) zd
set_option maxHeartbeats 4000000 in
set_option maxRecDepth 100000 in
theorem bits_any (w : World) : Calls Try.prog 33 #[] w fun e w' => ∃ b, e = .returned (.map (some b)) ∧ w.heap.size ≤ b ∧ BMap w' b ∧ Below w.heap.size w w' := by
  have hmm := @run_makeMap Try.prog
  go_enter Try.func33, Try.ntmps33
  go_wp2_with fail
  go_upto_region 1 with (fail)
  refine wp_region_held_drew (S := fun _ => True) (by kernel_rfl) trivial (fun hHeld => ?_)
  obtain ⟨u0, hu0⟩ : ∃ u0, u0 = w.drew := ⟨_, rfl⟩
  have HU := Lib.hid (show u0.heap.size = w.heap.size ∧ Below w.heap.size w u0 from ⟨by rw [hu0]; rfl, by rw [hu0]; exact (Below.refl _ _).drew⟩)
  rw [← hu0]
  clear hu0
  refine tk 1 rfl (fun w hSw => by (try dsimp only at hSw); go_simp; try with_reducible rfl) ?_
  go_frame
  refine tk 3 rfl (fun w hSw => by (try dsimp only at hSw); go_simp; try with_reducible rfl) ?_
  go_frame
  refine tk 5 rfl (fun w hSw => by (try dsimp only at hSw); go_simp; try with_reducible rfl) ?_
  go_frame
  refine tk 7 rfl (fun w hSw => by (try dsimp only at hSw); go_simp; try with_reducible rfl) ?_
  go_frame
  refine tk 9 rfl (fun w hSw => by (try dsimp only at hSw); go_simp; try with_reducible rfl) ?_
  go_frame
  refine tk 11 rfl (fun w hSw => by (try dsimp only at hSw); go_simp; try with_reducible rfl) ?_
  go_frame
  refine tk 13 rfl (fun w hSw => by (try dsimp only at hSw); go_simp; try with_reducible rfl) ?_
  go_frame
  refine tk 15 rfl (fun w hSw => by (try dsimp only at hSw); go_simp; try with_reducible rfl) ?_
  go_frame
  refine tk 17 rfl (fun w hSw => by (try dsimp only at hSw); go_simp; try with_reducible rfl) ?_
  go_frame
  refine tk 19 rfl (fun w hSw => by (try dsimp only at hSw); go_simp; try with_reducible rfl) ?_
  go_frame
  refine tk 21 rfl (fun w hSw => by (try dsimp only at hSw); go_simp; try with_reducible rfl) ?_
  go_frame
  refine tk 23 rfl (fun w hSw => by (try dsimp only at hSw); go_simp; try with_reducible rfl) ?_
  go_frame
  refine tk 25 rfl (fun w hSw => by (try dsimp only at hSw); go_simp; try with_reducible rfl) ?_
  go_frame
  refine do_at (i := 0) rfl (by kernel_rfl) (by kernel_rfl) (fun K hK => ?_)
  go_simp
  obtain ⟨b, hb⟩ : ∃ b, b = u0.heap.size := ⟨_, rfl⟩
  have HI := Lib.hid (show BInv u0 b (fun _ => false) (u0.alloc (.map #[] 0)) by rw [hb]; exact BInv.start u0)
  obtain ⟨u1, hu1⟩ : ∃ u, u = u0.alloc (.map #[] 0) := ⟨_, rfl⟩
  rw [← hu1] at HI ⊢
  rw [← hb]
  refine hK.out _ _ trivial (fun hHeld => ?_)
  clear hK K hu1 hb
  try go_frame
  refine many_free (I := [(2, none), (4, none), (6, none), (8, none), (10, none), (12, none), (14, none), (16, none), (18, none), (20, none), (22, none), (24, none), (26, none)]) [true, true, false, true, false, true, false, true, false, true, false, true, false, true, false, true, false, true, false, true, false, true, false, true, false, true, false, false, false] (listed' := #[true, true, true, true, true, true, true, true, true, true, true, true, true, true, true, true, true, true, true, true, true, true, true, true, true, true, true, false, false]) (fun f y w => BInv u0 b f w) rfl rfl (by decide) (by kernel_rfl) (by kernel_rfl) (fun _ => HI.out) trivial ?_ ?_
  · clear HI hHeld
    refine List.forall_mem_cons.2 ⟨?_, List.forall_mem_cons.2 ⟨?_, List.forall_mem_cons.2 ⟨?_, List.forall_mem_cons.2 ⟨?_, List.forall_mem_cons.2 ⟨?_, List.forall_mem_cons.2 ⟨?_, List.forall_mem_cons.2 ⟨?_, List.forall_mem_cons.2 ⟨?_, List.forall_mem_cons.2 ⟨?_, List.forall_mem_cons.2 ⟨?_, List.forall_mem_cons.2 ⟨?_, List.forall_mem_cons.2 ⟨?_, List.forall_mem_cons.2 ⟨?_, fun _ h => by cases h⟩⟩⟩⟩⟩⟩⟩⟩⟩⟩⟩⟩⟩
    · refine StepM.mk rfl rfl (fun y => by kernel_rfl) (fun f y u hf hdp hI hHeld K hK => ?_)
      simp only [actM, List.foldl_cons, List.foldl_nil, Act.put]
      refine wp_insert (.tmp 1) (.tmp 2) (.const (.int .u16 1)) rfl u0 b f 2 ((false, 4), 0) (by decide) hf hI rfl rfl rfl (fun w' hI' => ?_)
      exact hK.out undef _ _ (by kernel_rfl) hI' trivial
    · refine StepM.mk rfl rfl (fun y => by kernel_rfl) (fun f y u hf hdp hI hHeld K hK => ?_)
      simp only [actM, List.foldl_cons, List.foldl_nil, Act.put]
      refine wp_insert (.tmp 1) (.tmp 3) (.const (.int .u16 2)) rfl u0 b f 4 ((false, 20), 1) (by decide) hf hI rfl rfl rfl (fun w' hI' => ?_)
      exact hK.out undef _ _ (by kernel_rfl) hI' trivial
    · refine StepM.mk rfl rfl (fun y => by kernel_rfl) (fun f y u hf hdp hI hHeld K hK => ?_)
      simp only [actM, List.foldl_cons, List.foldl_nil, Act.put]
      refine wp_insert (.tmp 1) (.tmp 4) (.const (.int .u16 4)) rfl u0 b f 6 ((true, 1), 2) (by decide) hf hI rfl rfl rfl (fun w' hI' => ?_)
      exact hK.out undef _ _ (by kernel_rfl) hI' trivial
    · refine StepM.mk rfl rfl (fun y => by kernel_rfl) (fun f y u hf hdp hI hHeld K hK => ?_)
      simp only [actM, List.foldl_cons, List.foldl_nil, Act.put]
      refine wp_insert (.tmp 1) (.tmp 5) (.const (.int .u16 8)) rfl u0 b f 8 ((true, 5), 3) (by decide) hf hI rfl rfl rfl (fun w' hI' => ?_)
      exact hK.out undef _ _ (by kernel_rfl) hI' trivial
    · refine StepM.mk rfl rfl (fun y => by kernel_rfl) (fun f y u hf hdp hI hHeld K hK => ?_)
      simp only [actM, List.foldl_cons, List.foldl_nil, Act.put]
      refine wp_insert (.tmp 1) (.tmp 6) (.const (.int .u16 16)) rfl u0 b f 10 ((true, 6), 4) (by decide) hf hI rfl rfl rfl (fun w' hI' => ?_)
      exact hK.out undef _ _ (by kernel_rfl) hI' trivial
    · refine StepM.mk rfl rfl (fun y => by kernel_rfl) (fun f y u hf hdp hI hHeld K hK => ?_)
      simp only [actM, List.foldl_cons, List.foldl_nil, Act.put]
      refine wp_insert (.tmp 1) (.tmp 7) (.const (.int .u16 32)) rfl u0 b f 12 ((true, 7), 5) (by decide) hf hI rfl rfl rfl (fun w' hI' => ?_)
      exact hK.out undef _ _ (by kernel_rfl) hI' trivial
    · refine StepM.mk rfl rfl (fun y => by kernel_rfl) (fun f y u hf hdp hI hHeld K hK => ?_)
      simp only [actM, List.foldl_cons, List.foldl_nil, Act.put]
      refine wp_insert (.tmp 1) (.tmp 8) (.const (.int .u16 64)) rfl u0 b f 14 ((true, 25), 6) (by decide) hf hI rfl rfl rfl (fun w' hI' => ?_)
      exact hK.out undef _ _ (by kernel_rfl) hI' trivial
    · refine StepM.mk rfl rfl (fun y => by kernel_rfl) (fun f y u hf hdp hI hHeld K hK => ?_)
      simp only [actM, List.foldl_cons, List.foldl_nil, Act.put]
      refine wp_insert (.tmp 1) (.tmp 9) (.const (.int .u16 128)) rfl u0 b f 16 ((true, 47), 7) (by decide) hf hI rfl rfl rfl (fun w' hI' => ?_)
      exact hK.out undef _ _ (by kernel_rfl) hI' trivial
    · refine StepM.mk rfl rfl (fun y => by kernel_rfl) (fun f y u hf hdp hI hHeld K hK => ?_)
      simp only [actM, List.foldl_cons, List.foldl_nil, Act.put]
      refine wp_insert (.tmp 1) (.tmp 10) (.const (.int .u16 128)) rfl u0 b f 18 ((true, 1047), 7) (by decide) hf hI rfl rfl rfl (fun w' hI' => ?_)
      exact hK.out undef _ _ (by kernel_rfl) hI' trivial
    · refine StepM.mk rfl rfl (fun y => by kernel_rfl) (fun f y u hf hdp hI hHeld K hK => ?_)
      simp only [actM, List.foldl_cons, List.foldl_nil, Act.put]
      refine wp_insert (.tmp 1) (.tmp 11) (.const (.int .u16 128)) rfl u0 b f 20 ((true, 1049), 7) (by decide) hf hI rfl rfl rfl (fun w' hI' => ?_)
      exact hK.out undef _ _ (by kernel_rfl) hI' trivial
    · refine StepM.mk rfl rfl (fun y => by kernel_rfl) (fun f y u hf hdp hI hHeld K hK => ?_)
      simp only [actM, List.foldl_cons, List.foldl_nil, Act.put]
      refine wp_insert (.tmp 1) (.tmp 12) (.const (.int .u16 256)) rfl u0 b f 22 ((true, 1004), 8) (by decide) hf hI rfl rfl rfl (fun w' hI' => ?_)
      exact hK.out undef _ _ (by kernel_rfl) hI' trivial
    · refine StepM.mk rfl rfl (fun y => by kernel_rfl) (fun f y u hf hdp hI hHeld K hK => ?_)
      simp only [actM, List.foldl_cons, List.foldl_nil, Act.put]
      refine wp_insert (.tmp 1) (.tmp 13) (.const (.int .u16 512)) rfl u0 b f 24 ((true, 1048), 9) (by decide) hf hI rfl rfl rfl (fun w' hI' => ?_)
      exact hK.out undef _ _ (by kernel_rfl) hI' trivial
    · refine StepM.mk rfl rfl (fun y => by kernel_rfl) (fun f y u hf hdp hI hHeld K hK => ?_)
      simp only [actM, List.foldl_cons, List.foldl_nil, Act.put]
      refine wp_insert (.tmp 1) (.tmp 14) (.const (.int .u16 1024)) rfl u0 b f 26 ((true, 2004), 10) (by decide) hf hI rfl rfl rfl (fun w' hI' => ?_)
      exact hK.out undef _ _ (by kernel_rfl) hI' trivial
  · clear HI hHeld
    intro y u2 hI hHeld
    obtain ⟨q1, q2, q3⟩ := hI.done (by decide)
    have HM := Lib.hid q1
    have HL := Lib.hid q2
    have HB := Lib.hid q3
    clear hI q1 q2 q3
    simp only [actM, List.foldl_cons, List.foldl_nil, Act.put]
    refine tk 27 rfl (fun w hSw => by (try dsimp only at hSw); go_simp; try with_reducible rfl) ?_
    go_frame
    refine tk 28 rfl (fun w hSw => by (try dsimp only at hSw); go_simp; try with_reducible rfl) ?_
    go_frame
    refine wpAnyH_done (by kernel_rfl) ?_ _
    go_wp2
    go_ret
    exact ⟨b, rfl, by rw [← HU.out.1]; exact HL.out, HM.out, HU.out.2.trans (HB.out.mono (Nat.le_of_eq HU.out.1.symm))⟩
/-! ### a range over the table -/
theorem wpList_next_md (w : World) {ops : Array Oper} {rest : List Oper} {o : Oper} {a : Act} {Q : Exit → Act → World → Prop} (hg : o.guard = none) (it : Operand) (hop : o.op = Op.next it false) (b r n : Nat) (D : DataW Unit) (left : Lit → Bool) (cnt : Nat)
    (hit : a.eval it = .pointer (some ⟨r, 0, none⟩)) (h : w.ranges Try.prog MoT (plainElem (H := Unit) Try.prog 25) b r n D left cnt) (hD : TabIs D tabM) (hl : ∀ kl, left kl = true → Maps.has D kl = true)
    (hDone : (∀ kl, left kl = false) → wpList Try.prog ops Q rest (a.put o.dst (.tuple #[.bool false])) w)
    (hMore : Hid (∀ (e : Mo × Nat) (u : Nat) (w' : World) (cnt' : Nat), Hid (u = 2 ^ e.2) → e ∈ tabM → left (klK Try.prog e.1) = true → w'.ranges Try.prog MoT (plainElem (H := Unit) Try.prog 25) b r n D (fun z => left z && !z.sameKey (klK Try.prog e.1)) cnt' → cnt' < cnt →
      w.grownBy w' (some r) → w'.heap.size = w.heap.size → (Instr.entry (.pointer (some ⟨r, 0, none⟩))).run Try.prog w' = .ok (.tuple #[.agg #[.bool e.1.1, .int .i64 e.1.2], .int .u16 (u : Nat)]) w' → wpList Try.prog ops Q rest (a.put o.dst (.tuple #[.bool true, .agg #[.bool e.1.1, .int .i64 e.1.2], .int .u16 (u : Nat)])) w')) :
    wpList Try.prog ops Q (o :: rest) a w := by
  refine wpList_plain hg fun K' hK' => ?_
  unfold Oper.wp
  rcases h.next keyedMo o.type with ⟨h0, hl0, hrun⟩ | ⟨key, v, kl, y, w', cnt', hkey, hlk, hv, hat, hrun, hrg, hlt, hgr, hsz, hen⟩
  · simp [execOp, hop, hit, hrun, Result.andThen]
    exact hK' _ _ (hDone hl0)
  · obtain ⟨e, he, rfl⟩ := (hD.has kl).1 (hl kl hlk)
    have hke := keyedMo.inj hkey (klM_is e.1 (tab_wf e he))
    subst hke
    obtain ⟨c, rfl, hc, _⟩ := plainElem_int_inv Try.underlying25 hv
    have h1 := hat (lit16 0)
    rw [hD.at_ e he, hc] at h1
    obtain ⟨u, hu⟩ : ∃ u, u = 2 ^ e.2 := ⟨_, rfl⟩
    rw [← hu] at h1
    obtain rfl := lit16_inj h1
    simp [execOp, hop, hit, hrun, Result.andThen]
    exact hK' _ _ (hMore.out e u w' cnt' (Lib.hid hu) he hlk hrg hlt hgr hsz hen)
end Go.Proofs.Ytjdfinimbdcmbaa.Lab
