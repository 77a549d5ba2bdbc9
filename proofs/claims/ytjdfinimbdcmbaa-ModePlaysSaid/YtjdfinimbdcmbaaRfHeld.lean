/- A region that draws, inside a fence, walked with a condition that is held on the world: what tells the same in every such world may be taken first. A range over a function that lays blocks in its rounds. -/
import Derived.Test.YtjdfinimbdcmbaaRfRange
import Derived.OrdersHeld
set_option linter.unusedVariables false
namespace Go.Proofs.Ytjdfinimbdcmbaa.Lab
open Go Go.RowKit Go.Shelf

section
variable {F : Fence} {n : Nat} {P : Program} {ops : Array Oper} {Q : Exit → Act → World → Prop} {md : Region.Mode} {S : World → Prop}
/-- In every world of S this operation leaves v, and it is about to call nothing. -/
def ToldIf (P : Program) (ops : Array Oper) (S : World → Prop) (o : Oper) (v : Value) (a : Act) : Prop := YieldsIf P ops S o v a ∧ ∀ w, o.about P w a.eval = none
theorem ToldIf.now {i : Nat} {o : Oper} {v : Value} {a : Act} {K : Act → World → Prop} {w : World} (h : ToldIf P ops S o v a) (hro : F.round = none) (hi : ops[i]? = some o) (hS : S w) (hK : K (a.put o.dst v) w) : wpOpIn F n P ops Q i K a w := by
  have none' : ∀ f, o.about P w a.eval = some f → F.fn f := fun f e => by rw [h.2 w] at e; cases e
  unfold wpOpIn
  rw [hi]
  dsimp only
  rcases h.1 with ⟨e, y⟩ | ⟨e, rfl⟩
  · rw [if_pos e]
    refine ⟨none', ?_⟩
    rw [hro, Oper.semAt_none, y w hS]
    exact hK
  · rw [e]
    exact ⟨none', hK⟩
theorem ToldIf.behind {oi oj : Oper} {v u : Value} {b : Act} (h : ToldIf P ops S oi v b) (hs : ∀ cs q, oi.op ≠ .select cs q) (h3 : ∀ d, oj.dst = some d → d ∉ oi.looksAt ops) : ToldIf P ops S oi v (b.put oj.dst u) :=
  ⟨h.1.of_same (execOp_put oi hs b oj.dst u h3) (wanted_put oi b oj.dst u h3), fun w => by rw [about_put oi w b oj.dst u h3]; exact h.2 w⟩
/-- Another operation, apart from it, changes nothing of it. -/
theorem ToldIf.past {j : Nat} {oi oj : Oper} {v : Value} {K : Act → World → Prop} {a : Act} {w : World} (hy : ToldIf P ops S oi v a) (hro : F.round = none) (hj : ops[j]? = some oj) (hap : oi.apart ops oj = true)
    (si : ∀ cs q, oi.op ≠ .select cs q) (sj : ∀ cs q, oj.op ≠ .select cs q) (hQ : ∀ c a w, Q (.panic c) (a.put oi.dst v) w → Q (.panic c) a w) (h : wpOpIn F n P ops Q j K (a.put oi.dst v) w) :
    wpOpIn F n P ops Q j (fun a' w' => ToldIf P ops S oi v a' ∧ K (a'.put oi.dst v) w') a w := by
  obtain ⟨p1, p2, p3⟩ := Oper.apart_spec hap
  have fin : ∀ (b : Act) (u : Value) (w' : World), ToldIf P ops S oi v b → K ((b.put oi.dst v).put oj.dst u) w' → ToldIf P ops S oi v (b.put oj.dst u) ∧ K ((b.put oj.dst u).put oi.dst v) w' :=
    fun b u w' hb k => ⟨hb.behind si p3, by rw [← Act.put_comm b v u p2]; exact k⟩
  unfold wpOpIn at h ⊢
  rw [hj] at h ⊢
  dsimp only at h ⊢
  rw [wanted_put oj a oi.dst v p1, about_put oj w a oi.dst v p1] at h
  by_cases hw : Region.wanted oj (yielded ops a.tmps) = true
  · rw [if_pos hw] at h ⊢
    unfold Oper.wpIn at h ⊢
    rw [about_put oj w a oi.dst v p1] at h
    refine ⟨h.1, ?_⟩
    have k := h.2
    rw [hro, Oper.semAt_none] at k ⊢
    rw [execOp_put oj sj a oi.dst v p1] at k
    generalize (execOp a.eval oj).run P w = r at k ⊢
    have ends : ∀ (e : Ending) (w' : World), (match e with | .returned u => K ((a.put oi.dst v).put oj.dst u) w' | .panicked c => Q (.panic c) (a.put oi.dst v) w' | .outgrown => LetsOut Q) → (match e with | .returned u => ToldIf P ops S oi v (a.put oj.dst u) ∧ K ((a.put oj.dst u).put oi.dst v) w' | .panicked c => Q (.panic c) a w' | .outgrown => LetsOut Q) := fun e w' he => by
      cases e with
      | returned u => exact fin a u w' hy he
      | panicked c => exact hQ _ _ _ he
      | outgrown => exact he
    cases r with
    | halt x w' => cases x <;> first | exact hQ _ _ _ k | exact k
    | ok x w' =>
      cases x with
      | value u => exact fin a u w' hy k
      | skip => exact fin a undef w' hy k
      | defer d =>
        refine fin { a with defers := d :: a.defers } undef w' ⟨hy.1.of_same rfl rfl, hy.2⟩ ?_
        rw [← Act.put_defers]
        exact k
      | enter f args => exact ⟨k.1, CallsIn.mono k.2 fun e w'' he => by have := ends e w'' (by cases e <;> exact he); cases e <;> exact this⟩
      | row s args => exact ⟨k.1, RowsIn.mono k.2 fun u w'' he => fin a u w'' hy he⟩
      | round l f tmps assign body => exact ⟨k.1, RoundIn.mono k.2 fun e w'' he => by have := ends e w'' (by cases e <;> exact he); cases e <;> exact this⟩
      | _ => exact k
  · rw [Bool.not_eq_true] at hw
    rw [hw] at h ⊢
    exact ⟨h.1, fin a undef w hy h.2⟩
/-- What has come up waited for nothing that has not. -/
def Closed (md : Region.Mode) (ops : Array Oper) (listed : Array Bool) : Prop := ∀ (j : Nat) (o : Oper), ops[j]? = some o → listed.getD j false = true → ∀ e ∈ o.after, Region.binds md e = true → listed.getD e.on false = true
theorem getD_two {listed : Array Bool} {i : Nat} (h : listed.getD i true = false) : ¬ listed.getD i false = true := by
  intro k
  rcases Nat.lt_or_ge i listed.size with c | c
  · simp [c] at h k
    rw [h] at k
    cases k
  · simp [Array.getElem?_eq_none c] at k
theorem Closed.next {listed : Array Bool} {i : Nat} (h : Closed md ops listed) (hi : i ∈ Region.ready md ops listed) : Closed md ops (listed.setIfInBounds i true) := by
  obtain ⟨un, oi, hoi, hall⟩ := mem_ready.1 hi
  intro j o hj hl e he hb
  have key : listed.getD e.on false = true := by
    by_cases ji : j = i
    · subst ji
      rw [hoi] at hj
      obtain rfl := Option.some.inj hj
      exact hall e he hb
    · rw [getD_set_ne false (Ne.symm ji)] at hl
      exact h j o hj hl e he hb
  have hne : i ≠ e.on := fun q => getD_two un (by rw [q]; exact key)
  rw [getD_set_ne false hne]
  exact key
/-- x waits for i, at whatever remove. -/
def waits (md : Region.Mode) (ops : Array Oper) : Nat → Nat → Nat → Bool
  | 0, _, _ => false
  | k + 1, x, i => match ops[x]? with
    | none => false
    | some o => o.after.any fun e => Region.binds md e && (e.on == i || waits md ops k e.on i)
theorem waits_of {listed : Array Bool} (h : Closed md ops listed) : ∀ (k x i : Nat) (o : Oper), ops[x]? = some o → (∀ e ∈ o.after, Region.binds md e = true → listed.getD e.on false = true) → waits md ops k x i = true → listed.getD i false = true
  | 0, _, _, _, _, _, hw => by cases hw
  | k + 1, x, i, o, ho, hall, hw => by
    unfold waits at hw
    rw [ho] at hw
    dsimp only at hw
    obtain ⟨e, he, q⟩ := Array.any_eq_true'.1 hw
    rw [Bool.and_eq_true, Bool.or_eq_true] at q
    have hl := hall e he q.1
    rcases q.2 with r | r
    · rw [← eq_of_beq r]
      exact hl
    · cases hoe : ops[e.on]? with
      | none =>
        cases k with
        | zero => cases r
        | succ k => unfold waits at r; rw [hoe] at r; cases r
      | some oe => exact waits_of h k e.on i oe hoe (fun e' he' hb' => h e.on oe hoe hl e' he' hb') r
/-- Whatever comes up next, S is held; behind x all is free. -/
def heldX (F : Fence) (n : Nat) (P : Program) (md : Region.Mode) (ops : Array Oper) (Q : Exit → Act → World → Prop) (S : World → Prop) (x : Nat) : Nat → Array Bool → Act → World → Prop
  | 0, listed, a, w => Region.ready md ops listed = [] ∧ Q .normal a w
  | k + 1, listed, a, w => (Region.ready md ops listed = [] → Q .normal a w) ∧ ∀ i ∈ Region.ready md ops listed, wpOpIn F n P ops Q i (fun a' w' => if i = x then wpAnyIn F n P md ops Q k (listed.setIfInBounds i true) a' w' else S w' ∧ heldX F n P md ops Q S x k (listed.setIfInBounds i true) a' w') a w
theorem heldX.any {x : Nat} : ∀ (k : Nat) (listed : Array Bool) (a : Act) (w : World), heldX F n P md ops Q S x k listed a w → wpAnyIn F n P md ops Q k listed a w
  | 0, _, _, _, h => h
  | k + 1, _, _, _, h => ⟨h.1, fun i hi => wpOpIn_mono (fun a' w' q => by
      by_cases e : i = x
      · rwa [if_pos e] at q
      · rw [if_neg e] at q; exact heldX.any k _ a' w' q.2) (h.2 i hi)⟩
theorem heldX.first {i x : Nat} {oi : Oper} {v : Value} (hro : F.round = none) (hi : ops[i]? = some oi) (hix : i ≠ x) (hw8 : ∃ z, waits md ops z x i = true) (hsel : ∀ (j : Nat) (o : Oper) cs q, ops[j]? = some o → o.op ≠ .select cs q)
    (hQ : ∀ c a w, Q (.panic c) (a.put oi.dst v) w → Q (.panic c) a w) : ∀ (k : Nat) (listed : Array Bool) (a : Act) (w : World),
      (∀ j oj, ops[j]? = some oj → j ≠ i → listed.getD j true = false → (∀ e ∈ oj.after, Region.binds md e = true → e.on ≠ i) → oi.apart ops oj = true) →
      Closed md ops listed → i ∈ Region.ready md ops listed → ToldIf P ops S oi v a → S w → heldX F n P md ops Q S x k (listed.setIfInBounds i true) (a.put oi.dst v) w → heldX F n P md ops Q S x (k + 1) listed a w := by
  obtain ⟨z, hz⟩ := hw8
  intro k
  induction k with
  | zero =>
    intro listed a w _ _ hr hy hS H
    refine ⟨fun e => absurd hr (by rw [e]; exact List.not_mem_nil), fun j hj => ?_⟩
    by_cases e : j = i
    · subst e
      exact hy.now hro hi hS (by rw [if_neg hix]; exact ⟨hS, H⟩)
    · exact absurd (ready_mono hj e) (by rw [H.1]; exact List.not_mem_nil)
  | succ k ih =>
    intro listed a w hfree hcl hr hy hS H
    refine ⟨fun e => absurd hr (by rw [e]; exact List.not_mem_nil), fun j hj => ?_⟩
    by_cases e : j = i
    · subst e
      exact hy.now hro hi hS (by rw [if_neg hix]; exact ⟨hS, H⟩)
    · obtain ⟨un, oj, hoj, hall⟩ := mem_ready.1 hj
      have g0 := (mem_ready.1 hr).1
      have apart := hfree j oj hoj e un fun y hy' hb q => getD_two g0 (by rw [← q]; exact hall y hy' hb)
      have hjx : j ≠ x := fun q => by
        subst q
        exact getD_two g0 (waits_of hcl z j i oj hoj hall hz)
      have h2 := H.2 j (ready_mono hj e)
      simp only [if_neg hjx] at h2 ⊢
      refine wpOpIn_mono (fun a' w' q => ⟨q.2.1, ih (listed.setIfInBounds j true) a' w' (fun m om hm hmi hun hno => hfree m om hm hmi ?_ hno) (hcl.next hj) (ready_mono hr (Ne.symm e)) q.1 q.2.1 ?_⟩) (hy.past hro hoj apart (fun cs b => hsel i oi cs b hi) (fun cs b => hsel j oj cs b hoj) hQ h2)
      · by_cases jm : j = m
        · subst jm
          exact un
        · rw [getD_set_ne true jm] at hun
          exact hun
      · rw [Array.setIfInBounds_comm _ _ e]
        exact q.2.2
end
section
variable {F : Fence} {n : Nat} {P : Program} {L : List Oper} {Q : Exit → Act → World → Prop} {md : Region.Mode} {S : World → Prop}
def closedB (md : Region.Mode) (L : List Oper) (listed : Array Bool) : Bool := (List.range L.length).all fun j => match opAtL L j with
  | none => true
  | some o => !(listed.getD j false) || o.after.toList.all fun e => !(Region.binds md e) || listed.getD e.on false
theorem closed_of {listed : Array Bool} (h : closedB md L listed = true) : Closed md L.toArray listed := by
  intro j o hj hl e he hb
  have hlt : j < L.length := by
    have := (Array.getElem?_eq_some_iff.1 hj).1
    simpa using this
  have := List.all_eq_true.1 h j (List.mem_range.2 hlt)
  rw [← opAtL_eq, hj] at this
  dsimp only at this
  rw [hl, Bool.not_true, Bool.false_or] at this
  have q := List.all_eq_true.1 this e (Array.mem_def.1 he)
  rwa [hb, Bool.not_true, Bool.false_or] at q
def waitsL (md : Region.Mode) (L : List Oper) : Nat → Nat → Nat → Bool
  | 0, _, _ => false
  | k + 1, x, i => match opAtL L x with
    | none => false
    | some o => o.after.toList.any fun e => Region.binds md e && (e.on == i || waitsL md L k e.on i)
theorem waits_eq (md : Region.Mode) (L : List Oper) : ∀ k x i, waits md L.toArray k x i = waitsL md L k x i
  | 0, _, _ => rfl
  | k + 1, x, i => by
    unfold waits waitsL
    rw [opAtL_eq]
    cases opAtL L x with
    | none => rfl
    | some o => dsimp only; rw [← Array.any_toList]; simp only [waits_eq md L k]
/-- Take number i first. -/
theorem ti (i : Nat) {x : Nat} {oi : Oper} {v : Value} {fuel : Nat} {listed : Array Bool} {a : Act} {w : World} (hi : opAtL L i = some oi)
    (hy : ∀ w, S w → (execOp a.eval oi).run P w = .ok (.value v) w) (h : heldX F n P md L.toArray Q S x fuel (listed.setIfInBounds i true) (a.put oi.dst v) w)
    (hab : ∀ w, oi.about P w a.eval = none := by intro; rfl) (hro : F.round = none := by rfl) (hix : i ≠ x := by decide)
    (hcl : closedB md L listed = true := by kernel_rfl) (hwt : waitsL md L L.length x i = true := by kernel_rfl)
    (hs : Region.noSelect L.toArray = true := by kernel_rfl) (hf : Region.free md L.toArray listed i = true := by kernel_rfl) (hr : (Region.ready md L.toArray listed).contains i = true := by kernel_rfl)
    (hw : Region.wanted oi (yielded L.toArray a.tmps) = true := by kernel_rfl) (hS : S w := by assumption)
    (hQ : ∀ c a w, Q (.panic c) (a.put oi.dst v) w → Q (.panic c) a w := by exact fun _ _ _ h => h) : heldX F n P md L.toArray Q S x (fuel + 1) listed a w :=
  heldX.first hro ((opAtL_eq L i).trans hi) hix ⟨L.length, (waits_eq md L _ _ _).trans hwt⟩ (Region.noSelect_spec hs) hQ fuel listed a w (Region.free_spec ((opAtL_eq L i).trans hi) hf) (closed_of hcl) (by simpa using hr) ⟨Or.inl ⟨hw, hy⟩, hab⟩ hS h
/-- x alone may come up. -/
theorem dx {x : Nat} {oi : Oper} {fuel : Nat} {listed : Array Bool} {a : Act} {w : World} (hi : opAtL L x = some oi) (hr : Region.ready md L.toArray listed = [x])
    (hw : Region.wanted oi (yielded L.toArray a.tmps) = true)
    (h : ∀ K' : Act → World → Prop, Shut (∀ a w, wpAnyIn F n P md L.toArray Q fuel (listed.setIfInBounds x true) a w → K' a w) → Oper.wpIn F n P oi a w K' Q) :
    heldX F n P md L.toArray Q S x (fuel + 1) listed a w := by
  refine ⟨fun e => absurd (hr.symm.trans e) (by simp), fun j hj => ?_⟩
  rw [hr] at hj
  obtain rfl := List.mem_singleton.1 hj
  refine wpOpIn_step ((opAtL_eq L j).trans hi) fun K hK => ?_
  rw [if_pos hw]
  exact h K (show Shut _ from fun a w q => hK a w (by rw [if_pos rfl]; exact q))
/-- One operation alone may come up. -/
theorem d1 {i : Nat} {oi : Oper} {fuel : Nat} {listed : Array Bool} {a : Act} {w : World} (hi : opAtL L i = some oi) (hr : Region.ready md L.toArray listed = [i])
    (hw : Region.wanted oi (yielded L.toArray a.tmps) = true)
    (h : ∀ K' : Act → World → Prop, Shut (∀ a w, wpAnyIn F n P md L.toArray Q fuel (listed.setIfInBounds i true) a w → K' a w) → Oper.wpIn F n P oi a w K' Q) :
    wpAnyIn F n P md L.toArray Q (fuel + 1) listed a w := by
  refine ⟨fun e => absurd (hr.symm.trans e) (by simp), fun j hj => ?_⟩
  rw [hr] at hj
  obtain rfl := List.mem_singleton.1 hj
  refine wpOpIn_step ((opAtL_eq L j).trans hi) fun K hK => ?_
  rw [if_pos hw]
  exact h K (show Shut _ from fun a w q => hK a w q)
theorem region_heldX {id : Nat} {a : Act} {w : World} (x : Nat) (hm : P.follows .mixedOrders = true) (h : S w.drew → heldX F n P .any L.toArray Q S x L.toArray.size (Array.replicate L.toArray.size false) a w.drew) (hS : S w.drew) : (Code.region id L.toArray true).wpIn F n P Q a w :=
  wpIn_region_any hm (heldX.any _ _ _ _ (h hS))
end

/-- Nothing but the end is asked. -/
def onlyN (Q : Exit → Act → World → Prop) : Exit → Act → World → Prop
  | .normal, a, w => Q .normal a w
  | _, _, _ => False
theorem wp_onlyN {P : Program} {c : Code} {Q : Exit → Act → World → Prop} {a : Act} {w : World} (h : c.wp P (onlyN Q) a w) : c.wp P Q a w := wp_mono h fun e a w q => by cases e <;> first | exact q | exact q.elim
/-- An iterator that may lay blocks, and draw, between its rounds: N rounds, the k-th with the arguments encs k; Hr k: what it reads in memory ahead of round k. -/
def IterA (P : Program) (gf : Nat) (pre post : Array Value) (N : Nat) (encs : Nat → Array Value) (Hr : Nat → World → Prop) : Prop :=
  ∀ (l : Nat) (J : Nat → World → Prop) (W : World), (∀ k W, J k W → Hr k W) → (∀ k W W', J k W → W.grownBy W' none → J k W') →
    (∀ k W, k < N → J k W → YieldAt Fence.wide 0 P l (encs k) W fun e W' => e = .returned (.bool true) ∧ J (k + 1) W') →
    J 0 W → CallsIn Fence.wide 0 P gf (pre ++ #[.func (.yield l) #[] #[]] ++ post) W fun e W' => (∃ v, e = .returned v) ∧ J N W'
def endA (B : Nat) (I : Nat → World → Prop) (k : Nat) (W : World) : Exit → Act → World → Prop
  | .normal, _, W' => KeepsFrom B W W' ∧ I (k + 1) W'
  | _, _, _ => False
theorem endA_shut (B : Nat) (I : Nat → World → Prop) (k : Nat) (W : World) : ¬ LetsOut (endA B I k W) := fun ⟨_, _, h⟩ => h
theorem grown_alloc (W : World) (o : Obj) : W.grownBy (W.alloc o) none := World.grownBy_alloc W o none
theorem grown_drew (W : World) : W.grownBy W.drew none := ⟨rfl, rfl, rfl, Nat.le_refl _, fun _ _ _ => rfl⟩
theorem wp_rangeA {P : Program} {g : Operand} {ps : Array Tmp} {assign body : Code} {Q : Exit → Act → World → Prop} {a : Act} {w : World} {gf : Nat} {pre post : Array Value} {N : Nat} {encs : Nat → Array Value} {Hr : Nat → World → Prop}
    (hg : a.eval g = .func (.func gf) pre post) (eg : ∀ args w, (callFunc gf args).run P w = .ok (.enter gf args) w) (hit : IterA P gf pre post N encs Hr) (hps : ∀ k, (encs k).size = ps.size)
    (I : Nat → World → Prop) (A : Nat → Act → World → Prop) (hI : OwnFrom w.heap.size I) (hA : ∀ k a', OwnFrom w.heap.size (fun (_ : Unit) W => A k a' W)) (hH : ∀ k W, I k W → Hr k W) (h0 : I 0 w)
    (hassign : ∀ (l k : Nat) (W : World) (K : Act → World → Prop), k < N → w.heap.size ≤ W.heap.size → I k W → (∀ a' W', KeepsFrom w.heap.size W W' → A k a' W' → K a' W') → assign.wpIn (WR l) 0 P (Exit.then K (fun _ _ _ => False)) { tmps := (ps.zip (encs k)).foldl (fun t (p, v) => t.setIfInBounds p v) a.tmps, defers := [] } W)
    (hbody : ∀ (l k : Nat) (a' : Act) (W : World), k < N → w.heap.size ≤ W.heap.size → A k a' W → body.wpIn (WR l) 0 P (endA w.heap.size I k W) a' W)
    (hdone : ∀ (D : Nat) (W : World), w.heap.size ≤ D → I N W → W.heap[D]? = some (.deferred (some [])) → Q .normal { a with defers := { target := .collected D, args := #[] } :: a.defers } W) :
    (Code.rangeFunc g ps assign body).wpIn Fence.wide 0 P Q a w := by
  refine wpIn_rangeFunc fun fn hfn => ?_
  obtain ⟨B, hB⟩ : ∃ B, B = w.heap.size := ⟨_, rfl⟩
  obtain ⟨rec, hrec⟩ : ∃ rec : LoopState → Option Code → Loop, rec = fun st pe => { state := st, pending := pe, fn, tmps := a.tmps, params := ps, assign, body, defers := B } := ⟨_, rfl⟩
  obtain ⟨W1, hW1⟩ : ∃ W1, W1 = (w.alloc (.deferred (some []))).alloc (.loop (rec .ready none)) := ⟨_, rfl⟩
  have hK1 : W1.heap[B]? = some (.deferred (some [])) := by
    rw [hW1, hB, Below.heap_alloc _ _ _ (by simp)]
    exact World.alloc_heap_new w _
  have hL1 : W1.heap[B + 1]? = some (.loop (rec .ready none)) := by
    have := World.alloc_heap_new (w.alloc (.deferred (some []))) (.loop (rec .ready none))
    rw [World.size_alloc] at this
    rw [hW1, hB]
    exact this
  rw [← hB] at hI hA hassign hbody hdone
  have hI1 : I 0 W1 := by rw [hW1]; exact hI.alloc _ (hI.alloc _ h0)
  refine ⟨B + 1, [{ target := .collected B, args := #[] }], W1, { target := .fn (.func gf) post, args := pre ++ #[.func (.yield (B + 1)) #[] #[]] }, W1, gf, pre ++ #[.func (.yield (B + 1)) #[] #[]] ++ post, W1, ?_, ?_, fun _ _ => trivial, ?_, (fun h => by cases h), ?_⟩
  · rw [hW1, hrec, hB]
    exact run_enterLoop_outer _ _ _ _ _
  · simp only [resolve, hg]
    simp [go_sem]
  · simp [invoke, go_sem, eg]
  refine (hit (B + 1) (fun k W => I k W ∧ W.heap[B + 1]? = some (.loop (rec .ready none)) ∧ W.heap[B]? = some (.deferred (some []))) W1 (fun k W h => hH k W h.1) ?grow ?round ⟨hI1, hL1, hK1⟩).mono ?behind
  case grow =>
    rintro k W W' ⟨h1, h2, h3⟩ hg'
    exact ⟨hI k W W' none h1 hg' (fun _ e => by cases e), (hg'.block _ (Array.getElem?_eq_some_iff.1 h2).1 (fun e => by cases e)).trans h2, (hg'.block _ (Array.getElem?_eq_some_iff.1 h3).1 (fun e => by cases e)).trans h3⟩
  case round =>
    rintro k W hk ⟨hi, hl, hd⟩
    have hlt : B + 1 < W.heap.size := (Array.getElem?_eq_some_iff.1 hl).1
    have hy := run_yield (P := P) (args := encs k) hl (by rw [hrec]; exact hps k)
    rw [hrec] at hy
    refine ⟨fn, _, assign, body, hy, roundIn_of_wpIn hfn (hassign _ k W _ hk (by omega) hi fun a' X hX hAX => ?_)⟩
    have hlX := hX.same (B + 1) _ (by omega) hl rfl
    have hdX := hX.same B _ (Nat.le_refl _) hd rfl
    have hltX : B + 1 < X.heap.size := (Array.getElem?_eq_some_iff.1 hlX).1
    refine ⟨_, run_beginRound hlX (by rw [hrec]), ?_⟩
    obtain ⟨V, hV⟩ : ∃ V, V = X.putObj (B + 1) (.loop { rec .ready none with state := .busy }) := ⟨_, rfl⟩
    rw [← hV]
    have hl2 : V.heap[B + 1]? = some (.loop { rec .ready none with state := .busy }) := by rw [hV]; exact World.putObj_heap_same hltX
    have hd2 : V.heap[B]? = some (.deferred (some [])) := by rw [hV, World.putObj_heap_other (by omega)]; exact hdX
    have hi2 : A k a' V := by rw [hV]; exact (hA k a').putObj (s := ()) _ hAX (by omega) hlX rfl
    have hsV : B ≤ V.heap.size := by have := (Array.getElem?_eq_some_iff.1 hl2).1; omega
    refine wpIn_mono (hbody _ k a' V hk hsV hi2) ?_
    rintro e a3 Y hp
    cases e with
    | normal =>
      obtain ⟨h1, h2⟩ := hp
      have hx := h1.same (B + 1) _ (by omega) hl2 rfl
      have hr := run_endRound (P := P) none hx
      rw [hrec] at hr hx ⊢
      exact ⟨_, _, hr, rfl, hI.putObj _ h2 (by omega) hx rfl, World.putObj_heap_same (Array.getElem?_eq_some_iff.1 hx).1, (World.putObj_heap_other (by omega)).trans (h1.same B _ (Nat.le_refl _) hd2 rfl)⟩
    | _ => exact hp.elim
  case behind =>
    rintro e X ⟨⟨v, rfl⟩, hi, hl, hd⟩
    have hr := run_endLoop (P := P) hl (by rw [hrec]; simp)
    rw [hrec] at hr
    exact ⟨none, _, hr, hdone B _ (Nat.le_refl _) (hI.putObj _ hi (by omega) hl rfl) ((World.putObj_heap_other (by omega)).trans hd)⟩
end Go.Proofs.Ytjdfinimbdcmbaa.Lab
