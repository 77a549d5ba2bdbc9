/- A region that draws, where several operations may come up: whatever order they come in, each is walked once. -/
import Derived.Test.YtjdfinimbdcmbaaAtMath
namespace Go.Proofs.Ytjdfinimbdcmbaa.Lab
open Go

/-- All rows of so many Bools. -/
def allB : Nat → List (List Bool)
  | 0 => [[]]
  | n + 1 => (allB n).flatMap fun l => [true :: l, false :: l]
theorem mem_allB : ∀ l : List Bool, l ∈ allB l.length
  | [] => by simp [allB]
  | b :: l => by
    have := mem_allB l
    simp only [List.length_cons, allB, List.mem_flatMap]
    exact ⟨l, this, by cases b <;> simp⟩
/-- What these and those are, that have come up. -/
def mkL : List Bool → Nat → (Nat → Bool) → List Bool
  | [], _, _ => []
  | b :: l, k, f => (b || f k) :: mkL l (k + 1) f
theorem mkL_set : ∀ (l : List Bool) (k i : Nat) (f : Nat → Bool), (mkL l k f).set i true = mkL l k (fun j => f j || j == k + i)
  | [], _, _, _ => by simp [mkL]
  | b :: l, k, 0, f => by
    have h : ∀ (l : List Bool) (m : Nat), k < m → mkL l m f = mkL l m (fun j => f j || j == k) := by
      intro l
      induction l with
      | nil => intro m _; rfl
      | cons b l ih =>
        intro m hm
        simp only [mkL]
        rw [ih (m + 1) (by omega), show (m == k) = false by simp; omega]
        simp
    simp only [mkL, List.set_cons_zero, Nat.add_zero, beq_self_eq_true, Bool.or_true, List.cons.injEq, true_and]
    exact h l (k + 1) (by omega)
  | b :: l, k, i + 1, f => by
    simp only [mkL, List.set_cons_succ, List.cons.injEq]
    refine ⟨by rw [show (k == k + (i + 1)) = false by simp]; simp, ?_⟩
    rw [mkL_set l (k + 1) i f]
    congr 1
    funext j
    rw [show k + 1 + i = k + (i + 1) by omega]
/-- The frame with what these operations have yielded. -/
def actM (a : Act) (I : List (Nat × Option Tmp)) (y : Nat → Value) : Act := I.foldl (fun a p => a.put p.2 (y p.1)) a
def updM (y : Nat → Value) (i : Nat) (v : Value) (j : Nat) : Value := if j = i then v else y j
theorem put_put (a : Act) (d : Option Tmp) (u v : Value) : (a.put d u).put d v = a.put d v := by
  cases d with
  | none => rfl
  | some d => simp [Act.put]
theorem put_comm' (a : Act) {d e : Option Tmp} (u v : Value) (h : d = none ∨ d ≠ e) : (a.put d u).put e v = (a.put e v).put d u := by
  cases d with
  | none => rfl
  | some d =>
    cases e with
    | none => rfl
    | some e =>
      have : d ≠ e := by
        rcases h with h | h
        · cases h
        · exact fun h' => h (by rw [h'])
      simp only [Act.put]
      rw [Array.setIfInBounds_comm _ _ this]
def Dist (I : List (Nat × Option Tmp)) : Prop := I.Pairwise fun p q => p.1 ≠ q.1 ∧ (p.2 = none ∨ p.2 ≠ q.2)
instance (I : List (Nat × Option Tmp)) : Decidable (Dist I) := by unfold Dist; infer_instance
theorem actM_off {I : List (Nat × Option Tmp)} {a : Act} {y : Nat → Value} {i : Nat} {v : Value} (h : ∀ q ∈ I, i ≠ q.1) : actM a I (updM y i v) = actM a I y := by
  unfold actM
  induction I generalizing a with
  | nil => rfl
  | cons p I ih =>
    simp only [List.foldl_cons]
    rw [ih (fun q hq => h q (List.mem_cons_of_mem _ hq))]
    rw [show updM y i v p.1 = y p.1 by unfold updM; rw [if_neg (fun e => h p (List.mem_cons_self ..) e.symm)]]
theorem actM_put {I : List (Nat × Option Tmp)} {a : Act} {y : Nat → Value} {d : Option Tmp} {v : Value} (h : ∀ q ∈ I, d = none ∨ d ≠ q.2) : (actM a I y).put d v = actM (a.put d v) I y := by
  unfold actM
  induction I generalizing a with
  | nil => rfl
  | cons p I ih =>
    simp only [List.foldl_cons]
    rw [ih (fun q hq => h q (List.mem_cons_of_mem _ hq)), ← put_comm' a v (y p.1) (h p (List.mem_cons_self ..))]
theorem actM_upd {I : List (Nat × Option Tmp)} (hd : Dist I) {a : Act} {y : Nat → Value} {i : Nat} {d : Option Tmp} {v : Value} (h : (i, d) ∈ I) : (actM a I y).put d v = actM a I (updM y i v) := by
  induction I generalizing a with
  | nil => cases h
  | cons p I ih =>
    rcases List.pairwise_cons.1 hd with ⟨h1, h2⟩
    have step : ∀ y, actM a (p :: I) y = actM (a.put p.2 (y p.1)) I y := fun y => rfl
    rw [step, step]
    rcases List.mem_cons.1 h with e | h
    · subst e
      rw [actM_off (fun q hq => (h1 q hq).1), actM_put (fun q hq => (h1 q hq).2), put_put]
      simp [updM]
    · have hne : p.1 ≠ i := (h1 _ h).1
      rw [show updM y i v p.1 = y p.1 by unfold updM; rw [if_neg hne]]
      exact ih h2 h

section
variable {P : Program} {L : List Oper} {Q : Exit → Act → World → Prop} {md : Region.Mode} {S : World → Prop}
/-- Of all that may have come up: what may come up next is of these, and what it waits for has. -/
def fOf (l : List Nat) (bs : List Bool) (j : Nat) : Bool := (l.zip bs).any fun p => p.1 == j && p.2
def chk1 (md : Region.Mode) (L : List Oper) (lits : List Bool) (l : List Nat) (deps : Nat → List Nat) (f : Nat → Bool) (all : Bool) : Bool :=
  (all || !(l.all fun i => !f i || (deps i).all f)) || ((Region.ready md L.toArray (mkL lits 0 f).toArray).all (fun i => l.contains i && (!f i && (deps i).all f)) && !(Region.ready md L.toArray (mkL lits 0 f).toArray).isEmpty)
def chk (md : Region.Mode) (L : List Oper) (lits : List Bool) (I : List (Nat × Option Tmp)) (deps : Nat → List Nat) : Bool :=
  (allB I.length).all fun bs => chk1 md L lits (I.map (·.1)) deps (fOf (I.map (·.1)) bs) (bs.all id)
/-- One of them, in whatever state. -/
def StepM (P : Program) (L : List Oper) (Q : Exit → Act → World → Prop) (S : World → Prop) (deps : Nat → List Nat) (Inv : (Nat → Bool) → (Nat → Value) → World → Prop) (a : Act) (I : List (Nat × Option Tmp)) (p : Nat × Option Tmp) : Prop :=
  ∃ oi, opAtL L p.1 = some oi ∧ oi.dst = p.2 ∧ ∀ f y w, f p.1 = false → (∀ j ∈ deps p.1, f j = true) → Inv f y w → S w → ∀ K' : Act → World → Prop,
    Shut (∀ v a' w', a' = (actM a I y).put oi.dst v → Inv (fun j => f j || j == p.1) (updM y p.1 v) w' → S w' → K' a' w') → Region.wanted oi (yielded L.toArray (actM a I y).tmps) = true ∧ Oper.wp P oi (actM a I y) w K' Q
theorem StepM.mk {deps : Nat → List Nat} {Inv : (Nat → Bool) → (Nat → Value) → World → Prop} {a : Act} {I : List (Nat × Option Tmp)} {i : Nat} {d : Option Tmp} {oi : Oper} (ho : opAtL L i = some oi) (hd : oi.dst = d)
    (hw : ∀ y, Region.wanted oi (yielded L.toArray (actM a I y).tmps) = true)
    (h : ∀ f y w, f i = false → (∀ j ∈ deps i, f j = true) → Inv f y w → S w → ∀ K' : Act → World → Prop,
      Shut (∀ v a' w', a' = (actM a I y).put oi.dst v → Inv (fun j => f j || j == i) (updM y i v) w' → S w' → K' a' w') → Oper.wp P oi (actM a I y) w K' Q) : StepM P L Q S deps Inv a I (i, d) :=
  ⟨oi, ho, hd, fun f y w h1 h2 h3 h4 K' hK => ⟨hw y, h f y w h1 h2 h3 h4 K' hK⟩⟩
theorem fOf_self (I : List Nat) (f : Nat → Bool) (h : ∀ j, f j = true → j ∈ I) : fOf I (I.map f) = f := by
  funext j
  unfold fOf
  rw [show I.zip (I.map f) = I.map (fun x => (x, f x)) by rw [List.zip_map_right, ← List.map_id I]; simp [List.zip, List.zipWith_self]]
  rw [List.any_map]
  by_cases hj : f j = true
  · rw [hj, List.any_eq_true]
    exact ⟨j, h j hj, by simp [hj]⟩
  · rw [Bool.not_eq_true] at hj
    rw [hj, List.any_eq_false]
    intro x _
    simp only [Function.comp_apply, Bool.and_eq_true, beq_iff_eq, not_and]
    rintro rfl
    simp [hj]
def leftN (I : List (Nat × Option Tmp)) (f : Nat → Bool) : Nat := ((I.map (·.1)).filter fun j => !f j).length
theorem left_zero {I : List (Nat × Option Tmp)} {f : Nat → Bool} (hs : ∀ j, f j = true → j ∈ I.map (·.1)) (h : leftN I f = 0) : f = fun j => (I.map (·.1)).contains j := by
  funext j
  have h0 := List.length_eq_zero_iff.1 h
  rw [List.filter_eq_nil_iff] at h0
  by_cases hj : j ∈ I.map (·.1)
  · have := h0 j hj
    rw [show (I.map (·.1)).contains j = true by simpa using hj]
    simpa using this
  · rw [show (I.map (·.1)).contains j = false by simpa using hj]
    cases hf : f j with
    | false => rfl
    | true => exact absurd (hs j hf) hj
theorem left_step {l : List Nat} (hd : l.Nodup) {f : Nat → Bool} {i : Nat} (hi : i ∈ l) (hf : f i = false) : (l.filter fun j => !f j).length = (l.filter fun j => !(f j || j == i)).length + 1 := by
  induction l with
  | nil => cases hi
  | cons x l ih =>
    rw [List.nodup_cons] at hd
    rcases List.mem_cons.1 hi with e | hi'
    · subst e
      have : (l.filter fun j => !f j) = l.filter fun j => !(f j || j == i) := List.filter_congr fun j hj => by
        rw [show (j == i) = false by simp; rintro rfl; exact hd.1 hj]
        simp
      rw [List.filter_cons_of_pos (by simp [hf]), List.filter_cons_of_neg (by simp), this]
      rfl
    · have hne : (x == i) = false := by simp; rintro rfl; exact hd.1 hi'
      have := ih hd.2 hi'
      by_cases hx : f x = true
      · rw [List.filter_cons_of_neg (by simp [hx]), List.filter_cons_of_neg (by simp [hx]), this]
      · rw [Bool.not_eq_true] at hx
        rw [List.filter_cons_of_pos (by simp [hx]), List.filter_cons_of_pos (by simp only [hx, hne]; rfl), List.length_cons, List.length_cons, this]
theorem many_go {I : List (Nat × Option Tmp)} {deps : Nat → List Nat} {lits : List Bool} {a : Act} {fuel : Nat} (Inv : (Nat → Bool) → (Nat → Value) → World → Prop) (hd : Dist I) (hc : chk md L lits I deps = true)
    (hstep : ∀ p ∈ I, StepM P L Q S deps Inv a I p)
    (hend : ∀ y w, Inv (fun j => (I.map (·.1)).contains j) y w → S w → wpAnyH P md L.toArray Q S fuel (mkL lits 0 (fun j => (I.map (·.1)).contains j)).toArray (actM a I y) w) :
    ∀ n f y w, (∀ j, f j = true → j ∈ I.map (·.1)) → (∀ j, f j = true → ∀ k ∈ deps j, f k = true) → leftN I f = n → Inv f y w → S w → wpAnyH P md L.toArray Q S (fuel + n) (mkL lits 0 f).toArray (actM a I y) w := by
  have hnd : (I.map (·.1)).Nodup := by
    rw [List.nodup_iff_pairwise_ne, List.pairwise_map]
    exact hd.imp fun h => h.1
  intro n
  induction n with
  | zero =>
    intro f y w hs _ hn hI hS
    have e := left_zero hs hn
    subst e
    exact hend y w hI hS
  | succ n ih =>
    intro f y w hs hcl hn hI hS
    have hrow : (I.map (·.1)).map f ∈ allB I.length := by
      have := mem_allB ((I.map (·.1)).map f)
      simpa using this
    have hc1 := List.all_eq_true.1 hc _ hrow
    rw [fOf_self _ f hs] at hc1
    unfold chk1 at hc1
    have hA : (((I.map (·.1)).map f).all id || !((I.map (·.1)).all fun i => !f i || (deps i).all f)) = false := by
      rw [Bool.or_eq_false_iff]
      constructor
      · rw [Bool.eq_false_iff]
        intro h0
        have : leftN I f = 0 := by
          unfold leftN
          rw [List.length_eq_zero_iff, List.filter_eq_nil_iff]
          intro j hj
          have := List.all_eq_true.1 h0 (f j) (List.mem_map_of_mem hj)
          simpa using this
        omega
      · rw [Bool.not_eq_false', List.all_eq_true]
        intro i _
        cases hfi : f i with
        | false => rfl
        | true => simpa using hcl i hfi
    rw [hA, Bool.false_or] at hc1
    simp only [Bool.and_eq_true] at hc1
    obtain ⟨hall, hne⟩ := hc1
    refine wpAnyH_all rfl ?_ ?_
    · intro h0
      rw [h0] at hne
      simp at hne
    · intro i hi
      have := List.all_eq_true.1 hall i hi
      simp only [Bool.and_eq_true, Bool.not_eq_true', List.all_eq_true] at this
      obtain ⟨h1, h2, h3⟩ := this
      have hi' : i ∈ I.map (·.1) := by simpa using h1
      obtain ⟨⟨i', d⟩, hp, rfl⟩ := List.mem_map.1 hi'
      obtain ⟨oi, ho, hdst, hst⟩ := hstep _ hp
      refine wpOp_step ((opAtL_eq L _).trans ho) fun K' hK => ?_
      obtain ⟨hw, hwp⟩ := hst f y w h2 h3 hI hS K' (fun v a' w' ha' hI' hS' => hK _ _ ⟨hS', by
        subst ha'
        rw [List.setIfInBounds_toArray, mkL_set, hdst, actM_upd hd hp]
        have hl := left_step hnd hi' h2
        refine ih _ _ _ (fun j hj => ?_) (fun j hj k hk => ?_) ?_ ?_ hS'
        · rw [Bool.or_eq_true] at hj
          rcases hj with hj | hj
          · exact hs j hj
          · rw [Nat.zero_add, beq_iff_eq] at hj
            rw [hj]; exact hi'
        · rw [Bool.or_eq_true] at hj ⊢
          rcases hj with hj | hj
          · exact .inl (hcl j hj k hk)
          · rw [Nat.zero_add, beq_iff_eq] at hj
            subst hj
            exact .inl (h3 k hk)
        · unfold leftN at hn ⊢
          rw [hn] at hl
          simp only [Nat.zero_add] at hl ⊢
          omega
        · simpa only [Nat.zero_add] using hI'⟩)
      rw [if_pos hw]
      exact hwp
theorem actM_self {I : List (Nat × Option Tmp)} {a : Act} {y : Nat → Value} (h : ∀ p ∈ I, ∀ d, p.2 = some d → y p.1 = a.tmps.getD d undef) : actM a I y = a := by
  unfold actM
  induction I with
  | nil => rfl
  | cons p I ih =>
    have e : a.put p.2 (y p.1) = a := by
      obtain ⟨i, d⟩ := p
      cases d with
      | none => rfl
      | some d =>
        rw [show y i = a.tmps.getD d undef from h (i, some d) (List.mem_cons_self ..) d rfl]
        simp only [Act.put]
        have : a.tmps.setIfInBounds d (a.tmps.getD d undef) = a.tmps := by
          apply Array.ext
          · simp
          · intro j h1 h2
            rw [Array.getElem_setIfInBounds]
            split
            · rename_i e
              subst e
              simp [Array.getD, h2]
            · rfl
        rw [this]
    rw [List.foldl_cons, e]
    exact ih fun q hq => h q (List.mem_cons_of_mem _ hq)
theorem vals_ex (I : List (Nat × Option Tmp)) (hd : Dist I) (a : Act) : ∃ y : Nat → Value, ∀ p ∈ I, ∀ d, p.2 = some d → y p.1 = a.tmps.getD d undef := by
  induction I with
  | nil => exact ⟨fun _ => undef, fun _ h => by cases h⟩
  | cons p I ih =>
    rcases List.pairwise_cons.1 hd with ⟨h1, h2⟩
    obtain ⟨y, hy⟩ := ih h2
    refine ⟨updM y p.1 (match p.2 with | some d => a.tmps.getD d undef | none => undef), fun q hq d e => ?_⟩
    rcases List.mem_cons.1 hq with rfl | hq
    · unfold updM
      rw [if_pos rfl, e]
    · unfold updM
      rw [if_neg (fun e' => (h1 q hq).1 e'.symm)]
      exact hy q hq d e
/-- Of these operations each one that may come up is walked once, in whatever state; behind all of them the rest. -/
theorem many_at {I : List (Nat × Option Tmp)} (deps : Nat → List Nat) (lits : List Bool) {listed' : Array Bool} {a : Act} {fuel fuel' : Nat} {w : World} (Inv : (Nat → Bool) → (Nat → Value) → World → Prop)
    (hl : (mkL lits 0 fun _ => false) = lits) (hf : fuel = fuel' + I.length) (hd : Dist I) (hc : chk md L lits I deps = true) (hl' : (mkL lits 0 (fun j => (I.map (·.1)).contains j)).toArray = listed')
    (h0 : ∀ y, Inv (fun _ => false) y w) (hS : S w) (hstep : ∀ p ∈ I, StepM P L Q S deps Inv a I p)
    (hend : ∀ y w, Inv (fun j => (I.map (·.1)).contains j) y w → S w → wpAnyH P md L.toArray Q S fuel' listed' (actM a I y) w) :
    wpAnyH P md L.toArray Q S fuel lits.toArray a w := by
  subst hf
  obtain ⟨y0, hy0⟩ := vals_ex I hd a
  have hy := actM_self hy0
  replace h0 := h0 y0
  rw [← hl]
  refine (?_ : wpAnyH P md L.toArray Q S (fuel' + I.length) (mkL lits 0 fun _ => false).toArray a w)
  suffices h : wpAnyH P md L.toArray Q S (fuel' + I.length) (mkL lits 0 fun _ => false).toArray (actM a I y0) w by rw [hy] at h; exact h
  have hlen : leftN I (fun _ => false) = I.length := by
    unfold leftN
    rw [List.filter_eq_self.2 (by simp), List.length_map]
  subst hl'
  exact many_go Inv hd hc hstep hend _ _ y0 w (fun j h => by cases h) (fun j h => by cases h) hlen h0 hS
end
end Go.Proofs.Ytjdfinimbdcmbaa.Lab
