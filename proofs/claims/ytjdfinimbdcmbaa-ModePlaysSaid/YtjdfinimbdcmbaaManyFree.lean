/- A region that draws, where many operations may come up, none of which waits for another one: each is walked once, and no order is looked at. -/
import Derived.Test.YtjdfinimbdcmbaaMany
namespace Go.Proofs.Ytjdfinimbdcmbaa.Lab
open Go

theorem mkL_get : ∀ (l : List Bool) (k : Nat) (f : Nat → Bool) (i : Nat), (mkL l k f)[i]? = (l[i]?).map (fun b => b || f (k + i))
  | [], _, _, _ => by simp [mkL]
  | b :: l, k, f, 0 => by simp [mkL]
  | b :: l, k, f, i + 1 => by
    simp only [mkL, List.getElem?_cons_succ]
    rw [mkL_get l (k + 1) f i, show k + 1 + i = k + (i + 1) by omega]
theorem mkL_getD {l : List Bool} {f : Nat → Bool} {i : Nat} {d : Bool} (h : i < l.length) : (mkL l 0 f).toArray.getD i d = (l.getD i false || f i) := by
  have e := mkL_get l 0 f i
  rw [List.getElem?_eq_getElem h] at e
  simp only [Option.map_some, Nat.zero_add] at e
  rw [Array.getD_eq_getD_getElem?, List.getElem?_toArray, e]
  simp [List.getD_eq_getElem?_getD, List.getElem?_eq_getElem h]
/-- Each that has come up stays; each of these waits for what has come up alone; each other one waits for all of these. -/
def okAt (md : Region.Mode) (L : List Oper) (lits : List Bool) (I : List Nat) (i : Nat) : Bool :=
  match opAtL L i with
  | none => false
  | some o =>
    if I.contains i then !lits.getD i false && o.after.toList.all (fun e => !Region.binds md e || (lits.getD e.on false && decide (e.on < lits.length)))
    else lits.getD i false || I.all (fun j => o.after.toList.any (fun e => Region.binds md e && e.on == j))
def chkF (md : Region.Mode) (L : List Oper) (lits : List Bool) (I : List Nat) : Bool :=
  decide (lits.length = L.length) && (List.range L.length).all (okAt md L lits I) && I.all (fun j => decide (j < L.length) && !lits.getD j false)
theorem ready_free {md : Region.Mode} {L : List Oper} {lits : List Bool} {I : List Nat} (hc : chkF md L lits I = true) {f : Nat → Bool} (hs : ∀ j, f j = true → j ∈ I) (hn : ∃ j ∈ I, f j = false) :
    (∀ i ∈ Region.ready md L.toArray (mkL lits 0 f).toArray, i ∈ I ∧ f i = false) ∧ Region.ready md L.toArray (mkL lits 0 f).toArray ≠ [] := by
  unfold chkF at hc
  simp only [Bool.and_eq_true, decide_eq_true_eq] at hc
  obtain ⟨⟨hlen, hall⟩, hI⟩ := hc
  have at_ : ∀ i, i < L.length → okAt md L lits I i = true := fun i hi => List.all_eq_true.1 hall i (List.mem_range.2 hi)
  have lt_ : ∀ j ∈ I, j < L.length ∧ lits.getD j false = false := fun j hj => by
    have := List.all_eq_true.1 hI j hj
    simpa using this
  constructor
  · intro i hi
    unfold Region.ready at hi
    obtain ⟨h1, h2⟩ := List.mem_filter.1 hi
    have hiL : i < L.length := by simpa using h1
    rw [Bool.and_eq_true, mkL_getD (by omega), opAtL_eq] at h2
    obtain ⟨h3, h4⟩ := h2
    have hk := at_ i hiL
    unfold okAt at hk
    cases ho : opAtL L i with
    | none => rw [ho] at hk; cases hk
    | some o =>
      rw [ho] at hk h4
      simp only [Option.map_some, Option.getD_some] at h4
      simp only [] at hk
      by_cases hm : i ∈ I
      · refine ⟨hm, ?_⟩
        cases hf : f i with
        | false => rfl
        | true => rw [hf] at h3; simp at h3
      · rw [if_neg (by simpa using hm)] at hk
        have hfi : f i = false := by
          cases hf : f i with
          | false => rfl
          | true => exact absurd (hs i hf) hm
        rw [hfi, Bool.or_false] at h3
        have h3' : lits.getD i false = false := by simpa using h3
        rw [h3', Bool.false_or] at hk
        obtain ⟨j, hj, hfj⟩ := hn
        have := List.all_eq_true.1 hk j hj
        obtain ⟨e, he, heb⟩ := List.any_eq_true.1 this
        rw [Bool.and_eq_true, beq_iff_eq] at heb
        have h5 := Array.all_eq_true'.1 h4 e (by simpa using he)
        rw [heb.1, heb.2, mkL_getD (by have := (lt_ j hj).1; omega), (lt_ j hj).2, hfj] at h5
        simp at h5
  · obtain ⟨j, hj, hfj⟩ := hn
    intro h0
    have hjm : j ∈ Region.ready md L.toArray (mkL lits 0 f).toArray := by
      unfold Region.ready
      have hk := at_ j (lt_ j hj).1
      unfold okAt at hk
      refine List.mem_filter.2 ⟨by simpa using (lt_ j hj).1, ?_⟩
      rw [Bool.and_eq_true, mkL_getD (by have := (lt_ j hj).1; omega), opAtL_eq, (lt_ j hj).2, hfj]
      cases ho : opAtL L j with
      | none => rw [ho] at hk; cases hk
      | some o =>
        rw [ho] at hk
        simp only [] at hk
        rw [if_pos (by simpa using hj), Bool.and_eq_true] at hk
        refine ⟨rfl, ?_⟩
        simp only [Option.map_some, Option.getD_some]
        rw [Array.all_eq_true']
        intro e he
        have := List.all_eq_true.1 hk.2 e (by simpa using he)
        rw [Bool.or_eq_true] at this ⊢
        rcases this with h | h
        · exact .inl h
        · rw [Bool.and_eq_true, decide_eq_true_eq] at h
          refine .inr ?_
          rw [mkL_getD h.2, h.1]
          rfl
    rw [h0] at hjm
    cases hjm

section
variable {P : Program} {L : List Oper} {Q : Exit → Act → World → Prop} {md : Region.Mode} {S : World → Prop}
theorem many_goF {I : List (Nat × Option Tmp)} {lits : List Bool} {a : Act} {fuel : Nat} (Inv : (Nat → Bool) → (Nat → Value) → World → Prop) (hd : Dist I) (hc : chkF md L lits (I.map (·.1)) = true)
    (hstep : ∀ p ∈ I, StepM P L Q S (fun _ => []) Inv a I p)
    (hend : ∀ y w, Inv (fun j => (I.map (·.1)).contains j) y w → S w → wpAnyH P md L.toArray Q S fuel (mkL lits 0 (fun j => (I.map (·.1)).contains j)).toArray (actM a I y) w) :
    ∀ n f y w, (∀ j, f j = true → j ∈ I.map (·.1)) → leftN I f = n → Inv f y w → S w → wpAnyH P md L.toArray Q S (fuel + n) (mkL lits 0 f).toArray (actM a I y) w := by
  have hnd : (I.map (·.1)).Nodup := by
    rw [List.nodup_iff_pairwise_ne, List.pairwise_map]
    exact hd.imp fun h => h.1
  intro n
  induction n with
  | zero =>
    intro f y w hs hn hI hS
    have e := left_zero hs hn
    subst e
    exact hend y w hI hS
  | succ n ih =>
    intro f y w hs hn hI hS
    have hex : ∃ j ∈ I.map (·.1), f j = false := by
      unfold leftN at hn
      have hpos : 0 < ((I.map (·.1)).filter fun j => !f j).length := by omega
      obtain ⟨j, hj⟩ := List.exists_mem_of_length_pos hpos
      obtain ⟨h1, h2⟩ := List.mem_filter.1 hj
      exact ⟨j, h1, by simpa using h2⟩
    obtain ⟨hall, hne⟩ := ready_free hc hs hex
    refine wpAnyH_all rfl hne ?_
    · intro i hi
      obtain ⟨hi', h2⟩ := hall i hi
      obtain ⟨⟨i', d⟩, hp, rfl⟩ := List.mem_map.1 hi'
      obtain ⟨oi, ho, hdst, hst⟩ := hstep _ hp
      refine wpOp_step ((opAtL_eq L _).trans ho) fun K' hK => ?_
      obtain ⟨hw, hwp⟩ := hst f y w h2 (fun j hj => by cases hj) hI hS K' (fun v a' w' ha' hI' hS' => hK _ _ ⟨hS', by
        subst ha'
        rw [List.setIfInBounds_toArray, mkL_set, hdst, actM_upd hd hp]
        have hl := left_step hnd hi' h2
        refine ih _ _ _ (fun j hj => ?_) ?_ ?_ hS'
        · rw [Bool.or_eq_true] at hj
          rcases hj with hj | hj
          · exact hs j hj
          · rw [Nat.zero_add, beq_iff_eq] at hj
            rw [hj]; exact hi'
        · unfold leftN at hn ⊢
          rw [hn] at hl
          simp only [Nat.zero_add] at hl ⊢
          omega
        · simpa only [Nat.zero_add] using hI'⟩)
      rw [if_pos hw]
      exact hwp
/-- Of these operations, none of which waits for another one, each is walked once; behind all of them the rest. -/
theorem many_free {I : List (Nat × Option Tmp)} (lits : List Bool) {listed' : Array Bool} {a : Act} {fuel fuel' : Nat} {w : World} (Inv : (Nat → Bool) → (Nat → Value) → World → Prop)
    (hl : (mkL lits 0 fun _ => false) = lits) (hf : fuel = fuel' + I.length) (hd : Dist I) (hc : chkF md L lits (I.map (·.1)) = true) (hl' : (mkL lits 0 (fun j => (I.map (·.1)).contains j)).toArray = listed')
    (h0 : ∀ y, Inv (fun _ => false) y w) (hS : S w) (hstep : ∀ p ∈ I, StepM P L Q S (fun _ => []) Inv a I p)
    (hend : ∀ y w, Inv (fun j => (I.map (·.1)).contains j) y w → S w → wpAnyH P md L.toArray Q S fuel' listed' (actM a I y) w) :
    wpAnyH P md L.toArray Q S fuel lits.toArray a w := by
  subst hf
  obtain ⟨y0, hy0⟩ := vals_ex I hd a
  have hy := actM_self hy0
  replace h0 := h0 y0
  rw [← hl]
  refine (?_ : wpAnyH P md L.toArray Q S (fuel' + I.length) (mkL lits 0 fun _ => false).toArray a w)
  suffices h : wpAnyH P md L.toArray Q S (fuel' + I.length) (mkL lits 0 fun _ => false).toArray (actM a I y0) w by rw [hy] at h; exact h
  have hlen : leftN I (fun _ => false) = I.length := by
    unfold leftN
    rw [List.filter_eq_self.2 (by simp), List.length_map]
  subst hl'
  exact many_goF Inv hd hc hstep hend _ _ y0 w (fun j h => by cases h) hlen h0 hS
end
end Go.Proofs.Ytjdfinimbdcmbaa.Lab
