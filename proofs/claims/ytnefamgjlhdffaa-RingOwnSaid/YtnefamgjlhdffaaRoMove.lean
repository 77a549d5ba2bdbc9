/- Rows of cells: what is inserted and deleted, deleted twice, made longer and cut; levels that are joined: plain mathematics. -/
import Derived.Test.YtnefamgjlhdffaaRoLow
namespace Go.Proofs.Ytnefamgjlhdffaa.Lab
open Go.RowKit

theorem inN_nat {p most : Nat} (h : p ≤ most) : inN (p : Int) most = p := by unfold inN; omega
theorem inN_min (n most : Nat) : inN (n : Int) most = min n most := by unfold inN; omega
/-- Inserted and deleted again. -/
theorem del_ins {R : Cls} (h : Wh R) {p n : Nat} {b : Cel} (hb : b.k = 0) (hn : p + n ≤ R.length) :
    delM (insM R p n b) p n b = (brk (brk R p) (R.length - n)).take (R.length - n) ++ List.replicate n b := by
  obtain ⟨B, hB⟩ : ∃ B, B = brk (brk R p) (R.length - n) := ⟨_, rfl⟩
  have hBl : B.length = R.length := by rw [hB, len_brk, len_brk]
  have hI := h.ins (p := p) (n := n) hb hn
  have eI : insM R p n b = B.take p ++ List.replicate n b ++ (B.drop p).take (R.length - n - p) := by rw [hB]; rfl
  have l1 : (B.take p).length = p := by rw [List.length_take]; omega
  have cB : Cln B p := by rw [hB]; exact (cln_brk R p).brk _
  have c1 : Cln (insM R p n b) p := by
    intro i hi hk
    rw [eI, List.append_assoc, gc_left (by omega), gc_take (by omega)] at hk
    exact cB i hi hk
  have c2 : Cln (insM R p n b) (p + n) := by
    intro i hi hk
    by_cases h0 : n = 0
    · exact c1 i (by omega) hk
    · rw [eI, gc_left (by rw [List.length_append, List.length_replicate]; omega), gc_right (by omega), gc_rep (by omega), hb] at hk
      exact absurd hk (by decide)
  unfold delM
  rw [brk_clean hI c1, brk_clean hI c2, eI]
  have e1 : (B.take p ++ List.replicate n b ++ (B.drop p).take (R.length - n - p)).take p = B.take p := by
    rw [List.append_assoc, List.take_left' l1]
  have e2 : (B.take p ++ List.replicate n b ++ (B.drop p).take (R.length - n - p)).drop (p + n) = (B.drop p).take (R.length - n - p) := List.drop_left' (by rw [List.length_append, List.length_replicate, l1])
  rw [e1, e2, ← hB]
  congr 1
  have : B.take (R.length - n) = B.take (p + (R.length - n - p)) := by congr 1; omega
  rw [this, List.take_add]
theorem back_at {R : Cls} (h : Wh R) {p : Nat} (n : Nat) {b : Cel} (hb : b.k = 0) (hp : p ≤ R.length) :
    (∀ i, i < max p (R.length - n) → gc (deleteM (insertM R p n b) p n b) i = gc (brk (brk R p) (max p (R.length - n))) i) ∧
    (∀ i, max p (R.length - n) ≤ i → i < R.length → gc (deleteM (insertM R p n b) p n b) i = b) := by
  have e1 : inN (p : Int) R.length = p := inN_nat hp
  obtain ⟨m, hm⟩ : ∃ m, m = min n (R.length - p) := ⟨_, rfl⟩
  have e2 : inN (n : Int) (R.length - p) = m := by rw [inN_min, hm]
  have e3 : R.length - m = max p (R.length - n) := by omega
  have eD : deleteM (insertM R p n b) p n b = (brk (brk R p) (R.length - m)).take (R.length - m) ++ List.replicate m b := by
    unfold deleteM
    rw [len_insert]
    unfold insertM
    rw [e1, e2]
    exact del_ins h hb (by omega)
  have hl : ((brk (brk R p) (R.length - m)).take (R.length - m)).length = R.length - m := by rw [List.length_take, len_brk, len_brk]; omega
  rw [eD, ← e3]
  refine ⟨fun i hi => ?_, fun i h1 h2 => ?_⟩
  · rw [gc_left (by omega), gc_take hi]
  · rw [gc_right (by omega), hl, gc_rep (by omega)]
theorem brk_take {R : Cls} {p q : Nat} (h : q < p) : (brk R p).take q = R.take q := by
  refine ext_gc (by rw [List.length_take, List.length_take, len_brk]) fun i hi => ?_
  rw [List.length_take, len_brk] at hi
  rw [gc_take (by omega), gc_take (by omega), gc_brk (by omega), brkC_off (by omega) (by omega)]
/-- Two deletes are one of both. -/
theorem del_del {R : Cls} (h : Wh R) {p n m : Nat} {b : Cel} (hb : b.k = 0) (hc : Cln R (p + n)) (hl : p + n + m ≤ R.length) : delM (delM R p n b) p m b = delM R p (n + m) b := by
  obtain ⟨B, hB⟩ : ∃ B, B = brk R p := ⟨_, rfl⟩
  have hBw : Wh B := by rw [hB]; exact h.brk p
  have hBl : B.length = R.length := by rw [hB, len_brk]
  have cp : Cln B p := by rw [hB]; exact cln_brk R p
  have cn : Cln B (p + n) := by rw [hB]; exact hc.brk p
  obtain ⟨D, hD⟩ : ∃ D, D = delM R p n b := ⟨_, rfl⟩
  have eD : D = B.take p ++ (B.drop (p + n) ++ List.replicate n b) := by
    rw [hD]
    unfold delM
    rw [← hB, brk_clean hBw cn, List.append_assoc]
  have hDw : Wh D := by rw [hD]; exact h.del hb
  have hDl : D.length = R.length := by rw [hD]; exact len_del b (by omega)
  have l1 : (B.take p).length = p := by rw [List.length_take]; omega
  have cD : Cln D p := by
    intro i hi hk
    rw [eD, gc_left (by omega), gc_take (by omega)] at hk
    exact cp i hi hk
  rw [← hD]
  unfold delM
  rw [brk_clean hDw cD, ← hB]
  refine ext_gc ?_ fun i hi => ?_
  · simp only [List.length_append, List.length_take, List.length_drop, List.length_replicate, len_brk]
    omega
  · simp only [List.length_append, List.length_take, List.length_drop, List.length_replicate, len_brk] at hi
    have t1 : ((brk D (p + m)).take p).length = p := by rw [List.length_take, len_brk]; omega
    have t2 : ((brk B (p + (n + m))).take p).length = p := by rw [List.length_take, len_brk]; omega
    by_cases h1 : i < p
    · rw [List.append_assoc, List.append_assoc, gc_left (by omega), gc_left (by omega), gc_take h1, gc_take h1, gc_brk (by omega), gc_brk (by omega)]
      have hDi : gc D i = gc B i := by rw [eD, gc_left (by omega), gc_take h1]
      rw [hDi]
      by_cases hi1 : i + 1 = p
      · have hk := cp i hi1
        unfold brkC
        rw [if_neg (by rintro (⟨_, q⟩ | ⟨q, _⟩); exact hk q; omega), if_neg (by rintro (⟨_, q⟩ | ⟨q, _⟩); exact hk q; omega)]
      · rw [brkC_off (by omega) (by omega), brkC_off (by omega) (by omega)]
    · have d1 : ((brk D (p + m)).drop (p + m)).length = R.length - (p + m) := by rw [List.length_drop, len_brk, hDl]
      have d2 : ((brk B (p + (n + m))).drop (p + (n + m))).length = R.length - (p + (n + m)) := by rw [List.length_drop, len_brk, hBl]
      rw [List.append_assoc, List.append_assoc, gc_right (A := (brk D (p + m)).take p) (by omega), gc_right (A := (brk B (p + (n + m))).take p) (by omega), t1, t2]
      by_cases h2 : i < R.length - m
      · rw [gc_left (A := (brk D (p + m)).drop (p + m)) (by omega), gc_drop, gc_brk (by omega)]
        by_cases h3 : i < R.length - m - n
        · rw [gc_left (A := (brk B (p + (n + m))).drop (p + (n + m))) (by omega), gc_drop, gc_brk (by omega)]
          have hDi : gc D (p + m + (i - p)) = gc B (p + (n + m) + (i - p)) := by
            rw [eD, gc_right (by omega), l1, gc_left (by rw [List.length_drop]; omega), gc_drop]
            congr 1
            omega
          rw [hDi]
          by_cases h4 : i = p
          · subst h4
            rw [Nat.sub_self, Nat.add_zero, Nat.add_zero]
            unfold brkC
            by_cases hk : (gc B (i + (n + m))).k = 2
            · rw [if_pos (.inr ⟨rfl, hk⟩), if_pos (.inr ⟨rfl, hk⟩)]
            · rw [if_neg (by rintro (⟨q, _⟩ | ⟨_, q⟩); omega; exact hk q), if_neg (by rintro (⟨q, _⟩ | ⟨_, q⟩); omega; exact hk q)]
          · rw [brkC_off (by omega) (by omega), brkC_off (by omega) (by omega)]
        · have hDi : gc D (p + m + (i - p)) = b := by
            rw [eD, gc_right (by omega), l1, gc_right (by rw [List.length_drop]; omega), gc_rep (by rw [List.length_drop]; omega)]
          rw [hDi, gc_right (A := (brk B (p + (n + m))).drop (p + (n + m))) (by omega), gc_rep (by omega)]
          unfold brkC
          rw [if_neg]
          rintro (⟨_, q⟩ | ⟨_, q⟩)
          · rw [hb] at q
            exact absurd q (by decide)
          · rw [hb] at q
            exact absurd q (by decide)
      · rw [gc_right (A := (brk D (p + m)).drop (p + m)) (by omega), gc_rep (by omega), gc_right (A := (brk B (p + (n + m))).drop (p + (n + m))) (by omega), gc_rep (by omega)]
theorem del_two {R : Cls} (h : Wh R) {p n m : Nat} {b : Cel} (hb : b.k = 0) (hl : p + n + m ≤ R.length) :
    deleteM (deleteM (brk R (p + n)) p n b) p m b = deleteM (brk R (p + n)) p ((n : Int) + (m : Int)) b := by
  have e0 : (n : Int) + (m : Int) = ((n + m : Nat) : Int) := by omega
  have d1 : deleteM (brk R (p + n)) p n b = delM (brk R (p + n)) p n b := by
    unfold deleteM
    rw [len_brk, inN_nat (by omega), inN_nat (by omega)]
  have d2 : deleteM (brk R (p + n)) p ((n + m : Nat) : Int) b = delM (brk R (p + n)) p (n + m) b := by
    unfold deleteM
    rw [len_brk, inN_nat (by omega), inN_nat (by omega)]
  rw [e0, d1, d2]
  have hdl : (delM (brk R (p + n)) p n b).length = R.length := by rw [len_del b (by rw [len_brk]; omega), len_brk]
  have d3 : deleteM (delM (brk R (p + n)) p n b) p m b = delM (delM (brk R (p + n)) p n b) p m b := by
    show delM _ (inN (p : Int) (delM (brk R (p + n)) p n b).length) (inN (m : Int) ((delM (brk R (p + n)) p n b).length - inN (p : Int) (delM (brk R (p + n)) p n b).length)) b = _
    rw [hdl, inN_nat (by omega), inN_nat (by omega)]
  rw [d3]
  exact del_del (h.brk _) hb (cln_brk _ _) (by rw [len_brk]; omega)
/-- Made longer and cut again. -/
theorem res_res {R : Cls} (h : Wh R) (m : Nat) (b : Cel) : resM (resM R (R.length + m) b) R.length b = R := by
  have e1 : resM R (R.length + m) b = R ++ List.replicate m b := by
    unfold resM
    split
    · have hm : m = 0 := by omega
      subst hm
      rw [Nat.add_zero, brk_clean h (h.end (Nat.le_refl _)), List.take_length]
      simp
    · rw [show R.length + m - R.length = m by omega]
  rw [e1]
  unfold resM
  rw [List.length_append, List.length_replicate, if_pos (by omega)]
  refine ext_gc (by rw [List.length_take, len_brk, List.length_append]; omega) fun i hi => ?_
  rw [List.length_take, len_brk, List.length_append] at hi
  rw [gc_take (by omega), gc_brk (by rw [List.length_append]; omega), gc_left (by omega)]
  unfold brkC
  rw [if_neg]
  rintro (⟨a, q⟩ | ⟨a, _⟩)
  · exact h.end (Nat.le_refl _) i a q
  · omega

/-! ### Levels -/
theorem raise_high {R : Cls} (h : Lv R) {i : Nat} (hi : i < R.length) : gc (raiseM R 1) i = { gc R i with l := 1 } := by
  rw [gc_raise hi]
  show ({ gc R i with l := max (gc R i).l 1 } : Cel) = _
  rcases h i hi with e | e <;> rw [e] <;> rfl
theorem raise_low {R : Cls} (h : Lv R) : raiseM R 0 = R := by
  refine ext_gc (len_raise _ _) fun i hi => ?_
  rw [len_raise] at hi
  rw [gc_raise hi]
  show ({ gc R i with l := max (gc R i).l 0 } : Cel) = _
  have : max (gc R i).l 0 = (gc R i).l := by rcases h i hi with e | e <;> omega
  rw [this]
theorem level_one {R : Cls} (h : Lv R) {i : Nat} (hi : i < R.length) : levelM R (i : Int) ((i : Int) + 1) = (gc R i).l := by
  have e1 : inN (i : Int) R.length = i := inN_nat (by omega)
  have e2 : inN ((i : Int) + 1) R.length = i + 1 := by rw [show (i : Int) + 1 = ((i + 1 : Nat) : Int) by omega]; exact inN_nat (by omega)
  unfold levelM
  rw [e1, e2, show i + 1 - i = 1 by omega, List.drop_eq_getElem_cons hi]
  show max 0 (R[i]).l = _
  rw [← gc_eq hi]
  rcases h i hi with e | e <;> omega
theorem level_none (R : Cls) (i : Int) : levelM R i i = 0 := by
  unfold levelM
  rw [Nat.sub_self]
  rfl
theorem fold_level {L : Cls} {m : Int} (h : ∀ c ∈ L, c.l = m) (x : Int) (h0 : 0 < L.length) (hx : x ≤ m) : L.foldl (fun l c => max l c.l) x = m := by
  induction L generalizing x with
  | nil => simp at h0
  | cons c t ih =>
    rw [List.foldl_cons, h c (by simp), show max x m = m by omega]
    cases t with
    | nil => rfl
    | cons d t => exact ih (fun c hc => h c (List.mem_cons_of_mem _ hc)) m (by simp) (Int.le_refl _)
theorem level_up {R : Cls} (h : Lv R) (h0 : 0 < R.length) (hl : R.length ≤ 99) : levelM (raiseM R 1) 0 99 = 1 := by
  unfold levelM
  rw [len_raise, show inN 0 R.length = 0 by unfold inN; omega, show inN 99 R.length = R.length by unfold inN; omega]
  refine fold_level (fun c hc => ?_) 0 (by rw [List.length_take, List.length_drop, len_raise]; omega) (by decide)
  have hc' : c ∈ raiseM R 1 := List.mem_of_mem_drop (List.mem_of_mem_take hc)
  obtain ⟨i, hi, rfl⟩ := List.getElem_of_mem hc'
  rw [← gc_eq hi, raise_high h (by rw [len_raise] at hi; exact hi)]
theorem mark_same {R : Cls} (i m l : Int) {j : Nat} (hj : j < R.length) : (gc R j).l ≤ (gc (markM R i m l) j).l ∧ (gc (markM R i m l) j).ru = (gc R j).ru ∧ (gc (markM R i m l) j).k = (gc R j).k ∧ (gc (markM R i m l) j).a = (gc R j).a := by
  unfold markM
  split
  · exact ⟨Int.le_refl _, rfl, rfl, rfl⟩
  · by_cases hr : (gc R (spot R i.toNat)).ru = 0
    · unfold markP
      rw [if_pos hr]
      exact ⟨Int.le_refl _, rfl, rfl, rfl⟩
    · rw [gc_markP m l hj hr]
      split
      · rename_i e
        obtain ⟨q1, q2, q3, q4⟩ := markC_same (gc R (spot R i.toNat)) m
        rw [e]
        refine ⟨?_, q4, q1, q2⟩
        show _ ≤ max _ l
        rw [q3]
        omega
      · split
        · rename_i e
          rw [e.2]
          refine ⟨?_, rfl, rfl, rfl⟩
          show _ ≤ max _ l
          omega
        · exact ⟨Int.le_refl _, rfl, rfl, rfl⟩
end Go.Proofs.Ytnefamgjlhdffaa.Lab
