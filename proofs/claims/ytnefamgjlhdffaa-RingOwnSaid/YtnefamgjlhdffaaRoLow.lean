/- Rows of cells: what Low sees; what a put leaves; plain mathematics. -/
import Derived.Test.YtnefamgjlhdffaaRoMath
namespace Go.Proofs.Ytnefamgjlhdffaa.Lab
open Go.RowKit

/-- Two rows that look alike to Low. -/
def LowE (R S : Cls) : Prop := R.length = S.length ∧ ∀ i, i < R.length → (gc R i).l = (gc S i).l ∧ ((gc R i).l = 0 → gc R i = gc S i)
/-- Levels are Low or High. -/
def Lv (R : Cls) : Prop := ∀ i, i < R.length → (gc R i).l = 0 ∨ (gc R i).l = 1
theorem LowE.refl (R : Cls) : LowE R R := ⟨rfl, fun _ _ => ⟨rfl, fun _ => rfl⟩⟩
theorem LowE.brk {R S : Cls} (h : LowE R S) (p : Nat) : LowE (Lab.brk R p) (Lab.brk S p) := by
  refine ⟨by rw [len_brk, len_brk]; exact h.1, fun i hi => ?_⟩
  rw [len_brk] at hi
  have hs : i < S.length := by rw [← h.1]; exact hi
  obtain ⟨h1, h2⟩ := h.2 i hi
  rw [gc_brk hi, gc_brk hs, (brkC_l _ _ _).1, (brkC_l _ _ _).1]
  exact ⟨h1, fun e => by rw [h2 e]⟩
theorem LowE.take {R S : Cls} (h : LowE R S) (p : Nat) : LowE (R.take p) (S.take p) := by
  refine ⟨by rw [List.length_take, List.length_take, h.1], fun i hi => ?_⟩
  rw [List.length_take] at hi
  rw [gc_take (by omega), gc_take (by omega)]
  exact h.2 i (by omega)
theorem LowE.drop {R S : Cls} (h : LowE R S) (p : Nat) : LowE (R.drop p) (S.drop p) := by
  refine ⟨by rw [List.length_drop, List.length_drop, h.1], fun i hi => ?_⟩
  rw [List.length_drop] at hi
  rw [gc_drop, gc_drop]
  exact h.2 _ (by omega)
theorem LowE.append {A B C D : Cls} (h : LowE A B) (k : LowE C D) : LowE (A ++ C) (B ++ D) := by
  refine ⟨by rw [List.length_append, List.length_append, h.1, k.1], fun i hi => ?_⟩
  rw [List.length_append] at hi
  by_cases hl : i < A.length
  · rw [gc_left hl, gc_left (by rw [← h.1]; exact hl)]
    exact h.2 i hl
  · rw [gc_right (by omega), gc_right (by rw [← h.1]; omega), ← h.1]
    exact k.2 _ (by omega)
theorem LowE.set {R S : Cls} (h : LowE R S) (j : Nat) (c : Cel) : LowE (R.set j c) (S.set j c) := by
  refine ⟨by rw [List.length_set, List.length_set, h.1], fun i hi => ?_⟩
  rw [List.length_set] at hi
  rw [gc_set hi, gc_set (by rw [← h.1]; exact hi)]
  split
  · exact ⟨rfl, fun _ => rfl⟩
  · exact h.2 i hi
theorem LowE.map {R S : Cls} (h : LowE R S) (f : Cel → Cel) (hf : ∀ c d, c.l = d.l → (f c).l = (f d).l) (h0 : ∀ c, (f c).l = 0 → c.l = 0) : LowE (R.map f) (S.map f) := by
  refine ⟨by rw [List.length_map, List.length_map, h.1], fun i hi => ?_⟩
  rw [List.length_map] at hi
  have hs : i < S.length := by rw [← h.1]; exact hi
  rw [gc_eq (by simpa using hi), gc_eq (by simpa using hs), List.getElem_map, List.getElem_map, ← gc_eq hi, ← gc_eq hs]
  obtain ⟨h1, h2⟩ := h.2 i hi
  exact ⟨hf _ _ h1, fun e => by rw [h2 (h0 _ e)]⟩
theorem LowE.put {R S : Cls} (h : LowE R S) (i : Int) (c : Cel) (wide : Bool) : LowE (putM R i c wide) (putM S i c wide) := by
  cases wide
  · rw [put_one, put_one, h.1]
    split
    · exact h
    · exact ((h.brk _).brk _).set _ _
  · rw [put_wide, put_wide, h.1]
    split
    · exact h
    · exact (((h.brk _).brk _).set _ _).set _ _
theorem LowE.ins {R S : Cls} (h : LowE R S) (p n : Nat) (b : Cel) : LowE (insM R p n b) (insM S p n b) := by
  unfold insM
  rw [h.1]
  exact ((((h.brk _).brk _).take _).append (LowE.refl _)).append ((((h.brk _).brk _).drop _).take _)
theorem LowE.insert {R S : Cls} (h : LowE R S) (i n : Int) (b : Cel) : LowE (insertM R i n b) (insertM S i n b) := by
  unfold insertM
  rw [h.1]
  exact h.ins _ _ _
theorem LowE.delete {R S : Cls} (h : LowE R S) (i n : Int) (b : Cel) : LowE (deleteM R i n b) (deleteM S i n b) := by
  unfold deleteM delM
  rw [h.1]
  exact ((((h.brk _).brk _).take _).append (((h.brk _).brk _).drop _)).append (LowE.refl _)
theorem LowE.erase {R S : Cls} (h : LowE R S) (i j : Int) (b : Cel) : LowE (eraseM R i j b) (eraseM S i j b) := by
  unfold eraseM eraM
  rw [h.1]
  split
  · exact h
  · exact ((((h.brk _).brk _).take _).append (LowE.refl _)).append (((h.brk _).brk _).drop _)
theorem LowE.breaks {R S : Cls} (h : LowE R S) (i j : Int) : LowE (breakM (breakM R i) j) (breakM (breakM S i) j) := by
  unfold breakM
  rw [len_brk, len_brk, h.1]
  exact (h.brk _).brk _
theorem LowE.resize {R S : Cls} (h : LowE R S) (n : Int) (b : Cel) : LowE (resizeM R n b) (resizeM S n b) := by
  unfold resizeM resM
  rw [h.1]
  split
  · exact (h.brk _).take _
  · exact h.append (LowE.refl _)
theorem LowE.raise {R S : Cls} (h : LowE R S) (l : Int) (hR : Lv R) : LowE (raiseM R l) (raiseM S l) := by
  refine ⟨by rw [len_raise, len_raise, h.1], fun i hi => ?_⟩
  rw [len_raise] at hi
  have hs : i < S.length := by rw [← h.1]; exact hi
  have g1 : gc (raiseM R l) i = raiseC l (gc R i) := by rw [gc_eq (by rw [len_raise]; exact hi), gc_eq hi]; simp [raiseM]
  have g2 : gc (raiseM S l) i = raiseC l (gc S i) := by rw [gc_eq (by rw [len_raise]; exact hs), gc_eq hs]; simp [raiseM]
  obtain ⟨h1, h2⟩ := h.2 i hi
  rw [g1, g2]
  refine ⟨by show max _ _ = max _ _; rw [h1], fun e => ?_⟩
  have e' : max (gc R i).l l = 0 := e
  rw [h2 (by rcases hR i hi with q | q <;> omega)]
/-- A mark on a High cell changes High cells alone, and no level. -/
theorem mark_high {R : Cls} (h : Wh R) {p : Nat} (hp : p < R.length) (hh : (gc R p).l = 1) (m : Int) {l : Int} (hl : l = 0 ∨ l = 1) :
    ∀ i, i < R.length → (gc (markP R (spot R p) m l) i).l = (gc R i).l ∧ ((gc R i).l = 0 → gc (markP R (spot R p) m l) i = gc R i) := by
  intro i hi
  obtain ⟨s1, s2⟩ := spot_ok h hp
  have hs : (gc R (spot R p)).l = 1 := by
    unfold spot
    by_cases hk : (gc R p).k = 2
    · obtain ⟨a1, a2, _⟩ := (h p hp).2.1 hk
      rw [if_pos ⟨hk, a1⟩]
      obtain ⟨_, _, _, b4⟩ := (h (p - 1) (by omega)).1 a2
      rw [show p - 1 + 1 = p by omega] at b4
      rw [← b4, hh]
    · rw [if_neg (fun e => hk e.1)]
      exact hh
  by_cases hr : (gc R (spot R p)).ru = 0
  · unfold markP
    rw [if_pos hr]
    exact ⟨rfl, fun _ => rfl⟩
  rw [gc_markP m l hi hr]
  split
  · rename_i e
    rw [e]
    have q3 := (markC_same (gc R (spot R p)) m).2.2.1
    refine ⟨?_, fun e0 => ?_⟩
    · show max (markC (gc R (spot R p)) m).l l = _
      rw [q3, hs]
      omega
    · omega
  · split
    · rename_i e
      have hl1 := ((h _ s1).1 e.1).2.2.2
      rw [e.2]
      refine ⟨?_, fun e0 => ?_⟩
      · show max (gc R (spot R p + 1)).l l = _
        rw [hl1, hs]
        omega
      · omega
    · exact ⟨rfl, fun _ => rfl⟩
theorem LowE.mark {R S : Cls} (h : LowE R S) (hR : Wh R) (hS : Wh S) (vR : Lv R) (i m : Int) {l : Int} (hl : l = 0 ∨ l = 1) : LowE (markM R i m l) (markM S i m l) := by
  unfold markM
  rw [h.1]
  split
  · exact h
  · rename_i hn
    have hpS : i.toNat < S.length := by omega
    have hpR : i.toNat < R.length := by rw [h.1]; exact hpS
    refine ⟨by rw [len_markP, len_markP, h.1], fun j hj => ?_⟩
    rw [len_markP] at hj
    have hjS : j < S.length := by rw [← h.1]; exact hj
    rcases vR _ hpR with h0 | h1
    · have e0 := (h.2 _ hpR).2 h0
      have hsp : spot R i.toNat = spot S i.toNat := by unfold spot; rw [e0]
      have eq : gc R (spot R i.toNat) = gc S (spot R i.toNat) ∧ (gc R (spot R i.toNat)).l = 0 := by
        unfold spot
        by_cases hk : (gc R i.toNat).k = 2
        · obtain ⟨a1, a2, _⟩ := (hR _ hpR).2.1 hk
          rw [if_pos ⟨hk, a1⟩]
          obtain ⟨_, _, _, b4⟩ := (hR (i.toNat - 1) (by omega)).1 a2
          rw [show i.toNat - 1 + 1 = i.toNat by omega] at b4
          have hz : (gc R (i.toNat - 1)).l = 0 := by rw [← b4, h0]
          exact ⟨(h.2 _ (by omega)).2 hz, hz⟩
        · rw [if_neg (fun e => hk e.1)]
          exact ⟨e0, h0⟩
      obtain ⟨s1, s2⟩ := spot_ok hR hpR
      rw [← hsp]
      by_cases hr : (gc R (spot R i.toNat)).ru = 0
      · have hr' : (gc S (spot R i.toNat)).ru = 0 := by rw [← eq.1]; exact hr
        unfold markP
        rw [if_pos hr, if_pos hr']
        exact h.2 j hj
      · have hr' : (gc S (spot R i.toNat)).ru ≠ 0 := by rw [← eq.1]; exact hr
        rw [gc_markP m l hj hr, gc_markP m l hjS hr', ← eq.1]
        split
        · exact ⟨rfl, fun _ => rfl⟩
        · split
          · rename_i e
            have hl1 := ((hR _ s1).1 e.1)
            have e2 := (h.2 _ hl1.1).2 (by rw [hl1.2.2.2]; exact eq.2)
            rw [e2]
            exact ⟨rfl, fun _ => rfl⟩
          · exact h.2 j hj
    · have h1S : (gc S i.toNat).l = 1 := by rw [← (h.2 _ hpR).1]; exact h1
      obtain ⟨a1, a2⟩ := mark_high hR hpR h1 m hl j hj
      obtain ⟨b1, b2⟩ := mark_high hS hpS h1S m hl j hjS
      obtain ⟨c1, c2⟩ := h.2 j hj
      rw [a1, b1]
      refine ⟨c1, fun e => ?_⟩
      rw [a2 e, b2 (by rw [← c1]; exact e)]
      exact c2 e

/-! ### Levels stay levels -/
theorem Lv.nil : Lv [] := fun i h => by simp at h
theorem Lv.take {R : Cls} (h : Lv R) (p : Nat) : Lv (R.take p) := fun i hi => by
  rw [List.length_take] at hi
  rw [gc_take (by omega)]
  exact h i (by omega)
theorem Lv.drop {R : Cls} (h : Lv R) (p : Nat) : Lv (R.drop p) := fun i hi => by
  rw [List.length_drop] at hi
  rw [gc_drop]
  exact h _ (by omega)
theorem Lv.append {A B : Cls} (h : Lv A) (k : Lv B) : Lv (A ++ B) := fun i hi => by
  rw [List.length_append] at hi
  by_cases hl : i < A.length
  · rw [gc_left hl]
    exact h i hl
  · rw [gc_right (by omega)]
    exact k _ (by omega)
theorem Lv.rep (n : Nat) {c : Cel} (hc : c.l = 0 ∨ c.l = 1) : Lv (List.replicate n c) := fun i hi => by
  rw [List.length_replicate] at hi
  rw [gc_rep hi]
  exact hc
theorem Lv.brk {R : Cls} (h : Lv R) (p : Nat) : Lv (Lab.brk R p) := fun i hi => by
  rw [len_brk] at hi
  rw [gc_brk hi, (brkC_l _ _ _).1]
  exact h i hi
theorem Lv.set {R : Cls} (h : Lv R) (j : Nat) {c : Cel} (hc : c.l = 0 ∨ c.l = 1) : Lv (R.set j c) := fun i hi => by
  rw [List.length_set] at hi
  rw [gc_set hi]
  split
  · exact hc
  · exact h i hi
theorem Lv.put {R : Cls} (h : Lv R) (i : Int) {c : Cel} (hc : c.l = 0 ∨ c.l = 1) (wide : Bool) : Lv (putM R i c wide) := by
  cases wide
  · rw [put_one]
    split
    · exact h
    · exact ((h.brk _).brk _).set _ hc
  · rw [put_wide]
    split
    · exact h
    · exact (((h.brk _).brk _).set _ (c := rightC c) hc).set _ (c := { c with k := 1 }) hc
theorem Lv.insert {R : Cls} (h : Lv R) (i n : Int) {b : Cel} (hb : b.l = 0 ∨ b.l = 1) : Lv (insertM R i n b) := by
  unfold insertM insM
  exact ((((h.brk _).brk _).take _).append (Lv.rep _ hb)).append ((((h.brk _).brk _).drop _).take _)
theorem Lv.delete {R : Cls} (h : Lv R) (i n : Int) {b : Cel} (hb : b.l = 0 ∨ b.l = 1) : Lv (deleteM R i n b) := by
  unfold deleteM delM
  exact ((((h.brk _).brk _).take _).append (((h.brk _).brk _).drop _)).append (Lv.rep _ hb)
theorem Lv.erase {R : Cls} (h : Lv R) (i j : Int) {b : Cel} (hb : b.l = 0 ∨ b.l = 1) : Lv (eraseM R i j b) := by
  unfold eraseM eraM
  split
  · exact h
  · exact ((((h.brk _).brk _).take _).append (Lv.rep _ hb)).append (((h.brk _).brk _).drop _)
theorem Lv.resize {R : Cls} (h : Lv R) (n : Int) {b : Cel} (hb : b.l = 0 ∨ b.l = 1) : Lv (resizeM R n b) := by
  unfold resizeM resM
  split
  · exact (h.brk _).take _
  · exact h.append (Lv.rep _ hb)
theorem gc_raise {R : Cls} {l : Int} {i : Nat} (hi : i < R.length) : gc (raiseM R l) i = raiseC l (gc R i) := by
  rw [gc_eq (by rw [len_raise]; exact hi), gc_eq hi]
  simp [raiseM]
theorem Lv.raise {R : Cls} (h : Lv R) {l : Int} (hl : l = 0 ∨ l = 1) : Lv (raiseM R l) := fun i hi => by
  rw [len_raise] at hi
  rw [gc_raise hi]
  show max _ _ = 0 ∨ max _ _ = 1
  rcases h i hi with e | e <;> omega
theorem Lv.mark {R : Cls} (h : Lv R) (i m : Int) {l : Int} (hl : l = 0 ∨ l = 1) : Lv (markM R i m l) := by
  unfold markM
  split
  · exact h
  · intro j hj
    rw [len_markP] at hj
    by_cases hr : (gc R (spot R i.toNat)).ru = 0
    · unfold markP
      rw [if_pos hr]
      exact h j hj
    · rw [gc_markP m l hj hr]
      have hsp : spot R i.toNat < R.length := by unfold spot; split <;> omega
      split
      · show max (markC _ m).l l = 0 ∨ max (markC _ m).l l = 1
        rw [(markC_same _ m).2.2.1]
        rcases h _ hsp with e | e <;> omega
      · split
        · rename_i e
          rw [← e.2]
          show max _ l = 0 ∨ max _ l = 1
          rcases h j hj with e | e <;> omega
        · exact h j hj

/-! ### What a put leaves -/
theorem gc_put {R : Cls} {p w : Nat} (wide : Bool) (hw : w = if wide then 2 else 1) (c : Cel) (hp : p + w ≤ R.length) {i : Nat} (hi : i < R.length) :
    gc (putM R (p : Int) c wide) i = if i = p then { c with k := if wide then 1 else 0 } else if wide = true ∧ i = p + 1 then rightC c else brkC (p + w) i (brkC p i (gc R i)) := by
  cases wide
  · have hw' : w = 1 := hw
    subst hw'
    rw [put_one, if_neg (by omega), Int.toNat_natCast, gc_set (by rw [len_brk, len_brk]; exact hi), gc_brk (by rw [len_brk]; exact hi), gc_brk hi]
    simp
  · have hw' : w = 2 := hw
    subst hw'
    rw [put_wide, if_neg (by omega), Int.toNat_natCast, gc_set (by rw [List.length_set, len_brk, len_brk]; exact hi), gc_set (by rw [len_brk, len_brk]; exact hi), gc_brk (by rw [len_brk]; exact hi), gc_brk hi]
    simp
/-- A half that a put breaks. -/
def Half (R : Cls) (p w i : Nat) : Prop := (i + 1 = p ∧ (gc R i).k = 1) ∨ (i = p + w ∧ (gc R i).k = 2)
instance (R : Cls) (p w i : Nat) : Decidable (Half R p w i) := inferInstanceAs (Decidable (_ ∨ _))
theorem put_off {R : Cls} {p w : Nat} (wide : Bool) (hw : w = if wide then 2 else 1) (c : Cel) (hp : p + w ≤ R.length) {i : Nat} (hi : i < R.length) (ho : i < p ∨ p + w ≤ i) :
    (¬ Half R p w i → gc (putM R (p : Int) c wide) i = gc R i) ∧ (Half R p w i → gc (putM R (p : Int) c wide) i = (gc R i).bare) := by
  have hw1 : 1 ≤ w ∧ (wide = true → w = 2) := by cases wide <;> simp at hw <;> subst hw <;> simp
  rw [gc_put wide hw c hp hi, if_neg (by omega), if_neg (by rintro ⟨e1, e2⟩; have := hw1.2 e1; omega)]
  refine ⟨fun hn => ?_, fun hh => ?_⟩
  · have e1 : brkC p i (gc R i) = gc R i := by
      unfold brkC
      rw [if_neg]
      rintro (⟨a, b⟩ | ⟨a, _⟩)
      · exact hn (.inl ⟨a, b⟩)
      · omega
    rw [e1]
    unfold brkC
    rw [if_neg]
    rintro (⟨a, _⟩ | ⟨a, b⟩)
    · omega
    · exact hn (.inr ⟨a, b⟩)
  · rcases hh with ⟨a, b⟩ | ⟨a, b⟩
    · have e1 : brkC p i (gc R i) = (gc R i).bare := by unfold brkC; rw [if_pos (.inl ⟨a, b⟩)]
      rw [e1]
      exact brkC_off (by omega) (by omega)
    · rw [brkC_off (p := p) (i := i) (c := gc R i) (by omega) (by omega)]
      unfold brkC
      rw [if_pos (.inr ⟨a, b⟩)]
end Go.Proofs.Ytnefamgjlhdffaa.Lab
