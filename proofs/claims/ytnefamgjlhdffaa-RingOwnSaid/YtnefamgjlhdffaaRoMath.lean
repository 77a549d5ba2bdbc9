/- Rows of cells: plain mathematics. What acts make of whole rows. -/
import Derived.Test.YtnefamgjlhdffaaAtMath
namespace Go.Proofs.Ytnefamgjlhdffaa.Lab
open Go.RowKit

/-- A cell. -/
structure Cel where
  ru : Int
  m0 : Int
  m1 : Int
  k : Int
  a : At
  l : Int
deriving DecidableEq
abbrev Cel.z : Cel := ⟨0, 0, 0, 0, At.zero, 0⟩
abbrev Cls := List Cel
def Cel.bare (c : Cel) : Cel := ⟨0, 0, 0, 0, c.a, c.l⟩
def gc (R : Cls) (i : Nat) : Cel := R.getD i Cel.z
theorem gc_eq {R : Cls} {i : Nat} (h : i < R.length) : gc R i = R[i] := by
  unfold gc
  rw [List.getD_eq_getElem?_getD, List.getElem?_eq_getElem h]
  rfl
theorem gc_out {R : Cls} {i : Nat} (h : R.length ≤ i) : gc R i = Cel.z := by
  unfold gc
  rw [List.getD_eq_getElem?_getD, List.getElem?_eq_none h]
  rfl
theorem ext_gc {R S : Cls} (hl : R.length = S.length) (h : ∀ i, i < R.length → gc R i = gc S i) : R = S := by
  refine List.ext_getElem hl fun i h1 h2 => ?_
  rw [← gc_eq h1, ← gc_eq h2]
  exact h i h1
theorem gc_take {R : Cls} {p i : Nat} (h : i < p) : gc (R.take p) i = gc R i := by
  simp [gc, List.getD_eq_getElem?_getD, h]
theorem gc_drop (R : Cls) (p i : Nat) : gc (R.drop p) i = gc R (p + i) := by
  simp [gc, List.getD_eq_getElem?_getD]
theorem gc_left {A B : Cls} {i : Nat} (h : i < A.length) : gc (A ++ B) i = gc A i := by
  simp [gc, List.getD_eq_getElem?_getD, List.getElem?_append_left h]
theorem gc_right {A B : Cls} {i : Nat} (h : A.length ≤ i) : gc (A ++ B) i = gc B (i - A.length) := by
  simp [gc, List.getD_eq_getElem?_getD, List.getElem?_append_right h]
theorem gc_rep {n i : Nat} {c : Cel} (h : i < n) : gc (List.replicate n c) i = c := by
  simp [gc, List.getD_eq_getElem?_getD, h]
theorem gc_set {R : Cls} {i j : Nat} {c : Cel} (h : i < R.length) : gc (R.set j c) i = if i = j then c else gc R i := by
  rw [gc_eq (by rw [List.length_set]; exact h), List.getElem_set, gc_eq h]
  by_cases e : j = i
  · rw [if_pos e, if_pos e.symm]
  · rw [if_neg e, if_neg (fun h' => e h'.symm)]

/-- Broken at a boundary: each cell by itself (which is the document's, of a whole row). -/
def brkC (p i : Nat) (c : Cel) : Cel := if (i + 1 = p ∧ c.k = 1) ∨ (i = p ∧ c.k = 2) then c.bare else c
def brk (R : Cls) (p : Nat) : Cls := R.mapIdx (fun i c => brkC p i c)
theorem len_brk (R : Cls) (p : Nat) : (brk R p).length = R.length := by simp [brk]
theorem gc_brk {R : Cls} {p i : Nat} (h : i < R.length) : gc (brk R p) i = brkC p i (gc R i) := by
  rw [gc_eq (by rw [len_brk]; exact h), gc_eq h]
  simp [brk]
theorem brkC_l (p i : Nat) (c : Cel) : (brkC p i c).l = c.l ∧ (brkC p i c).a = c.a := by
  unfold brkC
  split <;> exact ⟨rfl, rfl⟩
theorem brkC_k (p i : Nat) (c : Cel) : (brkC p i c).k = c.k ∨ (brkC p i c).k = 0 := by
  unfold brkC
  split
  · exact .inr rfl
  · exact .inl rfl
theorem brkC_off {p i : Nat} {c : Cel} (h : i + 1 ≠ p) (h' : i ≠ p) : brkC p i c = c := by
  unfold brkC
  rw [if_neg]
  rintro (⟨e, _⟩ | ⟨e, _⟩)
  · exact h e
  · exact h' e

/-- A row is whole. -/
def UnitAt (R : Cls) (i : Nat) : Prop :=
  ((gc R i).k = 1 → i + 1 < R.length ∧ (gc R (i + 1)).k = 2 ∧ (gc R (i + 1)).a = (gc R i).a ∧ (gc R (i + 1)).l = (gc R i).l) ∧
  ((gc R i).k = 2 → 0 < i ∧ (gc R (i - 1)).k = 1 ∧ (gc R i).ru = 0 ∧ (gc R i).m0 = 0 ∧ (gc R i).m1 = 0) ∧ 0 ≤ (gc R i).k ∧ (gc R i).k ≤ 2
def Wh (R : Cls) : Prop := ∀ i, i < R.length → UnitAt R i
/-- No pair stands across the boundary. -/
def Cln (R : Cls) (p : Nat) : Prop := ∀ i, i + 1 = p → (gc R i).k ≠ 1
theorem Cln.zero (R : Cls) : Cln R 0 := fun i h => by omega
theorem Wh.end {R : Cls} (h : Wh R) {p : Nat} (hp : R.length ≤ p) : Cln R p := fun i hi hk => by
  by_cases hl : i < R.length
  · have := ((h i hl).1 hk).1
    omega
  · rw [gc_out (by omega)] at hk
    exact absurd hk (by decide)
theorem Wh.right {R : Cls} (h : Wh R) {p : Nat} (hc : Cln R p) : (gc R p).k ≠ 2 := fun hk => by
  by_cases hl : p < R.length
  · obtain ⟨h0, h1, _⟩ := (h p hl).2.1 hk
    exact hc (p - 1) (by omega) h1
  · rw [gc_out (by omega)] at hk
    exact absurd hk (by decide)
theorem Wh.nil : Wh [] := fun i h => by simp at h
theorem Wh.take {R : Cls} (h : Wh R) {p : Nat} (hc : Cln R p) : Wh (R.take p) := by
  intro i hi
  have hip : i < p := by rw [List.length_take] at hi; omega
  have hil : i < R.length := by rw [List.length_take] at hi; omega
  obtain ⟨h1, h2, h3⟩ := h i hil
  unfold UnitAt
  rw [gc_take hip]
  refine ⟨fun hk => ?_, fun hk => ?_, h3⟩
  · obtain ⟨a1, a2⟩ := h1 hk
    have hne : i + 1 ≠ p := fun e => hc i e hk
    rw [gc_take (show i + 1 < p by omega), List.length_take]
    exact ⟨by omega, a2⟩
  · obtain ⟨a1, a2, a3⟩ := h2 hk
    rw [gc_take (show i - 1 < p by omega)]
    exact ⟨a1, a2, a3⟩
theorem Wh.drop {R : Cls} (h : Wh R) {p : Nat} (hc : Cln R p) : Wh (R.drop p) := by
  intro i hi
  rw [List.length_drop] at hi
  obtain ⟨h1, h2, h3⟩ := h (p + i) (by omega)
  unfold UnitAt
  rw [gc_drop, gc_drop, gc_drop, List.length_drop]
  refine ⟨fun hk => ?_, fun hk => ?_, h3⟩
  · obtain ⟨a1, a2⟩ := h1 hk
    exact ⟨by omega, a2⟩
  · obtain ⟨a1, a2, a3⟩ := h2 hk
    have hi0 : 0 < i := by
      rcases Nat.eq_zero_or_pos i with e | e
      · subst e
        exact absurd hk (h.right (by simpa using hc))
      · exact e
    refine ⟨hi0, ?_, a3⟩
    rw [show p + (i - 1) = p + i - 1 by omega]
    exact a2
theorem Wh.append {A B : Cls} (h : Wh A) (k : Wh B) : Wh (A ++ B) := by
  intro i hi
  rw [List.length_append] at hi
  unfold UnitAt
  by_cases hl : i < A.length
  · obtain ⟨h1, h2, h3⟩ := h i hl
    rw [gc_left hl]
    refine ⟨fun hk => ?_, fun hk => ?_, h3⟩
    · obtain ⟨a1, a2⟩ := h1 hk
      rw [gc_left a1, List.length_append]
      exact ⟨by omega, a2⟩
    · obtain ⟨a1, a2⟩ := h2 hk
      rw [gc_left (by omega)]
      exact ⟨a1, a2⟩
  · obtain ⟨h1, h2, h3⟩ := k (i - A.length) (by omega)
    rw [gc_right (show A.length ≤ i by omega), gc_right (show A.length ≤ i + 1 by omega)]
    refine ⟨fun hk => ?_, fun hk => ?_, h3⟩
    · obtain ⟨a1, a2⟩ := h1 hk
      rw [show i + 1 - A.length = i - A.length + 1 by omega, List.length_append]
      exact ⟨by omega, a2⟩
    · obtain ⟨a1, a2⟩ := h2 hk
      rw [gc_right (show A.length ≤ i - 1 by omega), show i - 1 - A.length = i - A.length - 1 by omega]
      exact ⟨by omega, a2⟩
theorem Wh.rep (n : Nat) {c : Cel} (hc : c.k = 0) : Wh (List.replicate n c) := by
  intro i hi
  rw [List.length_replicate] at hi
  unfold UnitAt
  rw [gc_rep hi, hc]
  exact ⟨fun h => absurd h (by decide), fun h => absurd h (by decide), by decide, by decide⟩
theorem Wh.brk {R : Cls} (h : Wh R) (p : Nat) : Wh (Lab.brk R p) := by
  intro i hi
  rw [len_brk] at hi
  obtain ⟨h1, h2, h3⟩ := h i hi
  unfold UnitAt
  rw [gc_brk hi, len_brk]
  by_cases hb : (i + 1 = p ∧ (gc R i).k = 1) ∨ (i = p ∧ (gc R i).k = 2)
  · have e : brkC p i (gc R i) = (gc R i).bare := by unfold brkC; rw [if_pos hb]
    rw [e]
    exact ⟨fun hk => absurd (show (0 : Int) = 1 from hk) (by decide), fun hk => absurd (show (0 : Int) = 2 from hk) (by decide), show (0 : Int) ≤ 0 by decide, show (0 : Int) ≤ 2 by decide⟩
  · have e : brkC p i (gc R i) = gc R i := by unfold brkC; rw [if_neg hb]
    rw [e]
    refine ⟨fun hk => ?_, fun hk => ?_, h3⟩
    · obtain ⟨a1, a2, a3, a4⟩ := h1 hk
      have hne : i + 1 ≠ p := fun e' => hb (.inl ⟨e', hk⟩)
      rw [gc_brk a1]
      have e2 : brkC p (i + 1) (gc R (i + 1)) = gc R (i + 1) := by
        unfold brkC
        rw [if_neg]
        rintro (⟨_, q⟩ | ⟨q, _⟩)
        · rw [a2] at q
          exact absurd q (by decide)
        · exact hne q
      rw [e2]
      exact ⟨a1, a2, a3, a4⟩
    · obtain ⟨a1, a2, a3⟩ := h2 hk
      have hne : i ≠ p := fun e' => hb (.inr ⟨e', hk⟩)
      rw [gc_brk (by omega)]
      have e2 : brkC p (i - 1) (gc R (i - 1)) = gc R (i - 1) := by
        unfold brkC
        rw [if_neg]
        rintro (⟨q, _⟩ | ⟨_, q⟩)
        · exact hne (by omega)
        · rw [a2] at q
          exact absurd q (by decide)
      rw [e2]
      exact ⟨a1, a2, a3⟩
theorem cln_brk (R : Cls) (p : Nat) : Cln (brk R p) p := by
  intro i hi hk
  by_cases hl : i < R.length
  · rw [gc_brk hl] at hk
    unfold brkC at hk
    split at hk
    · exact absurd (show (0 : Int) = 1 from hk) (by decide)
    · rename_i hb
      exact hb (.inl ⟨hi, hk⟩)
  · rw [gc_out (by rw [len_brk]; omega)] at hk
    exact absurd hk (by decide)
theorem Cln.brk {R : Cls} {q : Nat} (h : Cln R q) (p : Nat) : Cln (brk R p) q := by
  intro i hi hk
  by_cases hl : i < R.length
  · rw [gc_brk hl] at hk
    rcases brkC_k p i (gc R i) with e | e
    · rw [e] at hk
      exact h i hi hk
    · rw [e] at hk
      exact absurd hk (by decide)
  · rw [gc_out (by rw [len_brk]; omega)] at hk
    exact absurd hk (by decide)
theorem brk_clean {R : Cls} (h : Wh R) {p : Nat} (hc : Cln R p) : brk R p = R := by
  refine ext_gc (len_brk R p) fun i hi => ?_
  rw [len_brk] at hi
  rw [gc_brk hi]
  unfold brkC
  rw [if_neg]
  rintro (⟨e, hk⟩ | ⟨e, hk⟩)
  · exact hc i e hk
  · subst e
    exact h.right hc hk

/-! ### The acts -/
def newM (n : Nat) (c : Cel) : Cls := List.replicate n c
def blankM (a : At) (l : Int) : Cel := ⟨0, 0, 0, 0, { fg := Cl.zero, bg := a.bg, fl := 0 }, l⟩
/-- A place, a number, within. -/
def inN (n : Int) (most : Nat) : Nat := (max 0 (min n most)).toNat
theorem inN_le (n : Int) (most : Nat) : inN n most ≤ most := by unfold inN; omega
def rightC (c : Cel) : Cel := ⟨0, 0, 0, 2, c.a, c.l⟩
def putM (R : Cls) (i : Int) (c : Cel) (wide : Bool) : Cls :=
  if i < 0 ∨ (R.length : Int) < i + (if wide then 2 else 1) then R
  else if wide then ((brk (brk R i.toNat) (i.toNat + 2)).set (i.toNat + 1) (rightC c)).set i.toNat { c with k := 1 }
  else (brk (brk R i.toNat) (i.toNat + 1)).set i.toNat { c with k := 0 }
def insM (R : Cls) (p n : Nat) (b : Cel) : Cls := (brk (brk R p) (R.length - n)).take p ++ List.replicate n b ++ ((brk (brk R p) (R.length - n)).drop p).take (R.length - n - p)
def insertM (R : Cls) (i n : Int) (b : Cel) : Cls := insM R (inN i R.length) (inN n (R.length - inN i R.length)) b
def delM (R : Cls) (p n : Nat) (b : Cel) : Cls := (brk (brk R p) (p + n)).take p ++ (brk (brk R p) (p + n)).drop (p + n) ++ List.replicate n b
def deleteM (R : Cls) (i n : Int) (b : Cel) : Cls := delM R (inN i R.length) (inN n (R.length - inN i R.length)) b
def eraM (R : Cls) (p q : Nat) (b : Cel) : Cls := if q ≤ p then R else (brk (brk R p) q).take p ++ List.replicate (q - p) b ++ (brk (brk R p) q).drop q
def eraseM (R : Cls) (i j : Int) (b : Cel) : Cls := eraM R (inN i R.length) (inN j R.length) b
def breakM (R : Cls) (i : Int) : Cls := brk R (inN i R.length)
def resM (R : Cls) (n : Nat) (b : Cel) : Cls := if n ≤ R.length then (brk R n).take n else R ++ List.replicate (n - R.length) b
def resizeM (R : Cls) (n : Int) (b : Cel) : Cls := resM R n.toNat b
def raiseC (l : Int) (c : Cel) : Cel := { c with l := max c.l l }
def raiseM (R : Cls) (l : Int) : Cls := R.map (raiseC l)
def levelM (R : Cls) (i j : Int) : Int := ((R.drop (inN i R.length)).take (inN j R.length - inN i R.length)).foldl (fun l c => max l c.l) 0
def markC (c : Cel) (m : Int) : Cel := if c.m0 = 0 then { c with m0 := m } else if c.m1 = 0 then { c with m1 := m } else c
/-- The place of the cell that is marked. -/
def spot (R : Cls) (p : Nat) : Nat := if (gc R p).k = 2 ∧ 0 < p then p - 1 else p
def markP (R : Cls) (p : Nat) (m l : Int) : Cls :=
  if (gc R p).ru = 0 then R else
    let S := R.set p (raiseC l (markC (gc R p) m))
    if (gc R p).k = 1 ∧ p + 1 < R.length then S.set (p + 1) (raiseC l (gc R (p + 1))) else S
def markM (R : Cls) (i : Int) (m l : Int) : Cls := if i < 0 ∨ (R.length : Int) ≤ i then R else markP R (spot R i.toNat) m l

theorem put_wide (R : Cls) (i : Int) (c : Cel) : putM R i c true = if i < 0 ∨ (R.length : Int) < i + 2 then R else ((brk (brk R i.toNat) (i.toNat + 2)).set (i.toNat + 1) (rightC c)).set i.toNat { c with k := 1 } := rfl
theorem put_one (R : Cls) (i : Int) (c : Cel) : putM R i c false = if i < 0 ∨ (R.length : Int) < i + 1 then R else (brk (brk R i.toNat) (i.toNat + 1)).set i.toNat { c with k := 0 } := rfl
theorem len_put (R : Cls) (i : Int) (c : Cel) (wide : Bool) : (putM R i c wide).length = R.length := by
  cases wide
  · rw [put_one]
    split <;> simp [len_brk]
  · rw [put_wide]
    split <;> simp [len_brk]
theorem len_ins {R : Cls} {p n : Nat} (b : Cel) (h : p + n ≤ R.length) : (insM R p n b).length = R.length := by
  unfold insM
  rw [List.length_append, List.length_append, List.length_take, List.length_take, List.length_drop, List.length_replicate, len_brk, len_brk]
  omega
theorem len_del {R : Cls} {p n : Nat} (b : Cel) (h : p + n ≤ R.length) : (delM R p n b).length = R.length := by
  unfold delM
  rw [List.length_append, List.length_append, List.length_take, List.length_drop, List.length_replicate, len_brk, len_brk]
  omega
theorem len_era {R : Cls} {p q : Nat} (b : Cel) (hq : q ≤ R.length) : (eraM R p q b).length = R.length := by
  unfold eraM
  split
  · rfl
  · rw [List.length_append, List.length_append, List.length_take, List.length_drop, List.length_replicate, len_brk, len_brk]
    omega
theorem in2 (R : Cls) (i n : Int) : inN i R.length + inN n (R.length - inN i R.length) ≤ R.length := by
  have h1 := inN_le i R.length
  have h2 := inN_le n (R.length - inN i R.length)
  omega
theorem len_insert (R : Cls) (i n : Int) (b : Cel) : (insertM R i n b).length = R.length := len_ins b (in2 R i n)
theorem len_delete (R : Cls) (i n : Int) (b : Cel) : (deleteM R i n b).length = R.length := len_del b (in2 R i n)
theorem len_erase (R : Cls) (i j : Int) (b : Cel) : (eraseM R i j b).length = R.length := len_era b (inN_le _ _)
theorem len_res (R : Cls) (n : Nat) (b : Cel) : (resM R n b).length = n := by
  unfold resM
  split
  · rw [List.length_take, len_brk]; omega
  · rw [List.length_append, List.length_replicate]; omega
theorem len_raise (R : Cls) (l : Int) : (raiseM R l).length = R.length := by simp [raiseM]
theorem len_markP (R : Cls) (p : Nat) (m l : Int) : (markP R p m l).length = R.length := by
  unfold markP
  split
  · rfl
  · dsimp only
    split <;> simp
theorem len_mark (R : Cls) (i m l : Int) : (markM R i m l).length = R.length := by
  unfold markM
  split
  · rfl
  · exact len_markP _ _ _ _

/-! ### Whole rows stay whole -/
theorem Wh.ins {R : Cls} (h : Wh R) {p n : Nat} {b : Cel} (hb : b.k = 0) (hn : p + n ≤ R.length) : Wh (insM R p n b) := by
  have h1 := (h.brk p).brk (R.length - n)
  have c1 : Cln (Lab.brk (Lab.brk R p) (R.length - n)) p := (cln_brk R p).brk _
  have c2 : Cln (Lab.brk (Lab.brk R p) (R.length - n)) (R.length - n) := cln_brk _ _
  refine ((h1.take c1).append (Wh.rep n hb)).append ((h1.drop c1).take ?_)
  intro i hi hk
  rw [gc_drop] at hk
  exact c2 (p + i) (by omega) hk
theorem Wh.del {R : Cls} (h : Wh R) {p n : Nat} {b : Cel} (hb : b.k = 0) : Wh (delM R p n b) := by
  have h1 := (h.brk p).brk (p + n)
  exact ((h1.take ((cln_brk R p).brk _)).append (h1.drop (cln_brk _ _))).append (Wh.rep n hb)
theorem Wh.era {R : Cls} (h : Wh R) {p q : Nat} {b : Cel} (hb : b.k = 0) : Wh (eraM R p q b) := by
  unfold eraM
  split
  · exact h
  · have h1 := (h.brk p).brk q
    exact ((h1.take ((cln_brk R p).brk _)).append (Wh.rep _ hb)).append (h1.drop (cln_brk _ _))
theorem Wh.res {R : Cls} (h : Wh R) {n : Nat} {b : Cel} (hb : b.k = 0) : Wh (resM R n b) := by
  unfold resM
  split
  · exact (h.brk n).take (cln_brk _ _)
  · exact h.append (Wh.rep _ hb)
/-- A narrow cell set where none but a narrow one, or both halves of a pair, are broken. -/
theorem Wh.one {R : Cls} (h : Wh R) {p : Nat} (hp : p < R.length) (c1 : Cln R p) (c2 : Cln R (p + 1)) {c : Cel} (hc : c.k = 0) : Wh (R.set p c) := by
  have e : R.set p c = R.take p ++ ([c] ++ R.drop (p + 1)) := by
    rw [List.set_eq_take_append_cons_drop, if_pos hp]
    rfl
  rw [e]
  refine (h.take c1).append (Wh.append ?_ (h.drop c2))
  exact Wh.rep 1 hc
theorem Wh.pair {c d : Cel} (hc : c.k = 1) (hd : d = rightC c) : Wh [c, d] := by
  subst hd
  intro i hi
  have hi2 : i = 0 ∨ i = 1 := by simp at hi; omega
  rcases hi2 with rfl | rfl
  · refine ⟨fun _ => ⟨by simp, rfl, rfl, rfl⟩, fun h => ?_, ?_, ?_⟩
    · have h' : c.k = 2 := h
      omega
    · show 0 ≤ c.k
      omega
    · show c.k ≤ 2
      omega
  · exact ⟨fun h => absurd (show (2 : Int) = 1 from h) (by decide), fun _ => ⟨by decide, hc, rfl, rfl, rfl⟩, show (0 : Int) ≤ 2 by decide, show (2 : Int) ≤ 2 by decide⟩
theorem Wh.two {R : Cls} (h : Wh R) {p : Nat} (hp : p + 1 < R.length) (c1 : Cln R p) (c2 : Cln R (p + 2)) {c : Cel} (hc : c.k = 1) : Wh ((R.set (p + 1) (rightC c)).set p c) := by
  have e : (R.set (p + 1) (rightC c)).set p c = R.take p ++ ([c, rightC c] ++ R.drop (p + 2)) := by
    refine ext_gc (by simp; omega) fun i hi => ?_
    have hi' : i < R.length := by simpa using hi
    rw [gc_set (by simpa using hi'), gc_set hi']
    by_cases h1 : i < p
    · rw [if_neg (by omega), if_neg (by omega), gc_left (by rw [List.length_take]; omega), gc_take h1]
    · have hl : (R.take p).length = p := by rw [List.length_take]; omega
      rw [gc_right (by omega), hl]
      by_cases h2 : i = p
      · rw [if_pos h2, h2, Nat.sub_self]
        rfl
      · rw [if_neg h2]
        by_cases h3 : i = p + 1
        · rw [if_pos h3, h3, show p + 1 - p = 1 by omega]
          rfl
        · rw [if_neg h3, gc_right (show [c, rightC c].length ≤ i - p by simp; omega), gc_drop]
          congr 1
          simp
          omega
  rw [e]
  exact (h.take c1).append (Wh.append (Wh.pair hc rfl) (h.drop c2))
theorem Wh.put {R : Cls} (h : Wh R) (i : Int) (c : Cel) (wide : Bool) : Wh (putM R i c wide) := by
  cases wide
  · rw [put_one]
    split
    · exact h
    · have h1 := (h.brk i.toNat).brk (i.toNat + 1)
      exact Wh.one h1 (by rw [len_brk, len_brk]; omega) ((cln_brk _ _).brk _) (cln_brk _ _) rfl
  · rw [put_wide]
    split
    · exact h
    · have h1 := (h.brk i.toNat).brk (i.toNat + 2)
      exact Wh.two h1 (c := { c with k := 1 }) (by rw [len_brk, len_brk]; omega) ((cln_brk _ _).brk _) (cln_brk _ _) rfl
theorem Wh.map {R : Cls} (h : Wh R) (f : Cel → Cel) (hf : ∀ c, (f c).k = c.k ∧ (f c).ru = c.ru ∧ (f c).m0 = c.m0 ∧ (f c).m1 = c.m1 ∧ (f c).a = c.a) (hl : ∀ c d, c.l = d.l → (f c).l = (f d).l) : Wh (R.map f) := by
  intro i hi
  have hi' : i < R.length := by simpa using hi
  have gm : ∀ j, j < R.length → gc (R.map f) j = f (gc R j) := fun j hj => by
    rw [gc_eq (by simpa using hj), gc_eq hj]
    simp
  obtain ⟨h1, h2, h3⟩ := h i hi'
  unfold UnitAt
  rw [gm i hi', List.length_map]
  obtain ⟨f1, f2, f3, f4, f5⟩ := hf (gc R i)
  rw [f1, f2, f3, f4, f5]
  refine ⟨fun hk => ?_, fun hk => ?_, h3⟩
  · obtain ⟨a1, a2, a3, a4⟩ := h1 hk
    rw [gm _ a1, (hf _).1, (hf (gc R (i + 1))).2.2.2.2]
    exact ⟨a1, a2, a3, hl _ _ a4⟩
  · obtain ⟨a1, a2, a3⟩ := h2 hk
    rw [gm _ (by omega), (hf _).1]
    exact ⟨a1, a2, a3⟩
theorem Wh.raise {R : Cls} (h : Wh R) (l : Int) : Wh (raiseM R l) := h.map (raiseC l) (fun c => ⟨rfl, rfl, rfl, rfl, rfl⟩) (fun c d e => by show max c.l l = max d.l l; rw [e])
theorem markC_same (c : Cel) (m : Int) : (markC c m).k = c.k ∧ (markC c m).a = c.a ∧ (markC c m).l = c.l ∧ (markC c m).ru = c.ru := by
  unfold markC
  split
  · exact ⟨rfl, rfl, rfl, rfl⟩
  · split <;> exact ⟨rfl, rfl, rfl, rfl⟩
theorem gc_markP {R : Cls} {p : Nat} (m l : Int) {i : Nat} (hi : i < R.length) (hr : (gc R p).ru ≠ 0) :
    gc (markP R p m l) i = if i = p then raiseC l (markC (gc R p) m) else if (gc R p).k = 1 ∧ i = p + 1 then raiseC l (gc R (p + 1)) else gc R i := by
  unfold markP
  rw [if_neg hr]
  dsimp only
  by_cases hk : (gc R p).k = 1 ∧ p + 1 < R.length
  · rw [if_pos hk, gc_set (by simpa using hi), gc_set hi]
    by_cases h1 : i = p + 1
    · rw [if_pos h1, if_neg (by omega), if_pos ⟨hk.1, h1⟩]
    · rw [if_neg h1]
      by_cases h2 : i = p
      · rw [if_pos h2, if_pos h2]
      · rw [if_neg h2, if_neg h2, if_neg (fun h => h1 h.2)]
  · rw [if_neg hk, gc_set hi]
    by_cases h2 : i = p
    · rw [if_pos h2, if_pos h2]
    · rw [if_neg h2, if_neg h2, if_neg (fun h => hk ⟨h.1, by omega⟩)]
theorem Wh.markP {R : Cls} (h : Wh R) {p : Nat} (hp : p < R.length) (hk : (gc R p).k ≠ 2) (m l : Int) : Wh (Lab.markP R p m l) := by
  by_cases hr : (gc R p).ru = 0
  · unfold Lab.markP
    rw [if_pos hr]
    exact h
  intro i hi
  rw [len_markP] at hi
  have G := fun j (hj : j < R.length) => gc_markP (R := R) (p := p) m l hj hr
  obtain ⟨q1, q2, q3, q4⟩ := markC_same (gc R p) m
  have kk : ∀ j, j < R.length → (gc (Lab.markP R p m l) j).k = (gc R j).k ∧ (gc (Lab.markP R p m l) j).a = (gc R j).a := fun j hj => by
    rw [G j hj]
    split
    · rename_i e
      rw [e]
      exact ⟨q1, q2⟩
    · split
      · rename_i e
        rw [e.2]
        exact ⟨rfl, rfl⟩
      · exact ⟨rfl, rfl⟩
  obtain ⟨h1, h2, h3⟩ := h i hi
  unfold UnitAt
  rw [(kk i hi).1, (kk i hi).2, len_markP]
  refine ⟨fun hk1 => ?_, fun hk2 => ?_, h3⟩
  · obtain ⟨a1, a2, a3, a4⟩ := h1 hk1
    rw [(kk _ a1).1, (kk _ a1).2]
    refine ⟨a1, a2, a3, ?_⟩
    rw [G _ a1, G _ hi]
    by_cases e : i = p
    · subst e
      rw [if_neg (by omega), if_pos ⟨hk1, rfl⟩, if_pos rfl]
      show max (gc R (i + 1)).l l = max (markC (gc R i) m).l l
      rw [q3, a4]
    · rw [if_neg (show ¬ i + 1 = p from fun e' => hk (by rw [← e']; exact a2)), if_neg (fun e' => e (by omega)), if_neg e, if_neg (fun e' => by
        have := e'.2
        subst this
        rw [((h p hp).1 e'.1).2.1] at hk1
        exact absurd hk1 (by decide))]
      exact a4
  · obtain ⟨a1, a2, a3⟩ := h2 hk2
    rw [(kk _ (show i - 1 < R.length by omega)).1]
    refine ⟨a1, a2, ?_⟩
    rw [G _ hi, if_neg (fun e => hk (by rw [← e]; exact hk2))]
    split
    · rename_i e
      rw [← e.2]
      exact a3
    · exact a3
theorem spot_ok {R : Cls} (h : Wh R) {p : Nat} (hp : p < R.length) : spot R p < R.length ∧ (gc R (spot R p)).k ≠ 2 := by
  unfold spot
  by_cases hk : (gc R p).k = 2
  · obtain ⟨a1, a2, _⟩ := (h p hp).2.1 hk
    rw [if_pos ⟨hk, a1⟩]
    exact ⟨by omega, by rw [a2]; decide⟩
  · rw [if_neg (fun e => hk e.1)]
    exact ⟨hp, hk⟩
theorem Wh.mark {R : Cls} (h : Wh R) (i m l : Int) : Wh (markM R i m l) := by
  unfold markM
  split
  · exact h
  · obtain ⟨a1, a2⟩ := spot_ok h (p := i.toNat) (by omega)
    exact h.markP a1 a2 m l
end Go.Proofs.Ytnefamgjlhdffaa.Lab
