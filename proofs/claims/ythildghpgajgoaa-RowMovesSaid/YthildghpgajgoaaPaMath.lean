/- What bytes of parameters tell, byte by byte: plain mathematics. -/
import Derived.Test.YthildghpgajgoaaPaLow
namespace Go.Proofs.Ythildghpgajgoaa.Lab
open Go.RowKit

abbrev Rws := List (List Int)
/-- What has been told: the parameters ahead, the last one's numbers ahead, its last number, and whether what comes is left out. -/
structure PS where
  D : Rws
  r : List Int
  x : Int
  o : Bool
def PS.rows (s : PS) : Rws := s.D ++ [s.r ++ [s.x]]
def PS.start : PS := ⟨[], [], -1, false⟩
def PS.nxt (s : PS) : PS := if s.D.length + 1 = 32 then ⟨s.D, s.r, s.x, true⟩ else ⟨s.D ++ [s.r ++ [s.x]], [], -1, false⟩
def PS.sub (s : PS) : PS := if s.o = true then s else if s.r.length + 1 = 8 then ⟨s.D, s.r, s.x, true⟩ else ⟨s.D, s.r ++ [s.x], -1, false⟩
def PS.dig (s : PS) (c : Nat) : PS := if s.o = true then s else ⟨s.D, s.r, min (10 * max s.x 0 + ((c : Int) - 48)) 65535, false⟩
def PS.byte (s : PS) (c : UInt8) : PS := if c.toNat = 59 then s.nxt else if c.toNat = 58 then s.sub else s.dig c.toNat
/-- Is a byte one of parameters? -/
def good (c : UInt8) : Prop := 48 ≤ c.toNat ∧ c.toNat ≤ 59
instance (c : UInt8) : Decidable (good c) := inferInstanceAs (Decidable (_ ∧ _))

def stepO (s : Option PS) (c : UInt8) : Option PS := some ((s.getD PS.start).byte c)
def rowsO (s : Option PS) : Rws := match s with | none => [] | some s => s.rows
def outO (s : Option PS) : Bool := match s with | none => false | some s => s.o
def runO (l : List UInt8) : Option PS := l.foldl stepO none
/-- The parameters of bytes. -/
def parsed (l : List UInt8) : Rws := rowsO (runO l)

def okRow (r : List Int) : Prop := 1 ≤ r.length ∧ r.length ≤ 8 ∧ ∀ x ∈ r, -1 ≤ x ∧ x ≤ 65535

/-- What the cells hold is the parameters. -/
structure Tied (num : Nat → Int) (sub : Nat → Nat) (R : Rws) : Prop where
  len : R.length ≤ 32
  sub : ∀ i, i < 32 → sub i = (R.getD i []).length
  num : ∀ i j, i < R.length → j < (R.getD i []).length → num (i * 8 + j) = (R.getD i []).getD j 0
  ok : ∀ r ∈ R, okRow r

theorem okRow.snoc {r : List Int} {x : Int} (h : ∀ y ∈ r, -1 ≤ y ∧ y ≤ 65535) (h8 : r.length < 8) (h0 : -1 ≤ x) (h1 : x ≤ 65535) : okRow (r ++ [x]) := by
  refine ⟨by simp, by simp; omega, fun y hy => ?_⟩
  rcases List.mem_append.1 hy with hy | hy
  · exact h y hy
  · simp at hy
    subst hy
    exact ⟨h0, h1⟩

theorem getD_snoc_lt {α : Type} (D : List α) (q d : α) {i : Nat} (h : i < D.length) : (D ++ [q]).getD i d = D.getD i d := by
  simp [List.getD_eq_getElem?_getD, List.getElem?_append_left h]
theorem getD_snoc_eq {α : Type} (D : List α) (q d : α) : (D ++ [q]).getD D.length d = q := by
  simp [List.getD_eq_getElem?_getD]
theorem getD_snoc_gt {α : Type} (D : List α) (q d : α) {i : Nat} (h : D.length < i) : (D ++ [q]).getD i d = d := by
  rw [List.getD_eq_getElem?_getD, List.getElem?_eq_none (by simp; omega)]
  rfl

theorem Tied.none {num : Nat → Int} {sub : Nat → Nat} (h : ∀ i, i < 32 → sub i = 0) : Tied num sub [] :=
  ⟨by simp, fun i hi => by simp [h i hi], fun i j hi => by simp at hi, fun r hr => by simp at hr⟩

theorem Tied.next {num : Nat → Int} {sub : Nat → Nat} {R : Rws} (h : Tied num sub R) (hl : R.length < 32) : sub R.length = 0 ∧ Tied (upd num (R.length * 8 + 0) (-1)) (upd sub R.length (0 + 1)) (R ++ [[-1]]) := by
  refine ⟨by rw [h.sub _ hl, List.getD_eq_getElem?_getD]; simp, by simp; omega, fun i hi => ?_, fun i j hi hj => ?_, fun r hr => ?_⟩
  · rcases Nat.lt_trichotomy i R.length with e | e | e
    · rw [upd_other _ _ (by omega), getD_snoc_lt _ _ _ e, h.sub i hi]
    · subst e
      rw [upd_same, getD_snoc_eq]
      rfl
    · rw [upd_other _ _ (by omega), getD_snoc_gt _ _ _ e, h.sub i hi, List.getD_eq_getElem?_getD, List.getElem?_eq_none (by omega)]
      rfl
  · have hi' : i < R.length + 1 := by simpa using hi
    rcases Nat.lt_trichotomy i R.length with e | e | e
    · rw [getD_snoc_lt _ _ _ e] at hj ⊢
      have : (R.getD i []).length ≤ 8 := (h.ok _ (by rw [List.getD_eq_getElem?_getD, List.getElem?_eq_getElem e]; exact List.getElem_mem e)).2.1
      rw [upd_other _ _ (by omega), h.num i j e hj]
    · subst e
      rw [getD_snoc_eq] at hj ⊢
      obtain rfl : j = 0 := by simp at hj; omega
      rw [upd_same]
      rfl
    · omega
  · rcases List.mem_append.1 hr with hr | hr
    · exact h.ok r hr
    · simp at hr
      subst hr
      exact ⟨by simp, by simp, by simp⟩

theorem getD_mem {α : Type} {R : List α} {i : Nat} (d : α) (h : i < R.length) : R.getD i d ∈ R := by
  rw [List.getD_eq_getElem?_getD, List.getElem?_eq_getElem h]; exact List.getElem_mem h

theorem Tied.sub_at {num : Nat → Int} {sub : Nat → Nat} {D : Rws} {q : List Int} (h : Tied num sub (D ++ [q])) : sub D.length = q.length ∧ D.length < 32 ∧ okRow q := by
  have hl := h.len
  simp at hl
  refine ⟨by rw [h.sub _ (by omega), getD_snoc_eq], by omega, h.ok q (by simp)⟩

theorem Tied.more {num : Nat → Int} {sub : Nat → Nat} {D : Rws} {q : List Int} (h : Tied num sub (D ++ [q])) (h8 : q.length < 8) (x : Int) (x0 : -1 ≤ x) (x1 : x ≤ 65535) : Tied (upd num (D.length * 8 + q.length) x) (upd sub D.length (q.length + 1)) (D ++ [q ++ [x]]) := by
  have hl := h.len
  simp at hl
  refine ⟨by simp; omega, fun i hi => ?_, fun i j hi hj => ?_, fun r hr => ?_⟩
  · rcases Nat.lt_trichotomy i D.length with e | e | e
    · rw [upd_other _ _ (by omega), getD_snoc_lt _ _ _ e, h.sub i hi, getD_snoc_lt _ _ _ e]
    · subst e
      rw [upd_same, getD_snoc_eq]
      simp
    · rw [upd_other _ _ (by omega), getD_snoc_gt _ _ _ e, h.sub i hi, getD_snoc_gt _ _ _ e]
  · have hi' : i < D.length + 1 := by simpa using hi
    rcases Nat.lt_trichotomy i D.length with e | e | e
    · rw [getD_snoc_lt _ _ _ e] at hj ⊢
      have : (D.getD i []).length ≤ 8 := (h.ok _ (List.mem_append_left _ (getD_mem [] e))).2.1
      have := h.num i j (by simp; omega) (by rw [getD_snoc_lt _ _ _ e]; exact hj)
      rw [getD_snoc_lt _ _ _ e] at this
      rw [upd_other _ _ (by omega), this]
    · subst e
      rw [getD_snoc_eq] at hj ⊢
      have hj' : j < q.length + 1 := by simpa using hj
      by_cases e : j = q.length
      · subst e
        rw [upd_same, getD_snoc_eq]
      · have := h.num D.length j (by simp) (by rw [getD_snoc_eq]; omega)
        rw [getD_snoc_eq] at this
        rw [upd_other _ _ (by omega), this, getD_snoc_lt _ _ _ (by omega)]
    · omega
  · rcases List.mem_append.1 hr with hr | hr
    · exact h.ok r (List.mem_append_left _ hr)
    · simp at hr
      subst hr
      exact okRow.snoc (h.ok q (by simp)).2.2 h8 x0 x1

theorem Tied.dig {num : Nat → Int} {sub : Nat → Nat} {D : Rws} {q : List Int} {x : Int} (h : Tied num sub (D ++ [q ++ [x]])) (y : Int) (y0 : -1 ≤ y) (y1 : y ≤ 65535) :
    num (D.length * 8 + q.length) = x ∧ sub D.length = q.length + 1 ∧ D.length < 32 ∧ q.length < 8 ∧ -1 ≤ x ∧ x ≤ 65535 ∧ Tied (upd num (D.length * 8 + q.length) y) sub (D ++ [q ++ [y]]) := by
  have hl := h.len
  simp at hl
  have ⟨_, h8, hx⟩ := h.ok (q ++ [x]) (by simp)
  simp at h8
  have hx1 := hx x (by simp)
  have n1 := h.num D.length q.length (by simp) (by rw [getD_snoc_eq]; simp)
  rw [getD_snoc_eq, getD_snoc_eq] at n1
  have s1 := h.sub_at.1
  refine ⟨n1, by rw [s1]; simp, by omega, by omega, hx1.1, hx1.2, by simp; omega, fun i hi => ?_, fun i j hi hj => ?_, fun r hr => ?_⟩
  · rw [h.sub i hi]
    rcases Nat.lt_trichotomy i D.length with e | e | e
    · rw [getD_snoc_lt _ _ _ e, getD_snoc_lt _ _ _ e]
    · subst e
      rw [getD_snoc_eq, getD_snoc_eq]
      simp
    · rw [getD_snoc_gt _ _ _ e, getD_snoc_gt _ _ _ e]
  · have hi' : i < D.length + 1 := by simpa using hi
    rcases Nat.lt_trichotomy i D.length with e | e | e
    · rw [getD_snoc_lt _ _ _ e] at hj ⊢
      have : (D.getD i []).length ≤ 8 := (h.ok _ (List.mem_append_left _ (getD_mem [] e))).2.1
      have := h.num i j (by simp; omega) (by rw [getD_snoc_lt _ _ _ e]; exact hj)
      rw [getD_snoc_lt _ _ _ e] at this
      rw [upd_other _ _ (by omega), this]
    · subst e
      rw [getD_snoc_eq] at hj ⊢
      have hj' : j < q.length + 1 := by simpa using hj
      by_cases e : j = q.length
      · subst e
        rw [upd_same, getD_snoc_eq]
      · have := h.num D.length j (by simp) (by rw [getD_snoc_eq]; simp; omega)
        rw [getD_snoc_eq, getD_snoc_lt _ _ _ (by omega)] at this
        rw [upd_other _ _ (by omega), this, getD_snoc_lt _ _ _ (by omega)]
    · omega
  · rcases List.mem_append.1 hr with hr | hr
    · exact h.ok r (List.mem_append_left _ hr)
    · simp at hr
      subst hr
      exact okRow.snoc (fun y hy => hx y (by simp [hy])) (by omega) y0 y1

/-- The list lies in block B. -/
def LAt (w : World) (B : Nat) (s : Option PS) : Prop := ∃ num sub, Low w B num sub (rowsO s).length (outO s) ∧ Tied num sub (rowsO s)
theorem LAt.lt {w : World} {B : Nat} {s : Option PS} (h : LAt w B s) : B < w.heap.size := by obtain ⟨_, _, h, _⟩ := h; exact h.lt
theorem LAt.same {w w' : World} {B : Nat} {s : Option PS} (h : LAt w B s) (hb : w'.heap[B]? = w.heap[B]?) : LAt w' B s := by
  obtain ⟨a, b, h, t⟩ := h
  exact ⟨a, b, h.same hb, t⟩
theorem LAt.below {w w' : World} {B : Nat} {s : Option PS} (h : LAt w B s) (hb : Below w.heap.size w w') : LAt w' B s := h.same (hb.block B h.lt)
end Go.Proofs.Ythildghpgajgoaa.Lab
