/- A region that draws, taken by hand: an operation is found in the list as it is written, so that the frame behind it can be laid out. A list of parameters in memory, cell by cell: 256 numbers, how many each parameter has, how many parameters, and whether what comes is left out. What bytes of parameters tell, byte by byte: plain mathematics. What parameters make of an attribute: plain mathematics. -/
import Derived.WalkKit
import Derived.Deep.RegionHeld
import Derived.BigRegion
import Derived.BigQuiet
import Derived.Deep.QuietTactic
import Derived.IntWalk
import Derived.Below
import Derived.Lib.Hide
import Derived.Maps.RangeWalk
namespace Go.Proofs.Ytjdfinimbdcmbaa.Lab
open Go Go.RowKit

open Go

def opAtL : List Oper → Nat → Option Oper
  | [], _ => none
  | o :: _, 0 => some o
  | _ :: l, n + 1 => opAtL l n

theorem opAtL_eq : ∀ (L : List Oper) (i : Nat), L.toArray[i]? = opAtL L i
  | [], i => by simp [opAtL]
  | o :: l, 0 => by simp [opAtL]
  | o :: l, n + 1 => by
    have := opAtL_eq l n
    simp only [List.getElem?_toArray] at this
    simp [opAtL, this]

section
variable {P : Program} {L : List Oper} {Q : Exit → Act → World → Prop} {md : Region.Mode} {S : World → Prop}

theorem take_at {i : Nat} {oi : Oper} {v : Value} {fuel : Nat} {listed : Array Bool} {a : Act} {w : World} (hi : opAtL L i = some oi)
    (hs : Region.noSelect L.toArray = true) (hf : Region.free md L.toArray listed i = true) (hr : (Region.ready md L.toArray listed).contains i = true)
    (hQ : ∀ c a w, Q (.panic c) (a.put oi.dst v) w → Q (.panic c) a w) (hw : Region.wanted oi (yielded L.toArray a.tmps) = true) (hS : S w) (hy : ∀ w, S w → (execOp a.eval oi).run P w = .ok (.value v) w)
    (h : wpAnyH P md L.toArray Q S fuel (listed.setIfInBounds i true) (a.put oi.dst v) w) : wpAnyH P md L.toArray Q S (fuel + 1) listed a w :=
  wpAnyH_take ((opAtL_eq L i).trans hi) hs hf hr hQ (Or.inl ⟨hw, hy⟩) hS h

theorem skip_at {i : Nat} {oi : Oper} {fuel : Nat} {listed : Array Bool} {a : Act} {w : World} (hi : opAtL L i = some oi)
    (hs : Region.noSelect L.toArray = true) (hf : Region.free md L.toArray listed i = true) (hr : (Region.ready md L.toArray listed).contains i = true)
    (hQ : ∀ c a w, Q (.panic c) (a.put oi.dst undef) w → Q (.panic c) a w) (hw : Region.wanted oi (yielded L.toArray a.tmps) = false) (hS : S w)
    (h : wpAnyH P md L.toArray Q S fuel (listed.setIfInBounds i true) (a.put oi.dst undef) w) : wpAnyH P md L.toArray Q S (fuel + 1) listed a w :=
  wpAnyH_take ((opAtL_eq L i).trans hi) hs hf hr hQ (Or.inr ⟨hw, rfl⟩) hS h

theorem tk (i : Nat) {oi : Oper} {v : Value} {fuel : Nat} {listed : Array Bool} {a : Act} {w : World} (hi : opAtL L i = some oi)
    (hy : ∀ w, S w → (execOp a.eval oi).run P w = .ok (.value v) w) (h : wpAnyH P md L.toArray Q S fuel (listed.setIfInBounds i true) (a.put oi.dst v) w)
    (hs : Region.noSelect L.toArray = true := by kernel_rfl) (hf : Region.free md L.toArray listed i = true := by kernel_rfl) (hr : (Region.ready md L.toArray listed).contains i = true := by kernel_rfl)
    (hw : Region.wanted oi (yielded L.toArray a.tmps) = true := by kernel_rfl) (hS : S w := by assumption)
    (hQ : ∀ c a w, Q (.panic c) (a.put oi.dst v) w → Q (.panic c) a w := by exact fun _ _ _ h => h) : wpAnyH P md L.toArray Q S (fuel + 1) listed a w :=
  take_at hi hs hf hr hQ hw hS hy h
theorem ta (i : Nat) {oi : Oper} {v : Value} {fuel : Nat} {listed : Array Bool} {a : Act} {w : World} (hi : opAtL L i = some oi)
    (hy : ∀ w, S w → (execOp a.eval oi).run P w = .ok (.value v) w) (h : wpAnyH P md L.toArray Q S fuel (listed.setIfInBounds i true) (a.put oi.dst v) w)
    (hs : Region.noSelect L.toArray = true := by as_aux_lemma => kernel_rfl) (hf : Region.free md L.toArray listed i = true := by as_aux_lemma => kernel_rfl) (hr : (Region.ready md L.toArray listed).contains i = true := by as_aux_lemma => kernel_rfl)
    (hw : Region.wanted oi (yielded L.toArray a.tmps) = true := by as_aux_lemma => kernel_rfl) (hS : S w := by assumption)
    (hQ : ∀ c a w, Q (.panic c) (a.put oi.dst v) w → Q (.panic c) a w := by exact fun _ _ _ h => h) : wpAnyH P md L.toArray Q S (fuel + 1) listed a w :=
  take_at hi hs hf hr hQ hw hS hy h
theorem sk (i : Nat) {oi : Oper} {fuel : Nat} {listed : Array Bool} {a : Act} {w : World} (hi : opAtL L i = some oi)
    (h : wpAnyH P md L.toArray Q S fuel (listed.setIfInBounds i true) (a.put oi.dst undef) w)
    (hs : Region.noSelect L.toArray = true := by kernel_rfl) (hf : Region.free md L.toArray listed i = true := by kernel_rfl) (hr : (Region.ready md L.toArray listed).contains i = true := by kernel_rfl)
    (hw : Region.wanted oi (yielded L.toArray a.tmps) = false := by kernel_rfl) (hS : S w := by assumption)
    (hQ : ∀ c a w, Q (.panic c) (a.put oi.dst undef) w → Q (.panic c) a w := by exact fun _ _ _ h => h) : wpAnyH P md L.toArray Q S (fuel + 1) listed a w :=
  skip_at hi hs hf hr hQ hw hS h
theorem sa (i : Nat) {oi : Oper} {fuel : Nat} {listed : Array Bool} {a : Act} {w : World} (hi : opAtL L i = some oi)
    (h : wpAnyH P md L.toArray Q S fuel (listed.setIfInBounds i true) (a.put oi.dst undef) w)
    (hs : Region.noSelect L.toArray = true := by as_aux_lemma => kernel_rfl) (hf : Region.free md L.toArray listed i = true := by as_aux_lemma => kernel_rfl) (hr : (Region.ready md L.toArray listed).contains i = true := by as_aux_lemma => kernel_rfl)
    (hw : Region.wanted oi (yielded L.toArray a.tmps) = false := by as_aux_lemma => kernel_rfl) (hS : S w := by assumption)
    (hQ : ∀ c a w, Q (.panic c) (a.put oi.dst undef) w → Q (.panic c) a w := by exact fun _ _ _ h => h) : wpAnyH P md L.toArray Q S (fuel + 1) listed a w :=
  skip_at hi hs hf hr hQ hw hS h

/-- One operation alone may come up, and is wanted. -/
theorem do_at {i : Nat} {oi : Oper} {fuel : Nat} {listed : Array Bool} {a : Act} {w : World} (hi : opAtL L i = some oi) (hr : Region.ready md L.toArray listed = [i])
    (hw : Region.wanted oi (yielded L.toArray a.tmps) = true)
    (h : ∀ K' : Act → World → Prop, Shut (∀ a w, S w → (S w → wpAnyH P md L.toArray Q S fuel (listed.setIfInBounds i true) a w) → K' a w) → Oper.wp P oi a w K' Q) :
    wpAnyH P md L.toArray Q S (fuel + 1) listed a w :=
  wpAnyH_ready hr (by simp) (AllReadyH.cons ((opAtL_eq L i).trans hi) (fun K hK => by rw [if_pos hw]; exact h K hK) AllReadyH.nil)

/-- Two operations may come up, both wanted. -/
theorem two_at {i j : Nat} {oi oj : Oper} {fuel : Nat} {listed : Array Bool} {a : Act} {w : World} (hi : opAtL L i = some oi) (hj : opAtL L j = some oj) (hr : Region.ready md L.toArray listed = [i, j])
    (hwi : Region.wanted oi (yielded L.toArray a.tmps) = true) (hwj : Region.wanted oj (yielded L.toArray a.tmps) = true)
    (h : ∀ K' : Act → World → Prop, Shut (∀ a w, S w → (S w → wpAnyH P md L.toArray Q S fuel (listed.setIfInBounds i true) a w) → K' a w) → Oper.wp P oi a w K' Q)
    (h' : ∀ K' : Act → World → Prop, Shut (∀ a w, S w → (S w → wpAnyH P md L.toArray Q S fuel (listed.setIfInBounds j true) a w) → K' a w) → Oper.wp P oj a w K' Q) :
    wpAnyH P md L.toArray Q S (fuel + 1) listed a w :=
  wpAnyH_ready hr (by simp) (AllReadyH.cons ((opAtL_eq L i).trans hi) (fun K hK => by rw [if_pos hwi]; exact h K hK) (AllReadyH.cons ((opAtL_eq L j).trans hj) (fun K hK => by rw [if_pos hwj]; exact h' K hK) AllReadyH.nil))
end

open Go.RowKit

def upd {α : Type} (f : Nat → α) (k : Nat) (x : α) : Nat → α := fun i => if i = k then x else f i
theorem upd_same {α : Type} (f : Nat → α) (k : Nat) (x : α) : upd f k x k = x := by simp [upd]
theorem upd_other {α : Type} (f : Nat → α) {k i : Nat} (x : α) (h : i ≠ k) : upd f k x i = f i := by simp [upd, h]

theorem cell_far {w : World} {B i k : Nat} {v : Value} (h : k ≠ i) : (w.setCell ⟨B, k, none⟩ v).cell? ⟨B, i, none⟩ = w.cell? ⟨B, i, none⟩ :=
  World.cell?_setCell_other _ _ _ _ (fun e => h (by injection e))

/-- The list's cells. -/
structure Low (w : World) (B : Nat) (num : Nat → Int) (sub : Nat → Nat) (n : Nat) (o : Bool) : Prop where
  cn : ∀ k, k < 256 → w.cell? ⟨B, k, none⟩ = some (.int .i64 (num k))
  cs : ∀ k, k < 32 → w.cell? ⟨B, 256 + k, none⟩ = some (.int .i64 (sub k))
  cp : w.cell? ⟨B, 288, none⟩ = some (.int .i64 n)
  co : w.cell? ⟨B, 289, none⟩ = some (.bool o)
  fr : ∀ k, w.frozen? ⟨B, k, none⟩ = false

theorem Low.lt {w : World} {B n : Nat} {num : Nat → Int} {sub : Nat → Nat} {o : Bool} (h : Low w B num sub n o) : B < w.heap.size := World.block_lt_of_cell? (a := ⟨B, 289, none⟩) w h.co

theorem Low.same {w w' : World} {B n : Nat} {num : Nat → Int} {sub : Nat → Nat} {o : Bool} (h : Low w B num sub n o) (hb : w'.heap[B]? = w.heap[B]?) : Low w' B num sub n o := by
  have c : ∀ i, w'.cell? ⟨B, i, none⟩ = w.cell? ⟨B, i, none⟩ := fun i => World.cell?_of_block hb
  have f : ∀ i, w'.frozen? ⟨B, i, none⟩ = w.frozen? ⟨B, i, none⟩ := fun i => World.frozen?_of_block hb
  exact ⟨fun k hk => (c k).trans (h.cn k hk), fun k hk => (c _).trans (h.cs k hk), (c _).trans h.cp, (c _).trans h.co, fun k => (f k).trans (h.fr k)⟩
theorem Low.below {w w' : World} {B n : Nat} {num : Nat → Int} {sub : Nat → Nat} {o : Bool} (h : Low w B num sub n o) (hb : Below w.heap.size w w') : Low w' B num sub n o := h.same (hb.block B h.lt)
theorem Low.drew {w : World} {B n : Nat} {num : Nat → Int} {sub : Nat → Nat} {o : Bool} (h : Low w B num sub n o) : Low w.drew B num sub n o := h.same rfl
theorem Low.drewN {w : World} {B n : Nat} {num : Nat → Int} {sub : Nat → Nat} {o : Bool} (h : Low w B num sub n o) (q : Nat) : Low (w.drewN q) B num sub n o := by
  induction q with
  | zero => exact h
  | succ q ih => exact ih.drew

theorem Low.setNum {w : World} {B n : Nat} {num : Nat → Int} {sub : Nat → Nat} {o : Bool} (h : Low w B num sub n o) (k : Nat) (hk : k < 256) (x : Int) : Low (w.setCell ⟨B, k, none⟩ (.int .i64 x)) B (upd num k x) sub n o := by
  refine ⟨fun i hi => ?_, fun i hi => ?_, ?_, ?_, fun i => ?_⟩
  · by_cases e : i = k
    · subst e
      rw [upd_same]
      exact World.cell?_setCell_same _ _ _ (h.cn i hi)
    · rw [upd_other _ _ e, cell_far (by omega)]
      exact h.cn i hi
  · rw [cell_far (by omega)]
    exact h.cs i hi
  · rw [cell_far (by omega)]
    exact h.cp
  · rw [cell_far (by omega)]
    exact h.co
  · rw [World.frozen?_setCell]
    exact h.fr i
theorem Low.setSub {w : World} {B n : Nat} {num : Nat → Int} {sub : Nat → Nat} {o : Bool} (h : Low w B num sub n o) (k : Nat) (hk : k < 32) (x : Nat) : Low (w.setCell ⟨B, 256 + k, none⟩ (.int .i64 x)) B num (upd sub k x) n o := by
  refine ⟨fun i hi => ?_, fun i hi => ?_, ?_, ?_, fun i => ?_⟩
  · rw [cell_far (by omega)]
    exact h.cn i hi
  · by_cases e : i = k
    · subst e
      rw [upd_same]
      exact World.cell?_setCell_same _ _ _ (h.cs i hi)
    · rw [upd_other _ _ e, cell_far (by omega)]
      exact h.cs i hi
  · rw [cell_far (by omega)]
    exact h.cp
  · rw [cell_far (by omega)]
    exact h.co
  · rw [World.frozen?_setCell]
    exact h.fr i
theorem Low.setN {w : World} {B n : Nat} {num : Nat → Int} {sub : Nat → Nat} {o : Bool} (h : Low w B num sub n o) (x : Nat) : Low (w.setCell ⟨B, 288, none⟩ (.int .i64 x)) B num sub x o := by
  refine ⟨fun i hi => ?_, fun i hi => ?_, ?_, ?_, fun i => ?_⟩
  · rw [cell_far (by omega)]
    exact h.cn i hi
  · rw [cell_far (by omega)]
    exact h.cs i hi
  · exact World.cell?_setCell_same _ _ _ h.cp
  · rw [cell_far (by omega)]
    exact h.co
  · rw [World.frozen?_setCell]
    exact h.fr i
theorem Low.setO {w : World} {B n : Nat} {num : Nat → Int} {sub : Nat → Nat} {o : Bool} (h : Low w B num sub n o) (x : Bool) : Low (w.setCell ⟨B, 289, none⟩ (.bool x)) B num sub n x := by
  refine ⟨fun i hi => ?_, fun i hi => ?_, ?_, ?_, fun i => ?_⟩
  · rw [cell_far (by omega)]
    exact h.cn i hi
  · rw [cell_far (by omega)]
    exact h.cs i hi
  · rw [cell_far (by omega)]
    exact h.cp
  · exact World.cell?_setCell_same _ _ _ h.co
  · rw [World.frozen?_setCell]
    exact h.fr i

/-- Nothing but block B has turned. -/
abbrev But (B : Nat) (w w' : World) : Prop := w.grownBy w' (some B)
theorem But.refl (B : Nat) (w : World) : But B w w := ⟨rfl, rfl, rfl, Nat.le_refl _, fun _ _ _ => rfl⟩
theorem But.trans {B : Nat} {a b c : World} (h : But B a b) (k : But B b c) : But B a c :=
  ⟨k.os.trans h.os, k.tape.trans h.tape, k.output.trans h.output, Nat.le_trans h.size k.size, fun i hi hn => (k.block i (Nat.lt_of_lt_of_le hi h.size) hn).trans (h.block i hi hn)⟩
theorem But.of {B : Nat} {a b : World} (h : Below a.heap.size a b) : But B a b := ⟨h.os, h.tape, h.output, h.size, fun i hi _ => h.block i hi⟩
theorem But.set (w : World) (B k : Nat) (v : Value) : But B w (w.setCell ⟨B, k, none⟩ v) :=
  ⟨rfl, rfl, rfl, by simp, fun i hi hn => Below.heap_setCell _ _ _ _ (by simpa using hn)⟩
theorem But.drew {B : Nat} {a b : World} (h : But B a b) : But B a b.drew := ⟨h.os, h.tape, h.output, h.size, h.block⟩
theorem But.drewN {B : Nat} {a b : World} (h : But B a b) (q : Nat) : But B a (b.drewN q) := by
  induction q with
  | zero => exact h
  | succ q ih => exact ih.drew
theorem But.below {B C : Nat} {a b : World} (h : But B a b) (hB : C ≤ B) (hC : C ≤ a.heap.size) : Below C a b :=
  ⟨h.os, h.tape, h.output, h.size, fun i hi => h.block i (by omega) (by simp; omega)⟩

open Go.RowKit

abbrev Rws := List (List Int)
/-- What has been told: the parameters ahead, the last one's numbers ahead, its last number, and whether what comes is left out. -/
structure PS where
  D : Rws
  r : List Int
  x : Int
  o : Bool
def PS.rows (s : PS) : Rws := s.D ++ [s.r ++ [s.x]]
def PS.start : PS := ⟨[], [], -1, false⟩
def PS.nxt (s : PS) : PS := if s.D.length + 1 = 32 then ⟨s.D, s.r, s.x, true⟩ else ⟨s.D ++ [s.r ++ [s.x]], [], -1, false⟩
def PS.sub (s : PS) : PS := if s.o = true then s else if s.r.length + 1 = 8 then ⟨s.D, s.r, s.x, true⟩ else ⟨s.D, s.r ++ [s.x], -1, false⟩
def PS.dig (s : PS) (c : Nat) : PS := if s.o = true then s else ⟨s.D, s.r, min (10 * max s.x 0 + ((c : Int) - 48)) 65535, false⟩
def PS.byte (s : PS) (c : UInt8) : PS := if c.toNat = 59 then s.nxt else if c.toNat = 58 then s.sub else s.dig c.toNat
/-- Is a byte one of parameters? -/
def good (c : UInt8) : Prop := 48 ≤ c.toNat ∧ c.toNat ≤ 59
instance (c : UInt8) : Decidable (good c) := inferInstanceAs (Decidable (_ ∧ _))

def stepO (s : Option PS) (c : UInt8) : Option PS := some ((s.getD PS.start).byte c)
def rowsO (s : Option PS) : Rws := match s with | none => [] | some s => s.rows
def outO (s : Option PS) : Bool := match s with | none => false | some s => s.o
def runO (l : List UInt8) : Option PS := l.foldl stepO none
/-- The parameters of bytes. -/
def parsed (l : List UInt8) : Rws := rowsO (runO l)

def okRow (r : List Int) : Prop := 1 ≤ r.length ∧ r.length ≤ 8 ∧ ∀ x ∈ r, -1 ≤ x ∧ x ≤ 65535

/-- What the cells hold is the parameters. -/
structure Tied (num : Nat → Int) (sub : Nat → Nat) (R : Rws) : Prop where
  len : R.length ≤ 32
  sub : ∀ i, i < 32 → sub i = (R.getD i []).length
  num : ∀ i j, i < R.length → j < (R.getD i []).length → num (i * 8 + j) = (R.getD i []).getD j 0
  ok : ∀ r ∈ R, okRow r

theorem okRow.snoc {r : List Int} {x : Int} (h : ∀ y ∈ r, -1 ≤ y ∧ y ≤ 65535) (h8 : r.length < 8) (h0 : -1 ≤ x) (h1 : x ≤ 65535) : okRow (r ++ [x]) := by
  refine ⟨by simp, by simp; omega, fun y hy => ?_⟩
  rcases List.mem_append.1 hy with hy | hy
  · exact h y hy
  · simp at hy
    subst hy
    exact ⟨h0, h1⟩

theorem getD_snoc_lt {α : Type} (D : List α) (q d : α) {i : Nat} (h : i < D.length) : (D ++ [q]).getD i d = D.getD i d := by
  simp [List.getD_eq_getElem?_getD, List.getElem?_append_left h]
theorem getD_snoc_eq {α : Type} (D : List α) (q d : α) : (D ++ [q]).getD D.length d = q := by
  simp [List.getD_eq_getElem?_getD]
theorem getD_snoc_gt {α : Type} (D : List α) (q d : α) {i : Nat} (h : D.length < i) : (D ++ [q]).getD i d = d := by
  rw [List.getD_eq_getElem?_getD, List.getElem?_eq_none (by simp; omega)]
  rfl

theorem Tied.none {num : Nat → Int} {sub : Nat → Nat} (h : ∀ i, i < 32 → sub i = 0) : Tied num sub [] :=
  ⟨by simp, fun i hi => by simp [h i hi], fun i j hi => by simp at hi, fun r hr => by simp at hr⟩

theorem Tied.next {num : Nat → Int} {sub : Nat → Nat} {R : Rws} (h : Tied num sub R) (hl : R.length < 32) : sub R.length = 0 ∧ Tied (upd num (R.length * 8 + 0) (-1)) (upd sub R.length (0 + 1)) (R ++ [[-1]]) := by
  refine ⟨by rw [h.sub _ hl, List.getD_eq_getElem?_getD]; simp, by simp; omega, fun i hi => ?_, fun i j hi hj => ?_, fun r hr => ?_⟩
  · rcases Nat.lt_trichotomy i R.length with e | e | e
    · rw [upd_other _ _ (by omega), getD_snoc_lt _ _ _ e, h.sub i hi]
    · subst e
      rw [upd_same, getD_snoc_eq]
      rfl
    · rw [upd_other _ _ (by omega), getD_snoc_gt _ _ _ e, h.sub i hi, List.getD_eq_getElem?_getD, List.getElem?_eq_none (by omega)]
      rfl
  · have hi' : i < R.length + 1 := by simpa using hi
    rcases Nat.lt_trichotomy i R.length with e | e | e
    · rw [getD_snoc_lt _ _ _ e] at hj ⊢
      have : (R.getD i []).length ≤ 8 := (h.ok _ (by rw [List.getD_eq_getElem?_getD, List.getElem?_eq_getElem e]; exact List.getElem_mem e)).2.1
      rw [upd_other _ _ (by omega), h.num i j e hj]
    · subst e
      rw [getD_snoc_eq] at hj ⊢
      obtain rfl : j = 0 := by simp at hj; omega
      rw [upd_same]
      rfl
    · omega
  · rcases List.mem_append.1 hr with hr | hr
    · exact h.ok r hr
    · simp at hr
      subst hr
      exact ⟨by simp, by simp, by simp⟩

theorem getD_mem {α : Type} {R : List α} {i : Nat} (d : α) (h : i < R.length) : R.getD i d ∈ R := by
  rw [List.getD_eq_getElem?_getD, List.getElem?_eq_getElem h]; exact List.getElem_mem h

theorem Tied.sub_at {num : Nat → Int} {sub : Nat → Nat} {D : Rws} {q : List Int} (h : Tied num sub (D ++ [q])) : sub D.length = q.length ∧ D.length < 32 ∧ okRow q := by
  have hl := h.len
  simp at hl
  refine ⟨by rw [h.sub _ (by omega), getD_snoc_eq], by omega, h.ok q (by simp)⟩

theorem Tied.more {num : Nat → Int} {sub : Nat → Nat} {D : Rws} {q : List Int} (h : Tied num sub (D ++ [q])) (h8 : q.length < 8) (x : Int) (x0 : -1 ≤ x) (x1 : x ≤ 65535) : Tied (upd num (D.length * 8 + q.length) x) (upd sub D.length (q.length + 1)) (D ++ [q ++ [x]]) := by
  have hl := h.len
  simp at hl
  refine ⟨by simp; omega, fun i hi => ?_, fun i j hi hj => ?_, fun r hr => ?_⟩
  · rcases Nat.lt_trichotomy i D.length with e | e | e
    · rw [upd_other _ _ (by omega), getD_snoc_lt _ _ _ e, h.sub i hi, getD_snoc_lt _ _ _ e]
    · subst e
      rw [upd_same, getD_snoc_eq]
      simp
    · rw [upd_other _ _ (by omega), getD_snoc_gt _ _ _ e, h.sub i hi, getD_snoc_gt _ _ _ e]
  · have hi' : i < D.length + 1 := by simpa using hi
    rcases Nat.lt_trichotomy i D.length with e | e | e
    · rw [getD_snoc_lt _ _ _ e] at hj ⊢
      have : (D.getD i []).length ≤ 8 := (h.ok _ (List.mem_append_left _ (getD_mem [] e))).2.1
      have := h.num i j (by simp; omega) (by rw [getD_snoc_lt _ _ _ e]; exact hj)
      rw [getD_snoc_lt _ _ _ e] at this
      rw [upd_other _ _ (by omega), this]
    · subst e
      rw [getD_snoc_eq] at hj ⊢
      have hj' : j < q.length + 1 := by simpa using hj
      by_cases e : j = q.length
      · subst e
        rw [upd_same, getD_snoc_eq]
      · have := h.num D.length j (by simp) (by rw [getD_snoc_eq]; omega)
        rw [getD_snoc_eq] at this
        rw [upd_other _ _ (by omega), this, getD_snoc_lt _ _ _ (by omega)]
    · omega
  · rcases List.mem_append.1 hr with hr | hr
    · exact h.ok r (List.mem_append_left _ hr)
    · simp at hr
      subst hr
      exact okRow.snoc (h.ok q (by simp)).2.2 h8 x0 x1

theorem Tied.dig {num : Nat → Int} {sub : Nat → Nat} {D : Rws} {q : List Int} {x : Int} (h : Tied num sub (D ++ [q ++ [x]])) (y : Int) (y0 : -1 ≤ y) (y1 : y ≤ 65535) :
    num (D.length * 8 + q.length) = x ∧ sub D.length = q.length + 1 ∧ D.length < 32 ∧ q.length < 8 ∧ -1 ≤ x ∧ x ≤ 65535 ∧ Tied (upd num (D.length * 8 + q.length) y) sub (D ++ [q ++ [y]]) := by
  have hl := h.len
  simp at hl
  have ⟨_, h8, hx⟩ := h.ok (q ++ [x]) (by simp)
  simp at h8
  have hx1 := hx x (by simp)
  have n1 := h.num D.length q.length (by simp) (by rw [getD_snoc_eq]; simp)
  rw [getD_snoc_eq, getD_snoc_eq] at n1
  have s1 := h.sub_at.1
  refine ⟨n1, by rw [s1]; simp, by omega, by omega, hx1.1, hx1.2, by simp; omega, fun i hi => ?_, fun i j hi hj => ?_, fun r hr => ?_⟩
  · rw [h.sub i hi]
    rcases Nat.lt_trichotomy i D.length with e | e | e
    · rw [getD_snoc_lt _ _ _ e, getD_snoc_lt _ _ _ e]
    · subst e
      rw [getD_snoc_eq, getD_snoc_eq]
      simp
    · rw [getD_snoc_gt _ _ _ e, getD_snoc_gt _ _ _ e]
  · have hi' : i < D.length + 1 := by simpa using hi
    rcases Nat.lt_trichotomy i D.length with e | e | e
    · rw [getD_snoc_lt _ _ _ e] at hj ⊢
      have : (D.getD i []).length ≤ 8 := (h.ok _ (List.mem_append_left _ (getD_mem [] e))).2.1
      have := h.num i j (by simp; omega) (by rw [getD_snoc_lt _ _ _ e]; exact hj)
      rw [getD_snoc_lt _ _ _ e] at this
      rw [upd_other _ _ (by omega), this]
    · subst e
      rw [getD_snoc_eq] at hj ⊢
      have hj' : j < q.length + 1 := by simpa using hj
      by_cases e : j = q.length
      · subst e
        rw [upd_same, getD_snoc_eq]
      · have := h.num D.length j (by simp) (by rw [getD_snoc_eq]; simp; omega)
        rw [getD_snoc_eq, getD_snoc_lt _ _ _ (by omega)] at this
        rw [upd_other _ _ (by omega), this, getD_snoc_lt _ _ _ (by omega)]
    · omega
  · rcases List.mem_append.1 hr with hr | hr
    · exact h.ok r (List.mem_append_left _ hr)
    · simp at hr
      subst hr
      exact okRow.snoc (fun y hy => hx y (by simp [hy])) (by omega) y0 y1

/-- The list lies in block B. -/
def LAt (w : World) (B : Nat) (s : Option PS) : Prop := ∃ num sub, Low w B num sub (rowsO s).length (outO s) ∧ Tied num sub (rowsO s)
theorem LAt.lt {w : World} {B : Nat} {s : Option PS} (h : LAt w B s) : B < w.heap.size := by obtain ⟨_, _, h, _⟩ := h; exact h.lt
theorem LAt.same {w w' : World} {B : Nat} {s : Option PS} (h : LAt w B s) (hb : w'.heap[B]? = w.heap[B]?) : LAt w' B s := by
  obtain ⟨a, b, h, t⟩ := h
  exact ⟨a, b, h.same hb, t⟩
theorem LAt.below {w w' : World} {B : Nat} {s : Option PS} (h : LAt w B s) (hb : Below w.heap.size w w') : LAt w' B s := h.same (hb.block B h.lt)

open Go.RowKit

/-- A colour, an attribute. -/
structure Cl where
  k : Int
  r : Int
  g : Int
  b : Int
deriving DecidableEq
structure At where
  fg : Cl
  bg : Cl
  fl : Nat
deriving DecidableEq
abbrev Cl.zero : Cl := ⟨0, 0, 0, 0⟩
abbrev At.zero : At := ⟨Cl.zero, Cl.zero, 0⟩
/-- Of bytes. -/
def Cl.ok (c : Cl) : Prop := (0 ≤ c.k ∧ c.k ≤ 255) ∧ (0 ≤ c.r ∧ c.r ≤ 255) ∧ (0 ≤ c.g ∧ c.g ≤ 255) ∧ (0 ≤ c.b ∧ c.b ≤ 255)
def At.ok (a : At) : Prop := a.fg.ok ∧ a.bg.ok ∧ a.fl < 65536

def flagsM (f set clear : Nat) : Nat := f &&& (65535 - clear) ||| set
theorem flagsM_lt {f set clear : Nat} (h : f < 65536) (hs : set < 65536) : flagsM f set clear < 65536 := by
  unfold flagsM
  exact Nat.or_lt_two_pow (n := 16) (Nat.lt_of_le_of_lt Nat.and_le_left h) hs

/-- The number of a parameter that has one. -/
def valM (x : Int) : Int := if x = -1 then 0 else x
def onlyM (row : List Int) : Option Int := match row with | [x] => some (valM x) | _ => none
def partM (x : Int) : Option Int := if 0 ≤ valM x ∧ valM x ≤ 255 then some (valM x) else none
def partRow (row : List Int) : Option Int := match onlyM row with | some x => partM x | none => none
/-- Up to the first that is none. -/
def partsM {α : Type} (read : α → Option Int) : List α → List Int
  | [] => []
  | x :: t => match read x with | some b => b :: partsM read t | none => []
def needed (k : Int) : Nat := if k = 5 then 1 else if k = 2 then 3 else 0
def madeM (k : Int) (l : List Int) : Option Cl :=
  if l.length < needed k then none else if k = 5 then some ⟨1, l.getD 0 0, 0, 0⟩ else if k = 2 then some ⟨2, l.getD 0 0, l.getD 1 0, l.getD 2 0⟩ else none
/-- The kind, and what the colour is, by the parameters behind. -/
def kindM : Rws → Int
  | [] => 0
  | row :: _ => (onlyM row).getD 0
def colorM (L : Rws) : Option Cl := madeM (kindM L) (partsM partRow ((L.drop 1).take (needed (kindM L))))
def leftM (L : Rws) : Rws := (L.drop 1).drop (needed (kindM L))
/-- The numbers of one parameter, which are two at least. -/
def tailM (row : List Int) : List Int := if row.getD 1 0 = 2 ∧ (row.drop 2).length = 4 then row.drop 3 else row.drop 2
def withinM (row : List Int) : Option Cl := if (tailM row).length = needed (row.getD 1 0) then madeM (row.getD 1 0) (partsM partM (tailM row)) else none

def At.setFg (a : At) (c : Option Cl) : At := match c with | some c => { a with fg := c } | none => a
def At.setBg (a : At) (c : Option Cl) : At := match c with | some c => { a with bg := c } | none => a
def At.flags (a : At) (set clear : Nat) : At := { a with fl := flagsM a.fl set clear }

/-- A number alone, but 38 and 48. -/
def simpleM (a : At) (n : Int) : At :=
  if n = 0 then At.zero else if n = 1 then a.flags 1 0 else if n = 2 then a.flags 2 0 else if n = 3 then a.flags 4 0 else if n = 4 then a.flags 8 256
  else if n = 5 then a.flags 16 0 else if n = 7 then a.flags 32 0 else if n = 8 then a.flags 64 0 else if n = 9 then a.flags 128 0 else if n = 21 then a.flags 256 8
  else if n = 22 then a.flags 0 3 else if n = 23 then a.flags 0 4 else if n = 24 then a.flags 0 264 else if n = 25 then a.flags 0 16 else if n = 27 then a.flags 0 32
  else if n = 28 then a.flags 0 64 else if n = 29 then a.flags 0 128
  else if 30 ≤ n ∧ n ≤ 37 then { a with fg := ⟨1, n - 30, 0, 0⟩ } else if n = 39 then { a with fg := Cl.zero }
  else if 40 ≤ n ∧ n ≤ 47 then { a with bg := ⟨1, n - 40, 0, 0⟩ } else if n = 49 then { a with bg := Cl.zero }
  else if 90 ≤ n ∧ n ≤ 97 then { a with fg := ⟨1, n - 82, 0, 0⟩ } else if 100 ≤ n ∧ n ≤ 107 then { a with bg := ⟨1, n - 92, 0, 0⟩ } else a
/-- A parameter of several numbers. -/
def severalM (a : At) (row : List Int) : At :=
  if row.length < 2 then a
  else if row.getD 0 0 = 4 then (if row.length = 2 then (if row.getD 1 0 = 0 then a.flags 0 264 else if row.getD 1 0 = 1 then a.flags 8 256 else if row.getD 1 0 = 2 then a.flags 256 8 else a) else a)
  else if row.getD 0 0 = 38 then a.setFg (withinM row) else if row.getD 0 0 = 48 then a.setBg (withinM row) else a
/-- One parameter, and those behind it. -/
def stepM (a : At) (row : List Int) (L : Rws) : At × Rws :=
  match onlyM row with
  | none => (severalM a row, L)
  | some n => if n = 38 then (a.setFg (colorM L), leftM L) else if n = 48 then (a.setBg (colorM L), leftM L) else (simpleM a n, L)
theorem leftM_len (L : Rws) : (leftM L).length ≤ L.length := by simp only [leftM, List.length_drop]; omega
theorem stepM_len (a : At) (row : List Int) (L : Rws) : (stepM a row L).2.length ≤ L.length := by
  unfold stepM
  split
  · exact Nat.le_refl _
  · split
    · exact leftM_len L
    · split
      · exact leftM_len L
      · exact Nat.le_refl _
def runM : Nat → At → Rws → At
  | 0, a, _ => a
  | _ + 1, a, [] => a
  | n + 1, a, row :: L => runM n (stepM a row L).1 (stepM a row L).2
theorem runM_nil (n : Nat) (a : At) : runM n a [] = a := by cases n <;> rfl
theorem runM_more : ∀ (n m : Nat) (a : At) (L : Rws), L.length ≤ n → L.length ≤ m → runM n a L = runM m a L
  | n, m, a, [], _, _ => by rw [runM_nil, runM_nil]
  | 0, _, _, _ :: _, h, _ => by simp at h
  | _ + 1, 0, _, _ :: _, _, h => by simp at h
  | n + 1, m + 1, a, row :: L, h, h' => by
    have := stepM_len a row L
    simp at h h'
    exact runM_more n m _ _ (by omega) (by omega)
def loopM (a : At) (L : Rws) : At := runM L.length a L
theorem loopM_nil (a : At) : loopM a [] = a := rfl
theorem loopM_cons (a : At) (row : List Int) (L : Rws) : loopM a (row :: L) = loopM (stepM a row L).1 (stepM a row L).2 := by
  show runM L.length _ _ = runM _ _ _
  exact runM_more _ _ _ _ (stepM_len a row L) (Nat.le_refl _)
def sgrM (a : At) (P : Rws) : At := if P = [] then At.zero else loopM a P

theorem partM_bd {x y : Int} (h : partM x = some y) : 0 ≤ y ∧ y ≤ 255 := by
  unfold partM at h
  split at h
  · simp at h
    omega
  · simp at h
theorem partRow_bd {x : List Int} {y : Int} (h : partRow x = some y) : 0 ≤ y ∧ y ≤ 255 := by
  unfold partRow at h
  split at h
  · exact partM_bd h
  · simp at h
theorem partsM_bd {α : Type} {read : α → Option Int} (hr : ∀ x y, read x = some y → 0 ≤ y ∧ y ≤ 255) : ∀ (l : List α), ∀ y ∈ partsM read l, 0 ≤ y ∧ y ≤ 255
  | [], y, h => by simp [partsM] at h
  | x :: t, y, h => by
    unfold partsM at h
    split at h
    · rename_i b hb
      rcases List.mem_cons.1 h with e | e
      · subst e; exact hr _ _ hb
      · exact partsM_bd hr t y e
    · simp at h
theorem partsM_len {α : Type} (read : α → Option Int) : ∀ l : List α, (partsM read l).length ≤ l.length
  | [] => by simp [partsM]
  | x :: t => by
    unfold partsM
    split
    · have := partsM_len read t
      simp
      omega
    · simp
theorem getD_bd {l : List Int} (h : ∀ y ∈ l, 0 ≤ y ∧ y ≤ 255) (i : Nat) : 0 ≤ l.getD i 0 ∧ l.getD i 0 ≤ 255 := by
  by_cases hi : i < l.length
  · exact h _ (getD_mem 0 hi)
  · rw [List.getD_eq_getElem?_getD, List.getElem?_eq_none (by omega)]
    simp
theorem bd0 : (0 : Int) ≤ 0 ∧ (0 : Int) ≤ 255 := by decide
theorem bd1 : (0 : Int) ≤ 1 ∧ (1 : Int) ≤ 255 := by decide
theorem bd2 : (0 : Int) ≤ 2 ∧ (2 : Int) ≤ 255 := by decide
theorem madeM_ok {k : Int} {l : List Int} {c : Cl} (h : ∀ y ∈ l, 0 ≤ y ∧ y ≤ 255) (hm : madeM k l = some c) : c.ok ∧ ((c.k = 1 ∧ c.g = 0 ∧ c.b = 0) ∨ c.k = 2) := by
  unfold madeM at hm
  have g := getD_bd h
  split at hm
  · simp at hm
  · split at hm
    · obtain rfl := Option.some.inj hm
      exact ⟨⟨bd1, g 0, bd0, bd0⟩, .inl ⟨rfl, rfl, rfl⟩⟩
    · split at hm
      · obtain rfl := Option.some.inj hm
        exact ⟨⟨bd2, g 0, g 1, g 2⟩, .inr rfl⟩
      · simp at hm
theorem colorM_ok {L : Rws} {c : Cl} (h : colorM L = some c) : c.ok ∧ ((c.k = 1 ∧ c.g = 0 ∧ c.b = 0) ∨ c.k = 2) := madeM_ok (partsM_bd (fun _ _ => partRow_bd) _) h
theorem withinM_ok {row : List Int} {c : Cl} (h : withinM row = some c) : c.ok ∧ ((c.k = 1 ∧ c.g = 0 ∧ c.b = 0) ∨ c.k = 2) := by
  unfold withinM at h
  split at h
  · exact madeM_ok (partsM_bd (fun _ _ => partM_bd) _) h
  · simp at h
theorem zero_ok : Cl.zero.ok := by unfold Cl.ok; simp
theorem At.zero_ok : At.zero.ok := ⟨Lab.zero_ok, Lab.zero_ok, by decide⟩
theorem At.setFg_ok {a : At} (h : a.ok) {c : Option Cl} (hc : ∀ x, c = some x → x.ok) : (a.setFg c).ok := by
  cases c with
  | none => exact h
  | some c => exact ⟨hc c rfl, h.2.1, h.2.2⟩
theorem At.setBg_ok {a : At} (h : a.ok) {c : Option Cl} (hc : ∀ x, c = some x → x.ok) : (a.setBg c).ok := by
  cases c with
  | none => exact h
  | some c => exact ⟨h.1, hc c rfl, h.2.2⟩
theorem At.flags_ok {a : At} (h : a.ok) {set : Nat} (hs : set < 65536) (clear : Nat) : (a.flags set clear).ok := ⟨h.1, h.2.1, flagsM_lt h.2.2 hs⟩
theorem idx_ok {x : Int} (h0 : 0 ≤ x) (h1 : x ≤ 255) : (⟨1, x, 0, 0⟩ : Cl).ok := ⟨bd1, ⟨h0, h1⟩, bd0, bd0⟩
theorem ite_ok {c : Prop} [Decidable c] {x y : At} (h : c → x.ok) (k : y.ok) : (if c then x else y).ok := by
  by_cases hc : c
  · rw [if_pos hc]; exact h hc
  · rw [if_neg hc]; exact k
theorem simpleM_ok {a : At} (h : a.ok) (n : Int) : (simpleM a n).ok := by
  unfold simpleM
  refine ite_ok (fun _ => At.zero_ok) ?_
  iterate 16 refine ite_ok (fun _ => At.flags_ok h (by decide) _) ?_
  refine ite_ok (fun hc => ⟨idx_ok (by omega) (by omega), h.2.1, h.2.2⟩) ?_
  refine ite_ok (fun hc => ⟨Lab.zero_ok, h.2.1, h.2.2⟩) ?_
  refine ite_ok (fun hc => ⟨h.1, idx_ok (by omega) (by omega), h.2.2⟩) ?_
  refine ite_ok (fun hc => ⟨h.1, Lab.zero_ok, h.2.2⟩) ?_
  refine ite_ok (fun hc => ⟨idx_ok (by omega) (by omega), h.2.1, h.2.2⟩) ?_
  exact ite_ok (fun hc => ⟨h.1, idx_ok (by omega) (by omega), h.2.2⟩) h
theorem severalM_ok {a : At} (h : a.ok) (row : List Int) : (severalM a row).ok := by
  unfold severalM
  split
  · exact h
  split
  · split
    · split
      · exact At.flags_ok h (by decide) _
      split
      · exact At.flags_ok h (by decide) _
      split
      · exact At.flags_ok h (by decide) _
      · exact h
    · exact h
  split
  · exact At.setFg_ok h fun x hx => (withinM_ok hx).1
  split
  · exact At.setBg_ok h fun x hx => (withinM_ok hx).1
  · exact h
theorem stepM_ok {a : At} (h : a.ok) (row : List Int) (L : Rws) : (stepM a row L).1.ok := by
  unfold stepM
  split
  · exact severalM_ok h row
  · split
    · exact At.setFg_ok h fun x hx => (colorM_ok hx).1
    · split
      · exact At.setBg_ok h fun x hx => (colorM_ok hx).1
      · exact simpleM_ok h _
theorem runM_ok : ∀ (n : Nat) {a : At} (_ : a.ok) (L : Rws), (runM n a L).ok
  | 0, _, h, _ => h
  | _ + 1, _, h, [] => h
  | n + 1, _, h, row :: L => runM_ok n (stepM_ok h row L) _
theorem sgrM_ok {a : At} (h : a.ok) (P : Rws) : (sgrM a P).ok := by
  unfold sgrM
  split
  · exact At.zero_ok
  · exact runM_ok _ h _
end Go.Proofs.Ytjdfinimbdcmbaa.Lab
