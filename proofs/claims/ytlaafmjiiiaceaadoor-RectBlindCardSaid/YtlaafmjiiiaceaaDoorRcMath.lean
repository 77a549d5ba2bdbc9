/- Rectangles of grids: plain mathematics. -/
import Derived.Test.YtlaafmjiiiaceaaDoorRoLow
import Derived.Test.YtlaafmjiiiaceaaDoorGrMath
set_option linter.unusedVariables false
namespace Go.Proofs.YtlaafmjiiiaceaaDoor.Lab
open Go.RowKit

/-- A rectangle's part that a grid has: top, left, rows, columns. -/
structure Rk where
  t : Nat
  l : Nat
  n : Nat
  c : Nat
deriving DecidableEq
abbrev Rk.z : Rk := ⟨0, 0, 0, 0⟩
/-- A rectangle as it comes. -/
structure R4 where
  t : Int
  l : Int
  n : Int
  c : Int
deriving DecidableEq
def Rk.r4 (k : Rk) : R4 := ⟨(k.t : Nat), (k.l : Nat), (k.n : Nat), (k.c : Nat)⟩
def spanM (f m : Int) (e : Nat) : Nat × Nat :=
  if m < 1 ∨ (e : Int) ≤ f then (0, 0) else ((max f 0).toNat, (min (if f < 0 then m + f else m) ((e : Int) - max f 0)).toNat)
theorem span_no {f m : Int} {e : Nat} (h : m < 1 ∨ (e : Int) ≤ f) : spanM f m e = (0, 0) := if_pos h
theorem span_yes {f m : Int} {e : Nat} (h : ¬ (m < 1 ∨ (e : Int) ≤ f)) : spanM f m e = ((max f 0).toNat, (min (if f < 0 then m + f else m) ((e : Int) - max f 0)).toNat) := if_neg h
theorem span_le (f m : Int) (e : Nat) : (spanM f m e).1 + (spanM f m e).2 ≤ e := by
  by_cases h : m < 1 ∨ (e : Int) ≤ f
  · rw [span_no h]; simp
  · rw [span_yes h]; dsimp only; omega
theorem span_in {t n e : Nat} (h : t + n ≤ e) (h0 : 0 < n) : spanM (t : Nat) (n : Nat) e = (t, n) := by
  rw [span_yes (by omega)]
  rw [if_neg (by omega), Int.max_eq_left (by omega)]
  congr 1
  omega
theorem span_mem {f m : Int} {e i : Nat} : ((spanM f m e).1 ≤ i ∧ i < (spanM f m e).1 + (spanM f m e).2) ↔ (i < e ∧ f ≤ i ∧ (i : Int) < f + m) := by
  by_cases h : m < 1 ∨ (e : Int) ≤ f
  · rw [span_no h]; dsimp only; omega
  · rw [span_yes h]; dsimp only
    by_cases h0 : f < 0
    · rw [if_pos h0]; omega
    · rw [if_neg h0]; omega
def clipM (r : R4) (rows cols : Nat) : Rk :=
  if (spanM r.t r.n rows).2 = 0 ∨ (spanM r.l r.c cols).2 = 0 then Rk.z
  else ⟨(spanM r.t r.n rows).1, (spanM r.l r.c cols).1, (spanM r.t r.n rows).2, (spanM r.l r.c cols).2⟩
/-- What a rectangle of a grid is. -/
structure Rk.In (k : Rk) (rows cols : Nat) : Prop where
  r : k.t + k.n ≤ rows
  c : k.l + k.c ≤ cols
  e : k.n = 0 ∨ k.c = 0 → k = Rk.z
theorem Rk.In.z (rows cols : Nat) : Rk.In Rk.z rows cols := ⟨Nat.zero_le _, Nat.zero_le _, fun _ => rfl⟩
theorem clip_in (r : R4) (rows cols : Nat) : (clipM r rows cols).In rows cols := by
  unfold clipM
  split
  · exact Rk.In.z _ _
  · rename_i h
    exact ⟨span_le _ _ _, span_le _ _ _, fun e => absurd e h⟩
theorem clip_self {k : Rk} {rows cols : Nat} (h : k.In rows cols) : clipM k.r4 rows cols = k := by
  by_cases h0 : k.n = 0 ∨ k.c = 0
  · have := h.e h0
    subst this
    rfl
  · have h1 : 0 < k.n := by omega
    have h2 : 0 < k.c := by omega
    unfold clipM Rk.r4
    dsimp only
    rw [span_in h.r h1, span_in h.c h2, if_neg (by dsimp only; omega)]
theorem clip_none {r : R4} {rows cols : Nat} (h : rows = 0 ∨ cols = 0) : clipM r rows cols = Rk.z := by
  have h1 := span_le r.t r.n rows
  have h2 := span_le r.l r.c cols
  unfold clipM
  rw [if_pos (by omega)]
/-- Any rows of none columns tell nothing of how many columns there are. -/
theorem clip_norows (r : R4) (c d : Nat) : clipM r 0 c = clipM r 0 d := by rw [clip_none (.inl rfl), clip_none (.inl rfl)]
theorem clip_at {t l : Int} {n c rows cols : Nat} (h0 : 0 ≤ t) (h1 : 0 ≤ l) : (clipM ⟨t, l, (n : Nat), (c : Nat)⟩ rows cols).n ≤ n ∧ (clipM ⟨t, l, (n : Nat), (c : Nat)⟩ rows cols).c ≤ c := by
  unfold clipM
  split
  · exact ⟨Nat.zero_le _, Nat.zero_le _⟩
  · dsimp only
    constructor
    · by_cases h : ((n : Int)) < 1 ∨ (rows : Int) ≤ t
      · rw [span_no h]; exact Nat.zero_le _
      · rw [span_yes h, if_neg (by omega)]; dsimp only; omega
    · by_cases h : ((c : Int)) < 1 ∨ (cols : Int) ≤ l
      · rw [span_no h]; exact Nat.zero_le _
      · rw [span_yes h, if_neg (by omega)]; dsimp only; omega

/-! ### rows -/
def rowG (G : List Cls) (i : Nat) : Cls := G.getD i []
theorem rowG_eq {G : List Cls} {i : Nat} (h : i < G.length) : rowG G i = G[i] := by
  unfold rowG
  rw [List.getD_eq_getElem?_getD, List.getElem?_eq_getElem h]
  rfl
theorem rowG_mem {G : List Cls} {i : Nat} (h : i < G.length) : rowG G i ∈ G := by rw [rowG_eq h]; exact List.getElem_mem h
theorem ext_rowG {G K : List Cls} (hl : G.length = K.length) (h : ∀ i, i < G.length → rowG G i = rowG K i) : G = K := by
  refine List.ext_getElem hl fun i h1 h2 => ?_
  rw [← rowG_eq h1, ← rowG_eq h2]
  exact h i h1
/-- A grid of whole rows of a length, with labels. -/
structure GG (G : List Cls) (m : Nat) : Prop where
  row : ∀ R ∈ G, Wh R ∧ R.length = m ∧ Lv R
  n1 : G.length ≤ 600
  m1 : m ≤ 600
theorem GG.at {G : List Cls} {m i : Nat} (h : GG G m) (hi : i < G.length) : Wh (rowG G i) ∧ (rowG G i).length = m ∧ Lv (rowG G i) := h.row _ (rowG_mem hi)
/-- Rows made anew, each by its number. -/
def mapG (G : List Cls) (f : Nat → Cls → Cls) : List Cls := G.mapIdx f
theorem len_mapG (G : List Cls) (f : Nat → Cls → Cls) : (mapG G f).length = G.length := by simp [mapG]
theorem rowG_map {G : List Cls} {f : Nat → Cls → Cls} {i : Nat} (h : i < G.length) : rowG (mapG G f) i = f i (rowG G i) := by
  rw [rowG_eq (by rw [len_mapG]; exact h), rowG_eq h]
  simp [mapG]
theorem GG.map {G : List Cls} {m : Nat} (h : GG G m) {f : Nat → Cls → Cls} (hf : ∀ i R, i < G.length → R = rowG G i → Wh R → R.length = m → Lv R → Wh (f i R) ∧ (f i R).length = m ∧ Lv (f i R)) : GG (mapG G f) m := by
  refine ⟨fun R hR => ?_, by rw [len_mapG]; exact h.n1, h.m1⟩
  obtain ⟨i, hi, rfl⟩ := List.getElem_of_mem hR
  have hi' : i < G.length := by rw [len_mapG] at hi; exact hi
  rw [← rowG_eq hi, rowG_map hi']
  exact hf i _ hi' rfl (h.at hi').1 (h.at hi').2.1 (h.at hi').2.2
/-- Broken at both edges. -/
def brk2 (R : Cls) (l c : Nat) : Cls := brk (brk R l) (l + c)
theorem len_brk2 (R : Cls) (l c : Nat) : (brk2 R l c).length = R.length := by rw [brk2, len_brk, len_brk]
theorem brk2_good {R : Cls} {m : Nat} (l c : Nat) (h : Wh R) (hl : R.length = m) (hv : Lv R) : Wh (brk2 R l c) ∧ (brk2 R l c).length = m ∧ Lv (brk2 R l c) := ⟨(h.brk l).brk _, by rw [len_brk2]; exact hl, (hv.brk l).brk _⟩
theorem brk2_cln (R : Cls) (l c : Nat) : Cln (brk2 R l c) l ∧ Cln (brk2 R l c) (l + c) := ⟨(cln_brk R l).brk _, cln_brk _ _⟩
/-- Of a row the cells of a rectangle, broken at its edges. -/
def piece (R : Cls) (l c : Nat) : Cls := ((brk2 R l c).drop l).take c
theorem len_piece {R : Cls} {l c : Nat} (h : l + c ≤ R.length) : (piece R l c).length = c := by
  unfold piece
  rw [List.length_take, List.length_drop, len_brk2]
  omega
theorem piece_good {R : Cls} {l c : Nat} (h : Wh R) (hv : Lv R) : Wh (piece R l c) ∧ Lv (piece R l c) := by
  have h1 := (h.brk l).brk (l + c)
  have h2 := brk2_cln R l c
  refine ⟨(h1.drop h2.1).take ?_, (((hv.brk l).brk _).drop l).take c⟩
  intro i hi hk
  rw [gc_drop] at hk
  exact h2.2 (l + i) (by omega) hk
def inR (k : Rk) (i : Nat) : Prop := k.t ≤ i ∧ i < k.t + k.n
instance (k : Rk) (i : Nat) : Decidable (inR k i) := by unfold inR; exact inferInstance
/-- A grid whose rows are broken at the edges of a rectangle. -/
def brkG (G : List Cls) (k : Rk) : List Cls := mapG G fun i R => if inR k i then brk2 R k.l k.c else R
/-- What stands in a rectangle, row by row. -/
def layG (G : List Cls) (k : Rk) (L : Nat → Cls) : List Cls := mapG G fun i R => if inR k i then place (brk2 R k.l k.c) k.l (L i) else R
theorem len_brkG (G : List Cls) (k : Rk) : (brkG G k).length = G.length := len_mapG _ _
theorem len_layG (G : List Cls) (k : Rk) (L : Nat → Cls) : (layG G k L).length = G.length := len_mapG _ _
theorem brkG_z (G : List Cls) : brkG G Rk.z = G := by
  refine ext_rowG (len_brkG _ _) fun i hi => ?_
  rw [len_brkG] at hi
  rw [brkG, rowG_map hi, if_neg (by unfold inR; dsimp only; omega)]
theorem GG.brk {G : List Cls} {m : Nat} (h : GG G m) (k : Rk) : GG (brkG G k) m := h.map fun i R _ _ hw hl hv => by
  split
  · exact brk2_good _ _ hw hl hv
  · exact ⟨hw, hl, hv⟩
theorem Wh.mid {R S : Cls} {l : Nat} (h : Wh R) (hS : Wh S) (hc : Cln R l) (hd : Cln R (l + S.length)) : Wh (place R l S) := (h.take hc).append (hS.append (h.drop hd))
theorem Lv.mid {R S : Cls} {l : Nat} (h : Lv R) (hS : Lv S) : Lv (place R l S) := (h.take _).append (hS.append (h.drop _))
theorem GG.lay {G : List Cls} {m : Nat} (h : GG G m) {k : Rk} (hk : k.In G.length m) {L : Nat → Cls} (hL : ∀ i, i < G.length → inR k i → Wh (L i) ∧ (L i).length = k.c ∧ Lv (L i)) : GG (layG G k L) m := h.map fun i R hi _ hw hl hv => by
  split
  · rename_i hr
    obtain ⟨h1, h2, h3⟩ := brk2_good k.l k.c hw hl hv
    obtain ⟨g1, g2, g3⟩ := hL i hi hr
    refine ⟨h1.mid g1 (brk2_cln R k.l k.c).1 (by rw [g2]; exact (brk2_cln R k.l k.c).2), ?_, h3.mid g3⟩
    rw [len_place (by rw [h2, g2]; exact hk.c), h2]
  · exact ⟨hw, hl, hv⟩
def fillG (G : List Cls) (k : Rk) (b : Cel) : List Cls := layG G k fun _ => List.replicate k.c { b with k := 0 }
/-- What comes of the rectangle k to the rectangle q (of as many rows and columns). -/
def copyG (G : List Cls) (k q : Rk) : List Cls := layG G q fun i => piece (rowG G (i - q.t + k.t)) k.l q.c
theorem GG.fill {G : List Cls} {m : Nat} (h : GG G m) {k : Rk} (hk : k.In G.length m) {b : Cel} (hb : b.l = 0 ∨ b.l = 1) : GG (fillG G k b) m :=
  h.lay hk fun i _ _ => ⟨Wh.rep _ rfl, List.length_replicate, Lv.rep _ hb⟩
/-- What is taken fits. -/
structure Comes (k q : Rk) : Prop where
  n : q.n ≤ k.n
  c : q.c ≤ k.c
theorem GG.copy {G : List Cls} {m : Nat} (h : GG G m) {k q : Rk} (hk : k.In G.length m) (hq : q.In G.length m) (hc : Comes k q) : GG (copyG G k q) m :=
  h.lay hq fun i hi hr => by
    have hi' : i - q.t + k.t < G.length := by
      have h1 := hk.r
      have h2 := hc.n
      unfold inR at hr
      omega
    obtain ⟨h1, h2, h3⟩ := h.at hi'
    obtain ⟨g1, g2⟩ := piece_good (l := k.l) (c := q.c) h1 h3
    exact ⟨g1, len_piece (by rw [h2]; have := hk.c; have := hc.c; omega), g2⟩
/-- Cell by cell. -/
theorem gc_lay {G : List Cls} {m : Nat} (h : GG G m) {k : Rk} (hk : k.In G.length m) {L : Nat → Cls} (hL : ∀ i, i < G.length → inR k i → (L i).length = k.c) {i j : Nat} (hi : i < G.length) (hj : j < m) :
    gc (rowG (layG G k L) i) j = if inR k i then (if k.l ≤ j ∧ j < k.l + k.c then gc (L i) (j - k.l) else brkC (k.l + k.c) j (brkC k.l j (gc (rowG G i) j))) else gc (rowG G i) j := by
  obtain ⟨h1, h2, h3⟩ := h.at hi
  rw [layG, rowG_map hi]
  split
  · rename_i hr
    have hl := hL i hi hr
    rw [gc_place (by rw [len_brk2, h2, hl]; exact hk.c), hl]
    split
    · rfl
    · rw [brk2, gc_brk (by rw [len_brk, h2]; exact hj), gc_brk (by rw [h2]; exact hj)]
  · rfl
theorem brkC_or (p i : Nat) (c : Cel) : brkC p i c = c ∨ (c.k ≠ 0 ∧ brkC p i c = c.bare) := by
  unfold brkC
  split
  · rename_i h
    refine .inr ⟨?_, rfl⟩
    rcases h with ⟨_, h⟩ | ⟨_, h⟩ <;> rw [h] <;> decide
  · exact .inl rfl
/-- A cell is the other one, or what is left of half of a pair. -/
def OrBare (was now : Cel) : Prop := now = was ∨ (was.k ≠ 0 ∧ now = was.bare)
theorem OrBare.refl (c : Cel) : OrBare c c := .inl rfl
theorem brk2_or (l r i : Nat) (c : Cel) : OrBare c (brkC r i (brkC l i c)) := by
  rcases brkC_or l i c with h | ⟨h0, h⟩
  · rw [h]
    exact brkC_or r i c
  · rw [h]
    rcases brkC_or r i c.bare with g | ⟨g, _⟩
    · rw [g]; exact .inr ⟨h0, rfl⟩
    · exact absurd rfl g
theorem gc_brk2 {R : Cls} {l c i : Nat} (h : i < R.length) : gc (brk2 R l c) i = brkC (l + c) i (brkC l i (gc R i)) := by
  rw [brk2, gc_brk (by rw [len_brk]; exact h), gc_brk h]
theorem gc_piece {R : Cls} {l c j : Nat} (h : l + c ≤ R.length) (hj : j < c) : gc (piece R l c) j = gc (brk2 R l c) (l + j) := by
  unfold piece
  rw [gc_take hj, gc_drop]
theorem piece_or {R : Cls} {l c j : Nat} (h : l + c ≤ R.length) (hj : j < c) : OrBare (gc R (l + j)) (gc (piece R l c) j) := by
  rw [gc_piece h hj, gc_brk2 (by omega)]
  exact brk2_or _ _ _ _
/-- Outside of the rectangle. -/
theorem lay_out {G : List Cls} {m : Nat} (h : GG G m) {k : Rk} (hk : k.In G.length m) {L : Nat → Cls} (hL : ∀ i, i < G.length → inR k i → (L i).length = k.c) {i j : Nat} (hi : i < G.length) (hj : j < m) (ho : ¬ (inR k i ∧ k.l ≤ j ∧ j < k.l + k.c)) :
    OrBare (gc (rowG G i) j) (gc (rowG (layG G k L) i) j) := by
  rw [gc_lay h hk hL hi hj]
  split
  · rename_i hr
    rw [if_neg (fun e => ho ⟨hr, e⟩)]
    exact brk2_or _ _ _ _
  · exact OrBare.refl _
theorem lay_in {G : List Cls} {m : Nat} (h : GG G m) {k : Rk} (hk : k.In G.length m) {L : Nat → Cls} (hL : ∀ i, i < G.length → inR k i → (L i).length = k.c) {i j : Nat} (hi : i < G.length) (hj : j < m) (ho : inR k i ∧ k.l ≤ j ∧ j < k.l + k.c) :
    gc (rowG (layG G k L) i) j = gc (L i) (j - k.l) := by
  rw [gc_lay h hk hL hi hj, if_pos ho.1, if_pos ho.2]

/-! ### what looks alike to Low -/
theorem glow_rows {A B : List Cls} (hl : A.length = B.length) (h : ∀ i, i < A.length → LowE (rowG A i) (rowG B i)) : GLow A B := ⟨hl, h⟩
theorem LowE.brk2 {R S : Cls} (h : LowE R S) (l c : Nat) : LowE (Lab.brk2 R l c) (Lab.brk2 S l c) := (h.brk l).brk _
theorem LowE.piece {R S : Cls} (h : LowE R S) (l c : Nat) : LowE (Lab.piece R l c) (Lab.piece S l c) := ((h.brk2 l c).drop l).take c
theorem LowE.place {R S A B : Cls} (h : LowE R S) (k : LowE A B) (p : Nat) : LowE (Lab.place R p A) (Lab.place S p B) := by
  unfold Lab.place
  rw [k.1]
  exact (h.take p).append (k.append (h.drop _))
theorem GLow.lay {A B : List Cls} (h : GLow A B) (k : Rk) {L M : Nat → Cls} (hL : ∀ i, i < A.length → inR k i → LowE (L i) (M i)) : GLow (layG A k L) (layG B k M) := by
  refine glow_rows (by rw [len_layG, len_layG]; exact h.1) fun i hi => ?_
  rw [len_layG] at hi
  rw [layG, rowG_map hi, layG, rowG_map (by rw [← h.1]; exact hi)]
  split
  · rename_i hr
    exact ((h.2 i hi).brk2 k.l k.c).place (hL i hi hr) k.l
  · exact h.2 i hi
theorem GLow.brkG {A B : List Cls} (h : GLow A B) (k : Rk) : GLow (Lab.brkG A k) (Lab.brkG B k) := by
  refine glow_rows (by rw [len_brkG, len_brkG]; exact h.1) fun i hi => ?_
  rw [len_brkG] at hi
  rw [Lab.brkG, rowG_map hi, Lab.brkG, rowG_map (by rw [← h.1]; exact hi)]
  split
  · exact (h.2 i hi).brk2 k.l k.c
  · exact h.2 i hi
theorem GLow.fillG {A B : List Cls} (h : GLow A B) (k : Rk) (b : Cel) : GLow (Lab.fillG A k b) (Lab.fillG B k b) := h.lay k fun _ _ _ => LowE.refl _
theorem GLow.copyG {A B : List Cls} (h : GLow A B) {k q : Rk} {m : Nat} (hk : k.In A.length m) (hc : Comes k q) : GLow (Lab.copyG A k q) (Lab.copyG B k q) :=
  h.lay q fun i hi hr => by
    have hi' : i - q.t + k.t < A.length := by
      have h1 := hk.r
      have h2 := hc.n
      unfold inR at hr
      omega
    exact (h.2 _ hi').piece k.l q.c

/-! ### sums, levels -/
def numC (c : Cel) : Int := 256 * (c.a.fl : Int) + (if c.k = 2 then 0 else if c.ru = 0 then 32 else c.ru) + c.m0 + c.m1
/-- The cells of a rectangle, row by row. -/
def cellsK (G : List Cls) (k : Rk) (i : Nat) : Cls := ((rowG G (k.t + i)).drop k.l).take k.c
def sumL : List Int → Int
  | [] => 0
  | x :: l => x + sumL l
def sumR (R : Cls) : Int := sumL (R.map numC)
theorem sumL_append : ∀ (A B : List Int), sumL (A ++ B) = sumL A + sumL B
  | [], B => by simp [sumL]
  | x :: A, B => by
    show x + sumL (A ++ B) = x + sumL A + sumL B
    rw [sumL_append A B]
    omega
theorem sumR_append (A B : Cls) : sumR (A ++ B) = sumR A + sumR B := by unfold sumR; rw [List.map_append, sumL_append]
/-- The sum of the first rows. -/
def sumTo (G : List Cls) (k : Rk) : Nat → Int
  | 0 => 0
  | n + 1 => sumTo G k n + sumR (cellsK G k n)
def sumK (G : List Cls) (k : Rk) : Int := (-(sumTo G k k.n)) % 65536
/-- The join of the labels of the cells. -/
def levR (R : Cls) : Int := if R.any (fun c => c.l != 0) then 1 else 0
def levB (G : List Cls) (k : Rk) (n : Nat) : Bool := (List.range n).any fun i => (cellsK G k i).any (fun c => c.l != 0)
def levK (G : List Cls) (k : Rk) : Int := if levB G k k.n then 1 else 0
end Go.Proofs.YtlaafmjiiiaceaaDoor.Lab
