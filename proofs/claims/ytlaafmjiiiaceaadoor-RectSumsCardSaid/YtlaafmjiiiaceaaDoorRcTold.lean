/- What fills, copies, sums of rectangles come to: mathematics of RectMoves, RectSums. -/
import Derived.Test.YtlaafmjiiiaceaaDoorRcMath
import Derived.Test.YtlaafmjiiiaceaaDoorRcLevel
import Derived.Test.YtlaafmjiiiaceaaDoorRcCopy
set_option linter.unusedVariables false
namespace Go.Proofs.YtlaafmjiiiaceaaDoor.Lab
open Go Go.RowKit

theorem place_self (Q : Cls) {l c : Nat} (h : l + c ≤ Q.length) : place Q l ((Q.drop l).take c) = Q := by
  unfold place
  have e : ((Q.drop l).take c).length = c := by rw [List.length_take, List.length_drop]; omega
  rw [e, ← List.drop_drop, List.take_append_drop, List.take_append_drop]
theorem copyG_self {G : List Cls} {m : Nat} (h : GG G m) {k : Rk} (hk : k.In G.length m) : copyG G k k = brkG G k := by
  refine ext_rowG (by rw [copyG, len_layG, len_brkG]) fun i hi => ?_
  rw [copyG, len_layG] at hi
  rw [copyG, layG, rowG_map hi, brkG, rowG_map hi]
  split
  · rename_i hr
    unfold inR at hr
    rw [show i - k.t + k.t = i by omega]
    exact place_self _ (by rw [len_brk2, (h.at hi).2.1]; exact hk.c)
  · rfl
theorem brk2_idem {R : Cls} (h : Wh R) (l c : Nat) : brk2 (brk2 R l c) l c = brk2 R l c := by
  have hw : Wh (brk2 R l c) := (h.brk l).brk (l + c)
  have hc := brk2_cln R l c
  show brk (brk (brk2 R l c) l) (l + c) = brk2 R l c
  rw [brk_clean hw hc.1, brk_clean hw hc.2]
theorem brkG_idem {G : List Cls} {m : Nat} (h : GG G m) (k : Rk) : brkG (brkG G k) k = brkG G k := by
  refine ext_rowG (len_brkG _ _) fun i hi => ?_
  rw [len_brkG, len_brkG] at hi
  rw [brkG, rowG_map (by rw [len_brkG]; exact hi), brkG, rowG_map hi]
  split
  · exact brk2_idem (h.at hi).1 _ _
  · rfl
theorem brkG_all {G : List Cls} {m : Nat} (h : GG G m) : brkG G ⟨0, 0, G.length, m⟩ = G := by
  refine ext_rowG (len_brkG _ _) fun i hi => ?_
  rw [len_brkG] at hi
  rw [brkG, rowG_map hi]
  obtain ⟨h1, h2, _⟩ := h.at hi
  split
  · show brk (brk (rowG G i) 0) (0 + m) = rowG G i
    rw [brk_clean h1 (Cln.zero _), brk_clean h1 (h1.end (by omega))]
  · rfl
theorem all_in (n m : Nat) (hn : 0 < n) (hm : 0 < m) : (⟨0, 0, n, m⟩ : Rk).In n m := ⟨by simp, by simp, fun h => by dsimp only at h; omega⟩
theorem copyR_self {G : List Cls} {m : Nat} (h : GG G m) {k : Rk} (hk : k.In G.length m) : copyR G m k.r4 (k.t : Nat) (k.l : Nat) = brkG G k := by
  unfold copyR
  rw [clip_self hk]
  have e : clipM ⟨((k.t : Nat) : Int), ((k.l : Nat) : Int), ((k.n : Nat) : Int), ((k.c : Nat) : Int)⟩ G.length m = k := clip_self hk
  rw [e, if_pos ⟨rfl, rfl⟩]
  exact copyG_self h hk
theorem fill_fill {G : List Cls} {m : Nat} (h : GG G m) {k : Rk} (hk : k.In G.length m) (a b : Cel) (ha : a.l = 0 ∨ a.l = 1) : fillG (fillG G k a) k b = fillG G k b := by
  have h2 := h.fill hk ha
  have hla : (fillG G k a).length = G.length := len_layG _ _ _
  have hk2 : k.In (fillG G k a).length m := by rw [hla]; exact hk
  refine ext_rowG ((len_layG _ _ _).trans (hla.trans (len_layG _ _ _).symm)) fun i hi => ?_
  have hi1 : i < (fillG G k a).length := by rw [fillG, len_layG] at hi; exact hi
  have hi0 : i < G.length := by rw [hla] at hi1; exact hi1
  have g1 := ((h2.fill hk2 (b := { b with l := 0 }) (.inl rfl)).at (i := i) (by rw [fillG, len_layG]; exact hi1)).2.1
  have hlen : ∀ (K : List Cls) (c : Cel), GG K m → k.In K.length m → i < K.length → (rowG (fillG K k c) i).length = m := fun K c hK hkK hiK => by
    rw [fillG, layG, rowG_map hiK]
    split
    · rw [len_place (by rw [len_brk2, (hK.at hiK).2.1, List.length_replicate]; exact hkK.c), len_brk2, (hK.at hiK).2.1]
    · exact (hK.at hiK).2.1
  refine ext_gc ((hlen _ b h2 hk2 hi1).trans (hlen _ b h hk hi0).symm) fun j hj => ?_
  rw [hlen _ b h2 hk2 hi1] at hj
  have hL : ∀ (K : List Cls) (c : Cel), ∀ i, i < K.length → inR k i → (List.replicate k.c ({ c with k := 0 } : Cel)).length = k.c := fun _ _ _ _ _ => List.length_replicate
  show gc (rowG (layG (fillG G k a) k fun _ => _) i) j = gc (rowG (layG G k fun _ => _) i) j
  rw [gc_lay h2 hk2 (hL _ b) hi1 hj, gc_lay h hk (hL _ b) hi0 hj]
  split
  · rename_i hr
    split
    · rfl
    · rename_i ho
      show brkC (k.l + k.c) j (brkC k.l j (gc (rowG (layG G k fun _ => _) i) j)) = _
      rw [gc_lay h hk (hL _ a) hi0 hj, if_pos hr, if_neg ho]
      have key : ∀ c : Cel, brkC (k.l + k.c) j (brkC k.l j (brkC (k.l + k.c) j (brkC k.l j c))) = brkC (k.l + k.c) j (brkC k.l j c) := fun c => by
        have bb : ∀ p i c, brkC p i (Cel.bare c) = Cel.bare c := fun p i c => by
          rcases brkC_or p i (Cel.bare c) with e | ⟨e, _⟩
          · exact e
          · exact absurd rfl e
        rcases brkC_or k.l j c with e | ⟨_, e⟩
        · rw [e]
          rcases brkC_or (k.l + k.c) j c with e2 | ⟨_, e2⟩
          · rw [e2, e, e2]
          · rw [e2, bb, bb]
        · rw [e, bb, bb, bb]
      exact key _
  · rename_i hr
    show gc (rowG (layG G k fun _ => _) i) j = _
    rw [gc_lay h hk (hL _ a) hi0 hj, if_neg hr]
theorem fill_all {G : List Cls} {m : Nat} (h : GG G m) (b : Cel) (hb : b.k = 0) (hn : 0 < G.length) (hm : 0 < m) {i j : Nat} (hi : i < G.length) (hj : j < m) : gc (rowG (fillG G ⟨0, 0, G.length, m⟩ b) i) j = b := by
  unfold fillG
  rw [lay_in h (all_in _ _ hn hm) (fun _ _ _ => List.length_replicate) hi hj ⟨⟨Nat.zero_le _, by dsimp only; omega⟩, Nat.zero_le _, by dsimp only; omega⟩]
  rw [gc_rep (by dsimp only; omega)]
  obtain ⟨x1, x2, x3, x4, x5, x6⟩ := b
  dsimp only at hb
  rw [hb]
theorem clip_all (n m : Nat) (hn : 0 < n) (hm : 0 < m) : clipM ⟨0, 0, (n : Nat), (m : Nat)⟩ n m = ⟨0, 0, n, m⟩ := clip_self (all_in n m hn hm)

/-! ### sums -/
def sumF (G : List Cls) (t l n c : Nat) : Int := sumTo G ⟨t, l, n, c⟩ n
def levF (G : List Cls) (t l n c : Nat) : Bool := levB G ⟨t, l, n, c⟩ n
theorem cells_zero (G : List Cls) (t l n i : Nat) : cellsK G ⟨t, l, n, 0⟩ i = [] := by unfold cellsK; simp
theorem sumTo_zero (G : List Cls) (t l n : Nat) : ∀ j, sumTo G ⟨t, l, n, 0⟩ j = 0
  | 0 => rfl
  | j + 1 => by rw [sumTo, sumTo_zero G t l n j, cells_zero]; rfl
theorem levB_zero (G : List Cls) (t l n j : Nat) : levB G ⟨t, l, n, 0⟩ j = false := by
  unfold levB
  rw [List.any_eq_false]
  intro i _
  rw [cells_zero]
  simp
/-- A rectangle that is one of the grid's, or has no cell, is clipped to its sum. -/
theorem sum_part {G : List Cls} {m t l n c : Nat} (hr : t + n ≤ G.length) (hc : l + c ≤ m) : sumTo G (clipM ⟨(t : Nat), (l : Nat), (n : Nat), (c : Nat)⟩ G.length m) (clipM ⟨(t : Nat), (l : Nat), (n : Nat), (c : Nat)⟩ G.length m).n = sumF G t l n c ∧ levB G (clipM ⟨(t : Nat), (l : Nat), (n : Nat), (c : Nat)⟩ G.length m) (clipM ⟨(t : Nat), (l : Nat), (n : Nat), (c : Nat)⟩ G.length m).n = levF G t l n c := by
  by_cases h0 : n = 0 ∨ c = 0
  · have e : clipM ⟨(t : Nat), (l : Nat), (n : Nat), (c : Nat)⟩ G.length m = Rk.z := by
      unfold clipM
      rw [if_pos]
      dsimp only
      rcases h0 with h0 | h0
      · left; rw [span_no (.inl (by omega))]
      · right; rw [span_no (.inl (by omega))]
    rw [e]
    unfold sumF levF
    rcases h0 with h0 | h0
    · subst h0
      exact ⟨rfl, rfl⟩
    · subst h0
      exact ⟨(sumTo_zero G t l n n).symm, (levB_zero G t l n n).symm⟩
  · have e : clipM ⟨(t : Nat), (l : Nat), (n : Nat), (c : Nat)⟩ G.length m = ⟨t, l, n, c⟩ := clip_self (k := ⟨t, l, n, c⟩) ⟨hr, hc, fun h => absurd h h0⟩
    rw [e]
    exact ⟨rfl, rfl⟩
theorem cells_cols (G : List Cls) (t l n c d i : Nat) : cellsK G ⟨t, l, n, c + d⟩ i = cellsK G ⟨t, l, n, c⟩ i ++ cellsK G ⟨t, l + c, n, d⟩ i := by
  unfold cellsK
  dsimp only
  rw [← List.drop_drop, List.take_add]
theorem cells_n (G : List Cls) (t l n n' c i : Nat) : cellsK G ⟨t, l, n, c⟩ i = cellsK G ⟨t, l, n', c⟩ i := rfl
theorem sumTo_n (G : List Cls) (t l n n' c : Nat) : ∀ j, sumTo G ⟨t, l, n, c⟩ j = sumTo G ⟨t, l, n', c⟩ j
  | 0 => rfl
  | j + 1 => by rw [sumTo, sumTo, sumTo_n G t l n n' c j, cells_n G t l n n']
theorem sum_cols (G : List Cls) (t l n c d : Nat) : ∀ j, sumTo G ⟨t, l, n, c + d⟩ j = sumTo G ⟨t, l, n, c⟩ j + sumTo G ⟨t, l + c, n, d⟩ j
  | 0 => rfl
  | j + 1 => by
    rw [sumTo, sumTo, sumTo, sum_cols G t l n c d j, cells_cols, sumR_append]
    omega
theorem sum_rows (G : List Cls) (t l n c p : Nat) : ∀ j, sumTo G ⟨t, l, n, c⟩ (p + j) = sumTo G ⟨t, l, n, c⟩ p + sumTo G ⟨t + p, l, n, c⟩ j
  | 0 => by rw [Nat.add_zero]; show _ = _ + (0 : Int); omega
  | j + 1 => by
    rw [← Nat.add_assoc, sumTo, sum_rows G t l n c p j, sumTo]
    have : cellsK G ⟨t, l, n, c⟩ (p + j) = cellsK G ⟨t + p, l, n, c⟩ j := by unfold cellsK; dsimp only; rw [Nat.add_assoc]
    rw [this]
    omega
theorem sumF_four (G : List Cls) (t l a b c d : Nat) : sumF G t l (a + b) (c + d) = sumF G t l a c + sumF G t (l + c) a d + sumF G (t + a) l b c + sumF G (t + a) (l + c) b d := by
  unfold sumF
  rw [sum_cols, sum_rows, sum_rows, sumTo_n G t l (a + b) a c, sumTo_n G (t + a) l (a + b) b c, sumTo_n G t (l + c) (a + b) a d, sumTo_n G (t + a) (l + c) (a + b) b d]
  omega
theorem levB_n (G : List Cls) (t l n n' c j : Nat) : levB G ⟨t, l, n, c⟩ j = levB G ⟨t, l, n', c⟩ j := rfl
theorem lev_cols (G : List Cls) (t l n c d : Nat) : ∀ j, levB G ⟨t, l, n, c + d⟩ j = (levB G ⟨t, l, n, c⟩ j || levB G ⟨t, l + c, n, d⟩ j)
  | 0 => rfl
  | j + 1 => by
    rw [levB_step, levB_step, levB_step, lev_cols G t l n c d j, cells_cols, List.any_append]
    cases levB G ⟨t, l, n, c⟩ j <;> cases levB G ⟨t, l + c, n, d⟩ j <;> simp
theorem lev_rows (G : List Cls) (t l n c p : Nat) : ∀ j, levB G ⟨t, l, n, c⟩ (p + j) = (levB G ⟨t, l, n, c⟩ p || levB G ⟨t + p, l, n, c⟩ j)
  | 0 => by rw [Nat.add_zero]; show _ = (_ || false); simp
  | j + 1 => by
    rw [← Nat.add_assoc, levB_step, lev_rows G t l n c p j, levB_step]
    have : cellsK G ⟨t, l, n, c⟩ (p + j) = cellsK G ⟨t + p, l, n, c⟩ j := by unfold cellsK; dsimp only; rw [Nat.add_assoc]
    rw [this, Bool.or_assoc]
theorem levF_four (G : List Cls) (t l a b c d : Nat) : levF G t l (a + b) (c + d) = (levF G t l a c || (levF G t (l + c) a d || (levF G (t + a) l b c || levF G (t + a) (l + c) b d))) := by
  unfold levF
  rw [lev_cols, lev_rows, lev_rows, levB_n G t l (a + b) a c, levB_n G (t + a) l (a + b) b c, levB_n G t (l + c) (a + b) a d, levB_n G (t + a) (l + c) (a + b) b d]
  cases levB G ⟨t, l, a, c⟩ a <;> cases levB G ⟨t + a, l, b, c⟩ b <;> cases levB G ⟨t, l + c, a, d⟩ a <;> simp
end Go.Proofs.YtlaafmjiiiaceaaDoor.Lab
