/- What acts leave of grids: whole; alike to Low; sums of what is Low. -/
import Derived.Test.YtlaafmjiiiaceaaDoorRcDoes
import Derived.Test.YtlaafmjiiiaceaaDoorRcLevel
set_option linter.unusedVariables false
namespace Go.Proofs.YtlaafmjiiiaceaaDoor.Lab
open Go Go.RowKit

theorem celD_l01 (d : Dc) : (celD d).l = 0 ∨ (celD d).l = 1 := by unfold celD; cases d.high <;> simp
theorem cellM_l (a : Ac) : (cellM a).l = 0 ∨ (cellM a).l = 1 := by
  unfold cellM
  split
  · exact celD_l01 a.d
  · exact celD_l01 a.d
theorem cellM_k (a : Ac) : (cellM a).k = 0 := by
  unfold cellM
  split <;> rfl
theorem copy_comes {k : Rk} {tr tc : Int} {n m : Nat} (h : ((clipM ⟨tr, tc, (k.n : Nat), (k.c : Nat)⟩ n m).t : Int) = tr ∧ ((clipM ⟨tr, tc, (k.n : Nat), (k.c : Nat)⟩ n m).l : Int) = tc) : Comes k (clipM ⟨tr, tc, (k.n : Nat), (k.c : Nat)⟩ n m) := by
  have := clip_at (t := tr) (l := tc) (n := k.n) (c := k.c) (rows := n) (cols := m) (by omega) (by omega)
  exact ⟨this.1, this.2⟩
theorem GG.copyR {G : List Cls} {m : Nat} (h : GG G m) (r : R4) (tr tc : Int) : GG (Lab.copyR G m r tr tc) m := by
  unfold Lab.copyR
  split
  · rename_i hc
    exact h.copy (clip_in _ _ _) (clip_in _ _ _) (copy_comes hc)
  · exact h
theorem GG.does {G : List Cls} {m : Nat} (h : GG G m) (a : Ac) : GG (doesG a G m) m := by
  unfold doesG
  split
  · split
    · exact h.fill (clip_in _ _ _) (cellM_l a)
    · exact h
  · split
    · exact h.fill (clip_in _ _ _) (by exact cellM_l a)
    · exact h.copyR _ _ _
theorem GLow.does {A B : List Cls} {m : Nat} (h : GLow A B) (a : Ac) : GLow (doesG a A m) (doesG a B m) := by
  unfold doesG
  rw [← h.1]
  split
  · split
    · exact h.fillG _ _
    · exact h
  · split
    · exact h.fillG _ _
    · unfold Lab.copyR
      rw [← h.1]
      split
      · rename_i hc
        exact h.copyG (clip_in _ _ _) (copy_comes hc)
      · exact h
theorem len_does (a : Ac) (G : List Cls) (m : Nat) : (doesG a G m).length = G.length := by
  unfold doesG
  split
  · split
    · exact len_layG _ _ _
    · rfl
  · split
    · exact len_layG _ _ _
    · unfold Lab.copyR
      split
      · exact len_layG _ _ _
      · rfl
theorem LowE.any {R S : Cls} (h : LowE R S) : R.any (fun c => c.l != 0) = S.any (fun c => c.l != 0) := by
  have e : R.map (·.l) = S.map (·.l) := by
    refine List.ext_getElem (by rw [List.length_map, List.length_map]; exact h.1) fun i h1 h2 => ?_
    rw [List.length_map] at h1 h2
    rw [List.getElem_map, List.getElem_map, ← gc_eq h1, ← gc_eq h2]
    exact (h.2 i h1).1
  have k : ∀ T : Cls, T.any (fun c => c.l != 0) = (T.map (·.l)).any (fun l => l != 0) := fun T => by rw [List.any_map]; rfl
  rw [k, k, e]
theorem LowE.same {R S : Cls} (h : LowE R S) (h0 : R.any (fun c => c.l != 0) = false) : R = S := by
  refine ext_gc h.1 fun i hi => (h.2 i hi).2 ?_
  have := List.any_eq_false.1 h0 (gc R i) (by rw [gc_eq hi]; exact List.getElem_mem hi)
  simpa using this
theorem low_sum {A B : List Cls} {k : Rk} {m : Nat} (h : GLow A B) (hk : k.In A.length m) : levK A k = levK B k ∧ (levK A k = 0 → sumK A k = sumK B k) := by
  have hc : ∀ i, i < k.n → LowE (cellsK A k i) (cellsK B k i) := fun i hi => by
    have hr := hk.r
    have : LowE (rowG A (k.t + i)) (rowG B (k.t + i)) := h.2 (k.t + i) (by omega)
    exact (this.drop _).take _
  have hl : ∀ n, n ≤ k.n → levB A k n = levB B k n := by
    intro n
    induction n with
    | zero => intro _; rfl
    | succ n ih =>
      intro hn
      rw [levB_step, levB_step, ih (by omega), (hc n (by omega)).any]
  have hs : ∀ n, n ≤ k.n → levB A k n = false → sumTo A k n = sumTo B k n := by
    intro n
    induction n with
    | zero => intro _ _; rfl
    | succ n ih =>
      intro hn h0
      rw [levB_step, Bool.or_eq_false_iff] at h0
      rw [sumTo, sumTo, ih (by omega) h0.1, (hc n (by omega)).same h0.2]
  refine ⟨by unfold levK; rw [hl k.n (Nat.le_refl _)], fun h0 => ?_⟩
  have hb : levB A k k.n = false := by
    unfold levK at h0
    cases e : levB A k k.n with
    | false => rfl
    | true => rw [e] at h0; simp at h0
  unfold sumK
  rw [hs k.n (Nat.le_refl _) hb]
end Go.Proofs.YtlaafmjiiiaceaaDoor.Lab
