/- Two grids that look alike to Low: what is done to both leaves them so. -/
import Derived.Test.YtdeahnphcfcfpaaGreatGrOpen
namespace Go.Proofs.YtdeahnphcfcfpaaGreat.Lab
open Go Go.RowKit

theorem editG_low {A B : List Cls} {m : Nat} (h : GLow A B) (r c : Int) {f : Cls → Cls} (hf : ∀ i, i < A.length → LowE (f (rowG A i)) (f (rowG B i))) : GLow (editG A m r c f) (editG B m r c f) := by
  unfold editG
  rw [← h.1]
  split
  · rename_i hb
    rw [Bool.and_eq_true] at hb
    obtain ⟨i, rfl, hi⟩ := isInB_true hb.1
    rw [Int.toNat_natCast]
    exact h.set i (hf i hi)
  · exact h
theorem eraseG_low {A B : List Cls} (h : GLow A B) (r : Int) {f : Cls → Cls} (hf : ∀ i, i < A.length → LowE (f (rowG A i)) (f (rowG B i))) : GLow (eraseG A r f) (eraseG B r f) := by
  unfold eraseG
  rw [← h.1]
  split
  · rename_i hb
    obtain ⟨i, rfl, hi⟩ := isInB_true hb
    rw [Int.toNat_natCast]
    exact h.set i (hf i hi)
  · exact h
theorem act_low {A B : List Cls} {m : Nat} (h : GLow A B) (gA : Good A m) (gB : Good B m) (k : Nat) (r cl n : Int) {x : Cel} (hx : x.l = 0 ∨ x.l = 1) : GLow (actG m A k r cl n x) (actG m B k r cl n x) := by
  unfold actG
  split
  · exact editG_low h r cl fun i hi => (h.2 i hi).putP cl x false
  · exact editG_low h r cl fun i hi => (h.2 i hi).putP cl x true
  · exact editG_low h r cl fun i hi => (h.2 i hi).mark (gA.len hi).1 (gB.len (by rw [← h.1]; exact hi)).1 (gA.len hi).2.2 cl 769 hx
  · exact editG_low h r cl fun i hi => (h.2 i hi).insert cl n x
  · exact editG_low h r cl fun i hi => (h.2 i hi).delete cl n x
  · exact eraseG_low h r fun i hi => (h.2 i hi).eraseP cl n x
theorem res_low {A B : List Cls} (h : GLow A B) (r cl : Nat) (b : Cel) (t : Nat) : GLow (resG A r cl b t) (resG B r cl b t) := by
  unfold resG
  exact ((h.take t).map _ _ (fun i hi => ((h.take t).2 i hi).resize _ b)).append (GLow.rep _ (LowE.refl _))
theorem does_low {A B : List Cls} {m : Nat} (h : GLow A B) (gA : Good A m) (gB : Good B m) (s : St) : GLow (doesG s m A) (doesG s m B) := by
  unfold doesG
  rw [← h.1]
  split
  · unfold upG
    rw [← h.1]
    split
    · exact h.up _ _ _ _
    · exact h
  · unfold downG
    rw [← h.1]
    split
    · exact h.down _ _ _ _
    · exact h
  · exact h.map _ _ (fun i hi => (h.2 i hi).raise _ (gA.len hi).2.2)
  · split
    · exact res_low h _ _ _ _
    · exact h
  · exact act_low h gA gB _ _ _ _ (actX_l s)
theorem went_low {A B : List Cls} (h : GLow A B) (s : St) : GLow (wentS s A) (wentS s B) := by
  unfold wentS
  rw [← h.1]
  split
  · unfold wentU
    rw [← h.1]
    split
    · exact h.wentUp _ _ _
    · exact GLow.nil
  · unfold wentD
    rw [← h.1]
    split
    · exact h.wentDown _ _ _
    · exact GLow.nil
  · exact GLow.nil
theorem LowE.labels {R S : Cls} (h : LowE R S) : R.map (·.l) = S.map (·.l) := by
  refine List.ext_getElem (by rw [List.length_map, List.length_map, h.1]) fun i h1 h2 => ?_
  rw [List.length_map] at h1 h2
  rw [List.getElem_map, List.getElem_map]
  have := (h.2 i h1).1
  rw [gc_eq h1, gc_eq h2] at this
  exact this
theorem levelM_eq (R : Cls) : levelM R 0 (R.length : Nat) = (R.map (·.l)).foldl max 0 := by
  have h0 : inN 0 R.length = 0 := by unfold inN; omega
  have h1 : inN (R.length : Nat) R.length = R.length := by unfold inN; omega
  unfold levelM
  rw [h0, h1, List.drop_zero, Nat.sub_zero, List.take_length, List.foldl_map]
theorem levG_low {A B : List Cls} (h : GLow A B) : levG A = levG B := by
  have : A.map rowL = B.map rowL := by
    refine List.ext_getElem (by rw [List.length_map, List.length_map, h.1]) fun i h1 h2 => ?_
    rw [List.length_map] at h1 h2
    rw [List.getElem_map, List.getElem_map]
    have k := h.2 i h1
    rw [List.getD_eq_getElem?_getD, List.getD_eq_getElem?_getD, List.getElem?_eq_getElem h1, List.getElem?_eq_getElem h2] at k
    unfold rowL
    rw [levelM_eq, levelM_eq]
    exact congrArg (fun l => List.foldl max 0 l) (LowE.labels k)
  have e : ∀ G : List Cls, G.any (fun R => rowL R != 0) = (G.map rowL).any (· != 0) := fun G => by rw [List.any_map]; rfl
  unfold levG
  rw [e, e, this]
theorem grid_low (cols : Nat) (LL : List (List Dc)) (O : List Dc) : GLow (gridM cols LL []) (gridM cols LL O) := by
  have hr : ∀ c (L : List Dc), LowE (rowF c [] L) (rowF c O L) := fun c L => by
    unfold rowF
    rw [if_neg (by simp)]
    split
    · exact (otherM_whole c L O).2
    · exact LowE.refl _
  unfold gridM gK
  refine GLow.append (GLow.take ?_ _) (GLow.rep _ (LowE.refl _))
  unfold rowsD
  refine ⟨by rw [List.length_map, List.length_map], fun i hi => ?_⟩
  rw [List.length_map] at hi
  rw [List.getD_eq_getElem?_getD, List.getD_eq_getElem?_getD, List.getElem?_map, List.getElem?_map, List.getElem?_eq_getElem hi]
  exact hr _ _
end Go.Proofs.YtdeahnphcfcfpaaGreat.Lab
