/- Rows of rows of cells in memory; a ring behind its pointer: where its blocks lie, its lines, its label. -/
import Derived.Test.YtnefamgjlhdffaaRoRef
import Derived.Test.YtnefamgjlhdffaaRoMove
import Derived.RangeFuncOwn
import Derived.Deep.AppendLies
set_option linter.unusedVariables false
namespace Go.Proofs.Ytnefamgjlhdffaa.Lab
open Go Go.RowKit

theorem below_drewN {B : Nat} {a b : World} (h : Below B a b) (q : Nat) : Below B a (b.drewN q) := ⟨h.os, h.tape, h.output, h.size, h.block⟩
/-! ### nothing but some blocks has turned -/
structure Buts (S : Nat → Prop) (w w' : World) : Prop where
  os : w'.os = w.os
  tape : w'.tape = w.tape
  output : w'.output = w.output
  size : w.heap.size ≤ w'.heap.size
  block : ∀ k, k < w.heap.size → ¬ S k → w'.heap[k]? = w.heap[k]?
theorem Buts.refl (S : Nat → Prop) (w : World) : Buts S w w := ⟨rfl, rfl, rfl, Nat.le_refl _, fun _ _ _ => rfl⟩
theorem Buts.trans {S : Nat → Prop} {a b c : World} (h : Buts S a b) (k : Buts S b c) : Buts S a c :=
  ⟨k.os.trans h.os, k.tape.trans h.tape, k.output.trans h.output, Nat.le_trans h.size k.size, fun i hi hn => (k.block i (Nat.lt_of_lt_of_le hi h.size) hn).trans (h.block i hi hn)⟩
theorem Buts.trans' {S T : Nat → Prop} {a b c : World} (h : Buts S a b) (k : Buts T b c) (d : ∀ j, j < a.heap.size → T j → S j) : Buts S a c :=
  ⟨k.os.trans h.os, k.tape.trans h.tape, k.output.trans h.output, Nat.le_trans h.size k.size, fun i hi hn => (k.block i (Nat.lt_of_lt_of_le hi h.size) (fun e => hn (d i hi e))).trans (h.block i hi hn)⟩
theorem Buts.of {S : Nat → Prop} {a b : World} (h : Below a.heap.size a b) : Buts S a b := ⟨h.os, h.tape, h.output, h.size, fun i hi _ => h.block i hi⟩
theorem Buts.but {S : Nat → Prop} {g : Nat} {a b : World} (h : But g a b) (hg : S g) : Buts S a b := ⟨h.os, h.tape, h.output, h.size, fun i hi hn => h.block i hi (fun e => hn (by injection e with e; rw [e]; exact hg))⟩
theorem Buts.mono {S T : Nat → Prop} {a b : World} (h : Buts S a b) (k : ∀ i, i < a.heap.size → S i → T i) : Buts T a b := ⟨h.os, h.tape, h.output, h.size, fun i hi hn => h.block i hi (fun e => hn (k i hi e))⟩
theorem Buts.drew {S : Nat → Prop} {a b : World} (h : Buts S a b) : Buts S a b.drew := ⟨h.os, h.tape, h.output, h.size, h.block⟩
theorem Buts.below {S : Nat → Prop} {C : Nat} {a b : World} (h : Buts S a b) (hS : ∀ i, S i → C ≤ i) (hC : C ≤ a.heap.size) : Below C a b :=
  ⟨h.os, h.tape, h.output, h.size, fun i hi => h.block i (by omega) (fun e => by have := hS i e; omega)⟩
theorem Buts.grown {S : Nat → Prop} {a b : World} {row : Option Nat} (h : a.grownBy b row) (hr : ∀ r, row = some r → S r) : Buts S a b := ⟨h.os, h.tape, h.output, h.size, fun i hi hn => h.block i hi (fun e => hn (hr i e.symm))⟩
theorem Buts.cell {S : Nat → Prop} {a b : World} {g o : Nat} {v : Value} (h : Buts S a b) (hc : a.cell? ⟨g, o, none⟩ = some v) (hg : ¬ S g) : b.cell? ⟨g, o, none⟩ = some v := by
  obtain ⟨_, ho, _⟩ := cells_of_cell hc
  exact (World.cell?_of_block (a := ⟨g, o, none⟩) (h.block g (Array.getElem?_eq_some_iff.1 ho).1 hg)).trans hc
theorem Buts.turn {S : Nat → Prop} {B : Nat} {w W W' : World} {row : Option Nat} (h : Buts S w W) (hg : W.grownBy W' row) (hB : w.heap.size ≤ B) (hr : ∀ r, row = some r → B ≤ r ∧ ∃ o : Obj, W.heap[r]? = some o ∧ o.isCells = false) : Buts S w W' := by
  refine ⟨hg.os.trans h.os, hg.tape.trans h.tape, hg.output.trans h.output, Nat.le_trans h.size hg.size, fun k hk hn => ?_⟩
  refine (hg.block k (Nat.lt_of_lt_of_le hk h.size) ?_).trans (h.block k hk hn)
  intro e
  have := (hr k e.symm).1
  omega
theorem own_buts {S : Nat → Prop} {w w' : World} {lo size n : Nat} {e : TypeId} {v : Value} {xs : List Value} (h : w.ownsRow lo e size v n xs) (k : Buts S w w') (hS : ∀ b, v.ownBlock = some b → ¬ S b) : w'.ownsRow lo e size v n xs := by
  rcases h.2 with ⟨e1, e2⟩ | ⟨g, cap, cur, ev, hb, hg, rest⟩
  · exact ⟨h.1, .inl ⟨e1, e2⟩⟩
  · exact ⟨h.1, .inr ⟨g, cap, cur, ev, hb, (k.block g (Array.getElem?_eq_some_iff.1 hg).1 (hS g (by rw [ev]; rfl))).trans hg, rest⟩⟩
theorem RowIn.buts {S : Nat → Prop} {w w' : World} {v : Value} {R : Cls} (h : RowIn w v R) (k : Buts S w w') (hS : ∀ b, v.ownBlock = some b → ¬ S b) : RowIn w' v R := by
  obtain ⟨a, c, e, h1, h2, h3⟩ := h
  refine ⟨a, c, e, h1, h2, fun h0 => ?_⟩
  obtain ⟨g, o, ea, hg, hC⟩ := h3 h0
  exact ⟨g, o, ea, Nat.lt_of_lt_of_le hg k.size, fun i hi => (hC i hi).same (k.block g hg (hS g (by rw [e, ea]; rfl)))⟩
theorem World.ownsRow.turn {w w' : World} {lo size n : Nat} {e : TypeId} {v : Value} {xs : List Value} {row : Option Nat} (h : w.ownsRow lo e size v n xs) (hg : w.grownBy w' row) (hr : ∀ r, row = some r → ∃ o : Obj, w.heap[r]? = some o ∧ o.isCells = false) : w'.ownsRow lo e size v n xs := by
  rcases h.2 with ⟨e1, e2⟩ | ⟨g, cap, cur, e, hb, hgg, rest⟩
  · exact ⟨h.1, .inl ⟨e1, e2⟩⟩
  · refine ⟨h.1, .inr ⟨g, cap, cur, e, hb, (hg.block g (Array.getElem?_eq_some_iff.1 hgg).1 ?_).trans hgg, rest⟩⟩
    intro e
    obtain ⟨o, ho, hc⟩ := hr g e.symm
    rw [hgg] at ho
    injection ho with ho
    rw [← ho] at hc
    cases hc
theorem own_type {w : World} {lo size n g : Nat} {e : TypeId} {v : Value} {xs : List Value} (h : w.ownsRow lo e size v n xs) (hb : v.ownBlock = some g) : ∃ cur, w.heap[g]? = some (.cells cur e (0, 0)) := by
  rcases h.2 with ⟨rfl, _⟩ | ⟨g', cap, cur, rfl, _, hg, _⟩
  · simp [Value.ownBlock] at hb
  · obtain rfl : g' = g := by simpa [Value.ownBlock] using hb
    exact ⟨cur, hg⟩
theorem own_shape {w : World} {lo size n : Nat} {e : TypeId} {v : Value} {xs : List Value} (h : w.ownsRow lo e size v n xs) : ∃ a c, v = .slice a n c := by
  rcases h.2 with ⟨rfl, h0⟩ | ⟨g, cap, cur, rfl, _⟩
  · exact ⟨none, 0, by rw [h0]⟩
  · exact ⟨_, cap, rfl⟩
theorem own_one {w : World} {lo size n : Nat} {e : TypeId} {v : Value} {xs : List Value} (h : w.ownsRow lo e size v n xs) : v.oneCell' = true := by
  obtain ⟨a, c, rfl⟩ := own_shape h
  rfl
theorem type_ne {w : World} {g h : Nat} {c d : Array Value} {T U : TypeId} {fr fs : Nat × Nat} (hg : w.heap[g]? = some (.cells c T fr)) (hh : w.heap[h]? = some (.cells d U fs)) (k : T ≠ U) : g ≠ h := by
  rintro rfl
  rw [hg] at hh
  injection hh with hh
  injection hh with _ hh
  exact k hh

abbrev rowG (G : List Cls) (i : Nat) : Cls := G.getD i []
/-! ### rows as they lie -/
/-- A row as it lies: its value, its cells. -/
structure Ln where
  v : Value
  R : Cls
abbrev rws (H : List Ln) : List Cls := H.map (·.R)
abbrev vls (H : List Ln) : List Value := H.map (·.v)
def LsOk (w : World) (H : List Ln) : Prop := ∀ x ∈ H, CRow w 0 x.v x.R
def Apart (H : List Ln) : Prop := H.Pairwise fun x y => ∀ b, x.v.ownBlock = some b → y.v.ownBlock ≠ some b
def Foot (H : List Ln) (X : Nat → Prop) : Prop := ∀ x ∈ H, ∀ b, x.v.ownBlock = some b → X b
theorem LsOk.below {w w' : World} {H : List Ln} (h : LsOk w H) (k : Below w.heap.size w w') : LsOk w' H := fun x hx => (h x hx).below k
theorem LsOk.buts {S : Nat → Prop} {w w' : World} {H : List Ln} (h : LsOk w H) (k : Buts S w w') (hS : Foot H (fun b => ¬ S b)) : LsOk w' H := fun x hx => own_buts (h x hx) k (hS x hx)
theorem LsOk.turn {w w' : World} {H : List Ln} {row : Option Nat} (h : LsOk w H) (hg : w.grownBy w' row) (hr : ∀ r, row = some r → ∃ o : Obj, w.heap[r]? = some o ∧ o.isCells = false) : LsOk w' H := fun x hx => World.ownsRow.turn (h x hx) hg hr
/-- A block that is no row of cells has turned. -/
theorem LsOk.past {w w' : World} {H : List Ln} {row : Option Nat} (h : LsOk w H) (k : w.grownBy w' row) (hg : ∀ g, row = some g → ∃ cur T fr, w.heap[g]? = some (.cells cur T fr) ∧ T ≠ 47) : LsOk w' H := fun x hx => by
  refine World.ownsRow.kept (h x hx) k ?_
  cases hb : x.v.ownBlock with
  | none => exact .inl rfl
  | some b =>
    refine .inr fun e => ?_
    obtain ⟨cur, T, fr, hc, hT⟩ := hg b e.symm
    obtain ⟨cu, hu⟩ := own_type (h x hx) hb
    exact type_ne hc hu hT rfl
theorem LsOk.nil (w : World) : LsOk w [] := fun _ h => by cases h
theorem LsOk.append {w : World} {H K : List Ln} (h : LsOk w H) (k : LsOk w K) : LsOk w (H ++ K) := fun x hx => (List.mem_append.1 hx).elim (h x) (k x)
theorem LsOk.one {w : World} {x : Ln} (h : CRow w 0 x.v x.R) : LsOk w [x] := fun y hy => by rw [List.mem_singleton.1 hy]; exact h
theorem LsOk.sub {w : World} {H K : List Ln} (h : LsOk w H) (k : ∀ x ∈ K, x ∈ H) : LsOk w K := fun x hx => h x (k x hx)
theorem Foot.nil (X : Nat → Prop) : Foot [] X := fun _ h => by cases h
theorem Foot.append {H K : List Ln} {X : Nat → Prop} (h : Foot H X) (k : Foot K X) : Foot (H ++ K) X := fun x hx => (List.mem_append.1 hx).elim (h x) (k x)
theorem Foot.one {x : Ln} {X : Nat → Prop} (h : ∀ b, x.v.ownBlock = some b → X b) : Foot [x] X := fun y hy => by rw [List.mem_singleton.1 hy]; exact h
theorem Foot.mono {H : List Ln} {X Y : Nat → Prop} (h : Foot H X) (k : ∀ b, X b → Y b) : Foot H Y := fun x hx b hb => k b (h x hx b hb)
theorem Foot.sub {H K : List Ln} {X : Nat → Prop} (h : Foot H X) (k : ∀ x ∈ K, x ∈ H) : Foot K X := fun x hx => h x (k x hx)
theorem LsOk.lt {w : World} {H : List Ln} (h : LsOk w H) : Foot H (· < w.heap.size) := fun x hx b hb => ((h x hx).lt b hb).2
theorem Apart.snoc {H : List Ln} {x : Ln} {m : Nat} (h : Apart H) (hH : Foot H (· < m)) (hx : ∀ b, x.v.ownBlock = some b → m ≤ b) : Apart (H ++ [x]) := by
  refine List.pairwise_append.2 ⟨h, List.pairwise_singleton _ _, fun y hy z hz b hb e => ?_⟩
  obtain rfl := List.mem_singleton.1 hz
  have h1 := hH y hy b hb
  have h2 := hx b e
  omega
theorem Apart.add {H : List Ln} {x : Ln} {X : Nat → Prop} (h : Apart H) (hH : Foot H X) (hx : ∀ b, x.v.ownBlock = some b → ¬ X b) : Apart (H ++ [x]) := by
  refine List.pairwise_append.2 ⟨h, List.pairwise_singleton _ _, fun y hy z hz b hb e => ?_⟩
  obtain rfl := List.mem_singleton.1 hz
  exact hx b e (hH y hy b hb)
theorem Apart.nil : Apart [] := List.Pairwise.nil
theorem apart_comm {x y : Ln} (h : ∀ b, x.v.ownBlock = some b → y.v.ownBlock ≠ some b) : ∀ b, y.v.ownBlock = some b → x.v.ownBlock ≠ some b := fun b hb e => h b e hb
theorem Apart.perm {H K : List Ln} (h : Apart H) (p : H.Perm K) : Apart K := (p.pairwise_iff (fun {x y} hx => apart_comm hx)).1 h
theorem Apart.sameV {H K : List Ln} (h : Apart H) (e : vls K = vls H) : Apart K := by
  have h1 : (vls H).Pairwise fun x y => ∀ b, x.ownBlock = some b → y.ownBlock ≠ some b := List.pairwise_map.2 h
  rw [← e] at h1
  exact List.pairwise_map.1 h1
theorem Apart.put {H : List Ln} {x : Ln} {X : Nat → Prop} {i : Nat} (h : Apart H) (hH : Foot H X) (hx : ∀ b, x.v.ownBlock = some b → ¬ X b) : Apart (H.set i x) := by
  by_cases hi : i < H.length
  · have e : H = H.take i ++ H[i] :: H.drop (i + 1) := by rw [List.getElem_cons_drop, List.take_append_drop]
    have h2 : Apart (H.take i ++ H.drop (i + 1)) := by
      unfold Apart at h ⊢
      rw [e] at h
      refine List.Pairwise.sublist ?_ h
      exact List.Sublist.append (List.Sublist.refl _) (List.sublist_cons_self _ _)
    have h3 := h2.add (x := x) (X := X) (hH.sub (fun y hy => (List.mem_append.1 hy).elim List.mem_of_mem_take List.mem_of_mem_drop)) hx
    have e2 : H.set i x = H.take i ++ x :: H.drop (i + 1) := by rw [List.set_eq_take_append_cons_drop, if_pos hi]
    rw [e2]
    refine h3.perm ?_
    rw [List.append_assoc]
    exact List.Perm.append_left _ (List.perm_append_comm (l₁ := H.drop (i + 1)) (l₂ := [x]))
  · rw [List.set_eq_of_length_le (by omega)]
    exact h
theorem Foot.sameV {H K : List Ln} {X : Nat → Prop} (h : Foot H X) (e : vls K = vls H) : Foot K X := by
  intro x hx b hb
  have : x.v ∈ vls H := by rw [← e]; exact List.mem_map_of_mem hx
  obtain ⟨y, hy, ey⟩ := List.mem_map.1 this
  exact h y hy b (by rw [ey]; exact hb)
theorem Foot.set {H : List Ln} {x : Ln} {i : Nat} {X : Nat → Prop} (h : Foot H X) (hx : ∀ b, x.v.ownBlock = some b → X b) : Foot (H.set i x) X := fun y hy => by
  rcases List.mem_or_eq_of_mem_set hy with q | q
  · exact h y q
  · rw [q]; exact hx
theorem LsOk.set {w : World} {H : List Ln} {x : Ln} {i : Nat} (h : LsOk w H) (hx : CRow w 0 x.v x.R) : LsOk w (H.set i x) := fun y hy => by
  rcases List.mem_or_eq_of_mem_set hy with q | q
  · exact h y q
  · rw [q]; exact hx

/-- A row of rows of the call's own. -/
def Hds (w : World) (v : Value) (H : List Ln) : Prop := w.ownsRow 0 38 1 v H.length (vls H)
theorem vls_get {H : List Ln} {i : Nat} (hi : i < H.length) : (vls H)[i]? = some (H[i]).v := by unfold vls; rw [List.getElem?_map, List.getElem?_eq_getElem hi]; rfl
theorem vls_one {w : World} {H : List Ln} (h : LsOk w H) : ∀ u ∈ vls H, u.oneCell' = true := by
  intro u hu
  obtain ⟨x, hx, rfl⟩ := List.mem_map.1 hu
  exact own_one (h x hx)
theorem infoRow : (Try.prog.info? 38).map (fun i => (i.zero, i.size, i.bytes)) = some (some (.slice none 0 0), 1, 24) := by kernel_rfl
/-- Rows as they can be read, in blocks of S. -/
structure LIn (S : Nat → Prop) (w : World) (v : Value) (H : List Ln) : Prop where
  sh : ∃ a c, v = .slice a H.length c ∧ H.length ≤ c ∧ c ≤ maxLen ∧ (0 < H.length → ∃ g o, a = some ⟨g, o, none⟩ ∧ g < w.heap.size ∧ S g ∧ ∀ i, (hi : i < H.length) → w.cell? ⟨g, o + i, none⟩ = some (H[i]).v)
  row : ∀ x ∈ H, RowIn w x.v x.R
  foot : Foot H S
theorem LIn.shape {S : Nat → Prop} {w : World} {v : Value} {H : List Ln} (h : LIn S w v H) : ∃ a c, v = .slice a H.length c ∧ H.length ≤ c := by
  obtain ⟨a, c, e, hc, _⟩ := h.sh
  exact ⟨a, c, e, hc⟩
theorem LIn.buts {S T : Nat → Prop} {w w' : World} {v : Value} {H : List Ln} (h : LIn S w v H) (k : Buts T w w') (d : ∀ j, S j → ¬ T j) : LIn S w' v H := by
  obtain ⟨a, c, e, hc, hm, hh⟩ := h.sh
  refine ⟨⟨a, c, e, hc, hm, fun h0 => ?_⟩, fun x hx => (h.row x hx).buts k (fun b hb => d b (h.foot x hx b hb)), h.foot⟩
  obtain ⟨g, o, ea, hg, hS, hC⟩ := hh h0
  exact ⟨g, o, ea, Nat.lt_of_lt_of_le hg k.size, hS, fun i hi => k.cell (hC i hi) (d g hS)⟩
theorem LIn.below {S : Nat → Prop} {w w' : World} {v : Value} {H : List Ln} (h : LIn S w v H) (k : Below w.heap.size w w') : LIn S w' v H := h.buts (T := fun _ => False) (Buts.of k) (fun _ _ h => h)
theorem LIn.mono {S T : Nat → Prop} {w : World} {v : Value} {H : List Ln} (h : LIn S w v H) (d : ∀ j, S j → T j) : LIn T w v H := by
  obtain ⟨a, c, e, hc, hm, hh⟩ := h.sh
  refine ⟨⟨a, c, e, hc, hm, fun h0 => ?_⟩, h.row, h.foot.mono d⟩
  obtain ⟨g, o, ea, hg, hS, hC⟩ := hh h0
  exact ⟨g, o, ea, hg, d g hS, hC⟩
/-- Rows of the call's own, apart from each other, in blocks of X. -/
structure Rows1 (X : Nat → Prop) (w : World) (v : Value) (H : List Ln) : Prop where
  hds : Hds w v H
  ok : LsOk w H
  apart : Apart H
  foot : Foot H X
  head : ∀ b, v.ownBlock = some b → X b
theorem Hds.get {w : World} {v : Value} {H : List Ln} (h : Hds w v H) (h0 : 0 < H.length) : ∃ g c, v = .slice (some ⟨g, 0, none⟩) H.length c ∧ H.length ≤ c ∧ g < w.heap.size ∧ (∃ cur, w.heap[g]? = some (.cells cur 38 (0, 0))) ∧ ∀ i, (hi : i < H.length) → w.cell? ⟨g, i, none⟩ = some (H[i]).v := by
  have h' : w.ownsRow 0 38 1 v H.length (vls H) := h
  rcases h'.2 with ⟨_, h1⟩ | ⟨g, cap, cur, e, _, hg, hnc, _⟩
  · omega
  · refine ⟨g, cap, e, hnc, (Array.getElem?_eq_some_iff.1 hg).1, ⟨cur, hg⟩, fun i hi => ?_⟩
    have := h'.cells (g := g) (by rw [e]; rfl) i _ (vls_get hi)
    rwa [Addr.add_mid, Nat.zero_add] at this
theorem Rows1.see {X : Nat → Prop} {w : World} {v : Value} {H : List Ln} (h : Rows1 X w v H) : LIn X w v H := by
  have h' : w.ownsRow 0 38 1 v H.length (vls H) := h.hds
  refine ⟨?_, fun x hx => (h.ok x hx).row, h.foot⟩
  rcases h'.2 with ⟨e, h1⟩ | ⟨g, cap, cur, e, _, hg, hnc, hm, _⟩
  · exact ⟨none, 0, by rw [e, h1], by omega, by decide, fun h0 => by omega⟩
  · refine ⟨_, cap, e, hnc, hm, fun h0 => ⟨g, 0, rfl, (Array.getElem?_eq_some_iff.1 hg).1, h.head g (by rw [e]; rfl), fun i hi => ?_⟩⟩
    have := h'.cells (g := g) (by rw [e]; rfl) i _ (vls_get hi)
    rwa [Addr.add_mid] at this
theorem Rows1.buts {X T : Nat → Prop} {w w' : World} {v : Value} {H : List Ln} (h : Rows1 X w v H) (k : Buts T w w') (d : ∀ j, X j → ¬ T j) : Rows1 X w' v H :=
  ⟨own_buts h.hds k (fun b hb => d b (h.head b hb)), h.ok.buts k (h.foot.mono d), h.apart, h.foot, h.head⟩
theorem Rows1.below {X : Nat → Prop} {w w' : World} {v : Value} {H : List Ln} (h : Rows1 X w v H) (k : Below w.heap.size w w') : Rows1 X w' v H := ⟨own_below h.hds k, h.ok.below k, h.apart, h.foot, h.head⟩
theorem Rows1.mono {X Y : Nat → Prop} {w : World} {v : Value} {H : List Ln} (h : Rows1 X w v H) (d : ∀ j, X j → Y j) : Rows1 Y w v H := ⟨h.hds, h.ok, h.apart, h.foot.mono d, fun b hb => d b (h.head b hb)⟩
theorem Rows1.nil (X : Nat → Prop) (w : World) : Rows1 X w (.slice none 0 0) [] := ⟨World.ownsRow_nil _ _ _ 1, LsOk.nil w, Apart.nil, Foot.nil X, fun _ h => by simp [Value.ownBlock] at h⟩
/-- All lie below the heap's end. -/
theorem Rows1.now {X : Nat → Prop} {w : World} {v : Value} {H : List Ln} (h : Rows1 X w v H) : Rows1 (fun j => X j ∧ j < w.heap.size) w v H :=
  ⟨h.hds, h.ok, h.apart, fun x hx b hb => ⟨h.foot x hx b hb, h.ok.lt x hx b hb⟩, fun b hb => ⟨h.head b hb, (World.ownsRow.lt h.hds b hb).2⟩⟩
/-- One row, appended to rows of the call's own: what is made, where it lies. -/
theorem wpList_append_ln {ops : Array Oper} {rest : List Oper} {o : Oper} {a : Act} {w : World} {Q : Exit → Act → World → Prop} (hgd : o.guard = none) (s x : Operand)
    (hop : o.op = Op.call { callee := Callee.builtin Builtin.append, args := #[s, x], argTypes := #[27, 27] })
    (v : Value) (H : List Ln) (hs : a.eval s = v) (hown : Hds w v H) (q : Nat) (u : Ln) (hx : a.eval x = .slice (some ⟨q, 0, none⟩) 1 1) (hq : w.cell? ⟨q, 0, none⟩ = some u.v) (hu : CRow w 0 u.v u.R)
    (hn : H.length ≤ 100000) (S : Nat) (hS : w.heap.size = S)
    (hK : ∀ g cap w', Hds w' (.slice (some ⟨g, 0, none⟩) (H.length + 1) cap) (H ++ [u]) → w.grownBy w' v.ownBlock → (v.ownBlock = some g ∨ g = S) → g < w'.heap.size → wpList Try.prog ops Q rest (a.put o.dst (.slice (some ⟨g, 0, none⟩) (H.length + 1) cap)) w') :
    wpList Try.prog ops Q (o :: rest) a w := by
  obtain ⟨ib, hi, hz0, hz1, hz2⟩ := info_parts infoRow
  refine wpList_append_lies w hgd s x 27 hop 0 38 ib (.slice none 0 0) 1 24 Try.underlying27 hi hz0 hz1 hz2 rfl (by decide) v H.length (vls H) hs hown ⟨q, 0, none⟩ 1 1 [u.v] hx rfl (fun j y hj => ?_) (fun y hy => by rw [List.mem_singleton.1 hy]; exact own_one hu) (by decide) (by unfold maxLen; omega) (by omega) (Nat.zero_le _) S hS (fun g cap w' h1 h2 h3 h4 => hK g cap w' ?_ h2 h3 h4)
  · have : j < 1 := (List.getElem?_eq_some_iff.1 hj).1
    obtain rfl : j = 0 := by omega
    obtain rfl : u.v = y := by simpa using hj
    exact hq
  · unfold Hds
    rw [List.length_append, List.length_singleton, show vls (H ++ [u]) = vls H ++ [u.v] by simp [vls]]
    exact h1
theorem LsOk.grown {w w' : World} {v : Value} {H K : List Ln} (h : LsOk w K) (hH : Hds w v H) (k : w.grownBy w' v.ownBlock) : LsOk w' K := h.past k fun g hg => by
  obtain ⟨cur, hc⟩ := own_type hH hg
  exact ⟨cur, _, _, hc, by decide⟩

/-! ### a ring behind its pointer -/
/-- What stands oldest first, of what goes round. -/
def turnL {α : Type} (f : Nat) (L : List α) : List α := L.drop f ++ L.take f
theorem turnL_len {α : Type} (f : Nat) (L : List α) : (turnL f L).length = L.length := by unfold turnL; rw [List.length_append, List.length_drop, List.length_take]; omega
theorem turnL_map {α β : Type} (g : α → β) (f : Nat) (L : List α) : turnL f (L.map g) = (turnL f L).map g := by unfold turnL; rw [List.map_append, List.map_drop, List.map_take]
theorem turnL_perm {α : Type} (f : Nat) (L : List α) : (turnL f L).Perm L := by
  unfold turnL
  exact (List.perm_append_comm).trans (by rw [List.take_append_drop])
theorem turnL_zero {α : Type} (L : List α) : turnL 0 L = L := by unfold turnL; simp
theorem turnL_get {α : Type} {f i : Nat} {L : List α} (hf : f ≤ L.length) (hi : i < L.length) : (turnL f L)[i]? = L[(f + i) % L.length]? := by
  unfold turnL
  by_cases h : i < L.length - f
  · rw [List.getElem?_append_left (by rw [List.length_drop]; exact h), List.getElem?_drop, Nat.mod_eq_of_lt (by omega)]
  · rw [List.getElem?_append_right (by rw [List.length_drop]; omega), List.length_drop, List.getElem?_take]
    rw [if_pos (by omega)]
    congr 1
    have : f + i = (i - (L.length - f)) + L.length := by omega
    rw [this, Nat.add_mod_right, Nat.mod_eq_of_lt (by omega)]
/-- The one that went is the first one; the one that came is the last. -/
theorem turnL_set {α : Type} {f : Nat} {L : List α} {x : α} (hf : f < L.length) : turnL ((f + 1) % L.length) (L.set f x) = (turnL f L).drop 1 ++ [x] := by
  have e2 : L.set f x = L.take f ++ x :: L.drop (f + 1) := by rw [List.set_eq_take_append_cons_drop, if_pos hf]
  have e3 : L.drop f = L[f] :: L.drop (f + 1) := List.drop_eq_getElem_cons hf
  have hl : (L.take f).length = f := by rw [List.length_take]; omega
  by_cases h : f + 1 < L.length
  · rw [Nat.mod_eq_of_lt h]
    unfold turnL
    rw [e3, e2, List.drop_append, List.take_append, hl, List.drop_eq_nil_of_le (by omega), show f + 1 - f = 1 by omega, List.take_of_length_le (l := L.take f) (by omega)]
    show _ = L.drop (f + 1) ++ L.take f ++ [x]
    simp
  · have hfl : f + 1 = L.length := by omega
    rw [hfl, Nat.mod_self]
    have : L.drop (f + 1) = [] := List.drop_eq_nil_of_le (by omega)
    rw [turnL_zero, e2, this]
    unfold turnL
    rw [e3, this]
    simp
/-- The last ones. -/
def lastN {α : Type} (n : Nat) (L : List α) : List α := L.drop (L.length - min L.length n)
theorem lastN_len {α : Type} (n : Nat) (L : List α) : (lastN n L).length = min L.length n := by unfold lastN; rw [List.length_drop]; omega
theorem lastN_few {α : Type} {n : Nat} {L : List α} (h : L.length ≤ n) : lastN n L = L := by unfold lastN; rw [Nat.min_eq_left h]; simp
theorem lastN_app {α : Type} (n : Nat) (A B : List α) : lastN n (lastN n A ++ B) = lastN n (A ++ B) := by
  unfold lastN
  rw [List.drop_append, List.drop_append]
  simp only [List.length_append, List.length_drop, List.drop_drop]
  congr 1
  · by_cases h : A.length ≤ n
    · rw [Nat.min_eq_left h]
      simp
    · rw [Nat.min_eq_right (show n ≤ A.length by omega)]
      by_cases hb : B.length ≤ n
      · congr 1
        omega
      · rw [List.drop_eq_nil_of_le (by omega), List.drop_eq_nil_of_le (by omega)]
  · congr 1
    omega
theorem lastN_tail {α : Type} {n : Nat} {A B : List α} (h : n ≤ B.length) : lastN n (A ++ B) = lastN n B := by
  unfold lastN
  rw [List.length_append, Nat.min_eq_right (by omega), Nat.min_eq_right h, List.drop_append, List.drop_eq_nil_of_le (by omega), List.nil_append]
  congr 1
  omega
theorem lastN_last {α : Type} (n : Nat) (A B : List α) : lastN n (A ++ lastN n B) = lastN n (A ++ B) := by
  by_cases h : B.length ≤ n
  · rw [lastN_few h]
  · have hl : (lastN n B).length = n := by rw [lastN_len]; omega
    rw [lastN_tail (by omega), lastN_tail (by omega), lastN_few (by omega)]
theorem lastN_snoc {α : Type} {n : Nat} {L : List α} {x : α} (h : L.length = n) (h0 : 0 < n) : lastN n (L ++ [x]) = L.drop 1 ++ [x] := by
  unfold lastN
  rw [List.length_append, List.length_singleton, Nat.min_eq_right (by omega), show L.length + 1 - n = 1 by omega, List.drop_append, show 1 - L.length = 0 by omega]
  rfl
theorem lastN_mem {α : Type} {n : Nat} {L : List α} {x : α} (h : x ∈ lastN n L) : x ∈ L := List.mem_of_mem_drop h
theorem lastN_map {α β : Type} (g : α → β) (n : Nat) (L : List α) : lastN n (L.map g) = (lastN n L).map g := by unfold lastN; rw [List.map_drop, List.length_map]
/-- A ring's block p: room n, its lines as they lie, where the oldest one lies, its label. -/
structure RgAt (X : Nat → Prop) (w : World) (p : Nat) (n : Nat) (v : Value) (H : List Ln) (f : Nat) (l : Int) : Prop where
  at' : w.heap[p]? = some (.cells #[.int .i64 (n : Nat), v, .int .i64 (f : Nat), .int .u8 l] 73 (0, 0))
  rws : Rows1 X w v H
  here : X p
  now : ∀ j, X j → j < w.heap.size
  n1 : n ≤ 1000
  len : H.length ≤ n
  first : f ≤ H.length ∧ (0 < H.length → f < H.length)
  full : 0 < f → H.length = n
  rowl : ∀ x ∈ H, x.R.length ≤ 1000
/-- A ring of these lines, oldest first; all its blocks are of X. -/
def Rg (X : Nat → Prop) (w : World) (p : Nat) (n : Nat) (G : List Cls) (l : Int) : Prop := ∃ v H f, RgAt X w p n v H f l ∧ turnL f (rws H) = G
abbrev pV (p : Nat) : Value := .pointer (some ⟨p, 0, none⟩)
theorem RgAt.cells {X : Nat → Prop} {w : World} {p n f : Nat} {v : Value} {H : List Ln} {l : Int} (h : RgAt X w p n v H f l) :
    w.cell? ⟨p, 0, none⟩ = some (.int .i64 (n : Nat)) ∧ w.cell? ⟨p, 1, none⟩ = some v ∧ w.cell? ⟨p, 2, none⟩ = some (.int .i64 (f : Nat)) ∧ w.cell? ⟨p, 3, none⟩ = some (.int .u8 l) := by
  refine ⟨?_, ?_, ?_, ?_⟩ <;> (rw [cell_of_row w p _ _ _ _ h.at']; simp)
theorem RgAt.frozen {X : Nat → Prop} {w : World} {p n f : Nat} {v : Value} {H : List Ln} {l : Int} (h : RgAt X w p n v H f l) (k : Nat) : w.frozen? ⟨p, k, none⟩ = false := frozen_of_row w p k _ _ h.at'
theorem RgAt.buts {X T : Nat → Prop} {w w' : World} {p n f : Nat} {v : Value} {H : List Ln} {l : Int} (h : RgAt X w p n v H f l) (k : Buts T w w') (d : ∀ j, X j → ¬ T j) : RgAt X w' p n v H f l :=
  ⟨(k.block p (h.now p h.here) (d p h.here)).trans h.at', h.rws.buts k d, h.here, fun j hj => Nat.lt_of_lt_of_le (h.now j hj) k.size, h.n1, h.len, h.first, h.full, h.rowl⟩
theorem RgAt.below {X : Nat → Prop} {w w' : World} {p n f : Nat} {v : Value} {H : List Ln} {l : Int} (h : RgAt X w p n v H f l) (k : Below w.heap.size w w') : RgAt X w' p n v H f l := h.buts (T := fun _ => False) (Buts.of k) (fun _ _ h => h)
theorem Rg.buts {X T : Nat → Prop} {w w' : World} {p n : Nat} {G : List Cls} {l : Int} (h : Rg X w p n G l) (k : Buts T w w') (d : ∀ j, X j → ¬ T j) : Rg X w' p n G l := by
  obtain ⟨v, H, f, h1, h2⟩ := h
  exact ⟨v, H, f, h1.buts k d, h2⟩
theorem Rg.below {X : Nat → Prop} {w w' : World} {p n : Nat} {G : List Cls} {l : Int} (h : Rg X w p n G l) (k : Below w.heap.size w w') : Rg X w' p n G l := h.buts (T := fun _ => False) (Buts.of k) (fun _ _ h => h)
theorem Rg.len {X : Nat → Prop} {w : World} {p n : Nat} {G : List Cls} {l : Int} (h : Rg X w p n G l) : G.length ≤ n ∧ n ≤ 1000 ∧ ∀ R ∈ G, R.length ≤ 1000 := by
  obtain ⟨v, H, f, h1, rfl⟩ := h
  refine ⟨by rw [turnL_len, List.length_map]; exact h1.len, h1.n1, fun R hR => ?_⟩
  have := (turnL_perm f (Lab.rws H)).mem_iff.1 hR
  obtain ⟨x, hx, rfl⟩ := List.mem_map.1 this
  exact h1.rowl x hx
theorem Rg.now {X : Nat → Prop} {w : World} {p n : Nat} {G : List Cls} {l : Int} (h : Rg X w p n G l) : X p ∧ ∀ j, X j → j < w.heap.size := by
  obtain ⟨v, H, f, h1, _⟩ := h
  exact ⟨h1.here, h1.now⟩
/-- What a call may add to where something lies. -/
abbrev grew (X : Nat → Prop) (w w' : World) : Nat → Prop := fun j => X j ∨ (w.heap.size ≤ j ∧ j < w'.heap.size)
end Go.Proofs.Ytnefamgjlhdffaa.Lab
