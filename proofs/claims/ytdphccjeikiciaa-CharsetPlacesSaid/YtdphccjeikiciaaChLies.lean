/- Choices that lie in memory, each in a block of its own; and each method's contract at a known choice. -/
import Derived.Test.YtdphccjeikiciaaChMap
namespace Go.Proofs.Ytdphccjeikiciaa.Lab
open Go.RowKit

def put6 (w : World) (b : Nat) (k : Ch) : World :=
  (((((w.setCell ⟨b, 0, none⟩ (.int .i64 k.a)).setCell ⟨b, 1, none⟩ (.int .i64 k.b)).setCell ⟨b, 2, none⟩ (.int .i64 k.c)).setCell ⟨b, 3, none⟩ (.int .i64 k.d)).setCell ⟨b, 4, none⟩ (.int .i64 k.l)).setCell ⟨b, 5, none⟩ (.int .i64 k.s)

theorem put6_size (w : World) (b : Nat) (k : Ch) : (put6 w b k).heap.size = w.heap.size := by simp [put6]
theorem put6_heap (w : World) (b b' : Nat) (k : Ch) (h : b' ≠ b) : (put6 w b k).heap[b']? = w.heap[b']? := by
  unfold put6
  rw [Below.heap_setCell _ _ _ _ h, Below.heap_setCell _ _ _ _ h, Below.heap_setCell _ _ _ _ h, Below.heap_setCell _ _ _ _ h, Below.heap_setCell _ _ _ _ h, Below.heap_setCell _ _ _ _ h]

theorem V6.put_other {w : World} {b b' : Nat} {k m : Ch} (h : V6 w b k) (ne : b ≠ b') : V6 (put6 w b' m) b k := by
  have e := put6_heap w b' b m ne
  have c : ∀ i, (put6 w b' m).cell? ⟨b, i, none⟩ = w.cell? ⟨b, i, none⟩ := fun i => World.cell?_of_block e
  have f : ∀ i, (put6 w b' m).frozen? ⟨b, i, none⟩ = w.frozen? ⟨b, i, none⟩ := fun i => World.frozen?_of_block e
  obtain ⟨h0, ⟨h1, h2, h3, h4, h5, h6⟩, h7⟩ := h
  exact ⟨by rw [put6_size]; exact h0, ⟨(c 0).trans h1, (c 1).trans h2, (c 2).trans h3, (c 3).trans h4, (c 4).trans h5, (c 5).trans h6⟩, fun i => (f i).trans (h7 i)⟩

theorem V6.put_same {w : World} {b : Nat} {k : Ch} (h : V6 w b k) (m : Ch) : V6 (put6 w b m) b m := by
  obtain ⟨h0, ⟨h1, h2, h3, h4, h5, h6⟩, h7⟩ := h
  refine ⟨by rw [put6_size]; exact h0, ?_, fun i => ?_⟩
  · unfold put6
    refine ⟨?_, ?_, ?_, ?_, ?_, ?_⟩ <;> simp [World.cell?_setCell_other, World.cell?_setCell_same', h1, h2, h3, h4, h5, h6]
  · unfold put6
    simp [h7 i]

/-- These choices lie in these blocks, all new since w0; nothing elder has turned. -/
def Lies (w0 w : World) (L : List (Nat × Ch)) : Prop := Below w0.heap.size w0 w ∧ L.Pairwise (fun p q => p.1 ≠ q.1) ∧ ∀ q ∈ L, w0.heap.size ≤ q.1 ∧ V6 w q.1 q.2

theorem Lies.start (w : World) : Lies w w [] := ⟨Below.refl _ _, List.Pairwise.nil, fun _ h => by cases h⟩
theorem Lies.on {w0 w w' : World} {L : List (Nat × Ch)} (H : Lies w0 w L) (hb : Below w.heap.size w w') : Lies w0 w' L :=
  ⟨bstep H.1 hb, H.2.1, fun q hq => ⟨(H.2.2 q hq).1, (H.2.2 q hq).2.below hb⟩⟩
theorem Lies.drew {w0 w : World} {L : List (Nat × Ch)} (H : Lies w0 w L) : Lies w0 w.drew L := ⟨H.1.drew, H.2.1, fun q hq => ⟨(H.2.2 q hq).1, (H.2.2 q hq).2.drew⟩⟩
theorem Lies.past {w0 w : World} {L : List (Nat × Ch)} (H : Lies w0 w L) (o : Obj) : Lies w0 (w.alloc o) L := H.on ((Below.refl _ _).alloc (Nat.le_refl _) o)
theorem Lies.new {w0 w : World} {L : List (Nat × Ch)} (H : Lies w0 w L) (a b c d l s : Int) (T : TypeId) :
    Lies w0 (w.alloc (.cells #[.int .i64 a, .int .i64 b, .int .i64 c, .int .i64 d, .int .i64 l, .int .i64 s] T)) ((w.heap.size, ⟨a, b, c, d, l, s⟩) :: L) := by
  have P := H.past (.cells #[.int .i64 a, .int .i64 b, .int .i64 c, .int .i64 d, .int .i64 l, .int .i64 s] T)
  refine ⟨P.1, List.Pairwise.cons (fun q hq => ?_) H.2.1, fun q hq => ?_⟩
  · have := (H.2.2 q hq).2.1
    simp only
    omega
  · rcases List.mem_cons.1 hq with rfl | hq
    · exact ⟨H.1.size, V6.newAt w _ rfl a b c d l s T⟩
    · exact P.2.2 q hq
theorem Lies.get {w0 w : World} {L : List (Nat × Ch)} (H : Lies w0 w L) (i : Nat) {b : Nat} {k : Ch} (hi : L[i]? = some (b, k)) : V6S w b k := (H.2.2 _ (List.mem_of_getElem? hi)).2.s
theorem Lies.at {w0 w : World} {L : List (Nat × Ch)} (H : Lies w0 w L) (i : Nat) {b : Nat} {k : Ch} (hi : L[i]? = some (b, k)) : w0.heap.size ≤ b ∧ V6 w b k := H.2.2 _ (List.mem_of_getElem? hi)
theorem Lies.put {w0 w : World} {L : List (Nat × Ch)} (H : Lies w0 w L) (i : Nat) {b : Nat} {k : Ch} (hi : L[i]? = some (b, k)) (m : Ch) : Lies w0 (put6 w b m) (L.set i (b, m)) := by
  have hL : ∀ j p, L[j]? = some p → j ≠ i → p.1 ≠ b := by
    intro j p hj ne he
    obtain ⟨hi1, hi2⟩ := List.getElem?_eq_some_iff.1 hi
    obtain ⟨hj1, hj2⟩ := List.getElem?_eq_some_iff.1 hj
    rcases Nat.lt_or_gt_of_ne ne with h | h
    · have := List.pairwise_iff_getElem.1 H.2.1 j i hj1 hi1 h
      rw [hj2, hi2] at this
      exact this he
    · have := List.pairwise_iff_getElem.1 H.2.1 i j hi1 hj1 h
      rw [hj2, hi2] at this
      exact this he.symm
  have hb := H.at i hi
  have B : Below w0.heap.size w0 (put6 w b m) := by
    unfold put6
    exact (((((H.1.setCell hb.1 _).setCell hb.1 _).setCell hb.1 _).setCell hb.1 _).setCell hb.1 _).setCell hb.1 _
  refine ⟨B, ?_, fun q hq => ?_⟩
  · rw [List.pairwise_iff_getElem]
    intro x y hx hy hxy
    have hx' : x < L.length := by simpa using hx
    have hy' : y < L.length := by simpa using hy
    have e := List.pairwise_iff_getElem.1 H.2.1 x y hx' hy' hxy
    rw [List.getElem_set, List.getElem_set]
    by_cases h1 : i = x
    · have h2 : ¬ i = y := by omega
      rw [if_pos h1, if_neg h2]
      exact fun he => hL y _ (List.getElem?_eq_some_iff.2 ⟨hy', rfl⟩) (fun h => h2 h.symm) he.symm
    · rw [if_neg h1]
      by_cases h2 : i = y
      · rw [if_pos h2]
        exact hL x _ (List.getElem?_eq_some_iff.2 ⟨hx', rfl⟩) (fun h => h1 h.symm)
      · rw [if_neg h2]
        exact e
  · obtain ⟨j, hj, hq2⟩ := List.getElem_of_mem hq
    have hj' : j < L.length := by simpa using hj
    rw [List.getElem_set] at hq2
    by_cases h1 : i = j
    · rw [if_pos h1] at hq2
      subst hq2
      exact ⟨hb.1, hb.2.put_same m⟩
    · rw [if_neg h1] at hq2
      have hq3 := H.2.2 q (by rw [← hq2]; exact List.getElem_mem _)
      exact ⟨hq3.1, hq3.2.put_other (hL j q (List.getElem?_eq_some_iff.2 ⟨hj', hq2⟩) (fun h => h1 h.symm))⟩

theorem Lies.on_new {w0 w w' : World} {L : List (Nat × Ch)} {a b c d l s : Int} {T : TypeId} (H : Lies w0 w L) (hb : Below (w.alloc (.cells #[.int .i64 a, .int .i64 b, .int .i64 c, .int .i64 d, .int .i64 l, .int .i64 s] T)).heap.size (w.alloc (.cells #[.int .i64 a, .int .i64 b, .int .i64 c, .int .i64 d, .int .i64 l, .int .i64 s] T)) w') :
    Lies w0 w' ((w.heap.size, ⟨a, b, c, d, l, s⟩) :: L) := (H.new a b c d l s T).on hb

theorem des_lit (a b c d l s p f a' b' c' d' l' s' : Int) (q : Bool) (h : Ch.des ⟨a, b, c, d, l, s⟩ p f = (⟨a', b', c', d', l', s'⟩, q)) (w : World) : Calls Try.prog 9 #[.agg #[.int .i64 a, .int .i64 b, .int .i64 c, .int .i64 d, .int .i64 l, .int .i64 s], .int .i64 p, .int .u8 f] w fun e w' => e = .returned (.tuple #[.agg #[.int .i64 a', .int .i64 b', .int .i64 c', .int .i64 d', .int .i64 l', .int .i64 s'], .bool q]) ∧ Below w.heap.size w w' := by
  have := des_any ⟨a, b, c, d, l, s⟩ p f w
  rw [h] at this
  exact this
theorem lock_lit (a b c d l s f a' b' c' d' l' s' : Int) (q : Bool) (h : Ch.lock ⟨a, b, c, d, l, s⟩ f = (⟨a', b', c', d', l', s'⟩, q)) (w : World) : Calls Try.prog 11 #[.agg #[.int .i64 a, .int .i64 b, .int .i64 c, .int .i64 d, .int .i64 l, .int .i64 s], .int .u8 f] w fun e w' => e = .returned (.tuple #[.agg #[.int .i64 a', .int .i64 b', .int .i64 c', .int .i64 d', .int .i64 l', .int .i64 s'], .bool q]) ∧ Below w.heap.size w w' := by
  have := lock_any ⟨a, b, c, d, l, s⟩ f w
  rw [h] at this
  exact this
theorem one_lit (a b c d l s f a' b' c' d' l' s' : Int) (q : Bool) (h : Ch.one ⟨a, b, c, d, l, s⟩ f = (⟨a', b', c', d', l', s'⟩, q)) (w : World) : Calls Try.prog 13 #[.agg #[.int .i64 a, .int .i64 b, .int .i64 c, .int .i64 d, .int .i64 l, .int .i64 s], .int .i64 f] w fun e w' => e = .returned (.tuple #[.agg #[.int .i64 a', .int .i64 b', .int .i64 c', .int .i64 d', .int .i64 l', .int .i64 s'], .bool q]) ∧ Below w.heap.size w w' := by
  have := one_any ⟨a, b, c, d, l, s⟩ f w
  rw [h] at this
  exact this
theorem map_lit (a b c d l s f a' b' c' d' l' s' q : Int) (h : Ch.map ⟨a, b, c, d, l, s⟩ f = (⟨a', b', c', d', l', s'⟩, q)) (ok : Ch.Ok ⟨a, b, c, d, l, s⟩) (w : World) : Calls Try.prog 15 #[.agg #[.int .i64 a, .int .i64 b, .int .i64 c, .int .i64 d, .int .i64 l, .int .i64 s], .int .i32 f] w fun e w' => e = .returned (.tuple #[.agg #[.int .i64 a', .int .i64 b', .int .i64 c', .int .i64 d', .int .i64 l', .int .i64 s'], .int .i32 q]) ∧ Below w.heap.size w w' := by
  have := map_any ⟨a, b, c, d, l, s⟩ f w ok
  rw [h] at this
  exact this
theorem now_lit (a b c d l s q : Int) (h : Ch.now ⟨a, b, c, d, l, s⟩ = q) (w : World) : Calls Try.prog 18 #[.agg #[.int .i64 a, .int .i64 b, .int .i64 c, .int .i64 d, .int .i64 l, .int .i64 s]] w fun e w' => e = .returned (.int .i64 q) ∧ Below w.heap.size w w' := by
  have := now_any ⟨a, b, c, d, l, s⟩ w
  rw [h] at this
  exact this
theorem sets_lit (a b c d l s : Int) (w : World) : Calls Try.prog 17 #[.agg #[.int .i64 a, .int .i64 b, .int .i64 c, .int .i64 d, .int .i64 l, .int .i64 s]] w fun e w' => e = .returned (.agg #[.int .i64 a, .int .i64 b, .int .i64 c, .int .i64 d]) ∧ Below w.heap.size w w' := sets_any ⟨a, b, c, d, l, s⟩ w
theorem of_lit (s r x : Int) (h : ofM s r = x) (w : World) : Calls Try.prog 21 #[.int .i64 s, .int .i32 r] w fun e w' => e = .returned (.int .i32 x) ∧ Below w.heap.size w w' := by
  subst h
  exact of_any s r w
end Go.Proofs.Ytdphccjeikiciaa.Lab
