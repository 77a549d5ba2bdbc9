/- Rows of tokens that the call itself has made; a row that is there, or none, appended to one. -/
import Derived.Test.YtclaopidjfekmaaDoorToApartM
import Derived.Laws.AppendOwnNone
namespace Go.Proofs.YtclaopidjfekmaaDoor.Lab
open Go Go.RowKit

/-- A token's seven cells; its parameters stand at m. -/
def cells7 (t : Tok) (m : Value) : List Value := [.int .i64 t.kind, .int .i32 t.rune, .int .u8 t.priv, m, .string t.inter, .int .u8 t.fin, .string t.data]
abbrev TVs := List (Tok × Value)
def flat7 (L : TVs) : List Value := L.flatMap fun p => cells7 p.1 p.2
theorem flat7_len : ∀ L : TVs, (flat7 L).length = L.length * 7
  | [] => rfl
  | p :: L => by
    show (cells7 p.1 p.2 ++ flat7 L).length = _
    rw [List.length_append, flat7_len L]
    simp [cells7]
    omega
theorem flat7_get : ∀ (L : TVs) (j i : Nat) (p : Tok × Value), L[j]? = some p → i < 7 → (flat7 L)[j * 7 + i]? = (cells7 p.1 p.2)[i]?
  | [], j, i, p, h, _ => by simp at h
  | q :: L, 0, i, p, h, hi => by
    simp at h
    subst h
    show (cells7 q.1 q.2 ++ flat7 L)[0 * 7 + i]? = _
    rw [List.getElem?_append_left (by simp [cells7]; omega)]
    simp
  | q :: L, j + 1, i, p, h, hi => by
    have h' : L[j]? = some p := by simpa using h
    show (cells7 q.1 q.2 ++ flat7 L)[(j + 1) * 7 + i]? = _
    rw [List.getElem?_append_right (by simp [cells7]; omega)]
    have e : (j + 1) * 7 + i - (cells7 q.1 q.2).length = j * 7 + i := by simp [cells7]; omega
    rw [e, flat7_get L j i p h' hi]
theorem flat7_snoc (L : TVs) (t : Tok) (m : Value) : flat7 (L ++ [(t, m)]) = flat7 L ++ cells7 t m := by simp [flat7]
theorem flat7_one (L : TVs) : ∀ u ∈ flat7 L, (∀ p ∈ L, p.2.oneCell' = true) → u.oneCell' = true := by
  intro u hu h
  obtain ⟨p, hp, hu⟩ := List.mem_flatMap.1 hu
  have := h p hp
  simp [cells7] at hu
  rcases hu with rfl | rfl | rfl | rfl | rfl | rfl | rfl <;> first | exact this | rfl

theorem mat_one {w : World} {v : Value} {R : Rws} (h : MatAt w v R) : v.oneCell' = true := by
  obtain ⟨a, c, rfl, _⟩ := h
  rfl
/-- Tokens in a row of the call's own. -/
theorem toks_of {w : World} {base : Nat} {v : Value} {L : TVs} (h : w.ownsRow base 27 7 v L.length (flat7 L)) (hm : ∀ p ∈ L, MatAt w p.2 p.1.P) : ToksAt w v (L.map Prod.fst) := by
  have hmx := own_max h
  rcases h.2 with ⟨rfl, h0⟩ | ⟨g, cap, cur, rfl, _⟩
  · obtain rfl : L = [] := List.length_eq_zero_iff.1 h0
    exact ⟨none, 0, rfl, by simp, fun h => by simp at h⟩
  · refine ⟨_, cap, by rw [List.length_map], by rw [List.length_map]; exact hmx, fun _ => ⟨g, 0, rfl, fun j hj => ?_⟩⟩
    have hj' : j < L.length := by simpa using hj
    obtain ⟨p, hp⟩ : ∃ p, L[j]? = some p := ⟨L[j], List.getElem?_eq_getElem hj'⟩
    have hR := hm p (List.mem_of_getElem? hp)
    have hc : ∀ i u, i < 7 → (cells7 p.1 p.2)[i]? = some u → w.cell? ⟨g, 0 + j * 7 + i, none⟩ = some u := by
      intro i u hi hu
      have := h.cells (g := g) rfl (j * 7 + i) u (by rw [flat7_get L j i p hp hi]; exact hu)
      rw [Addr.add_mid] at this
      rw [show 0 + j * 7 + i = 0 + (j * 7 + i) by omega]
      exact this
    have eg : (L.map Prod.fst).getD j default = p.1 := by simp [List.getD_eq_getElem?_getD, hp]
    rw [eg]
    obtain ⟨a, c, e, hrest⟩ := hR
    refine ⟨a, _, c, ⟨by have := hc 0 _ (by omega) rfl; simpa using this, hc 1 _ (by omega) rfl, hc 2 _ (by omega) rfl, by rw [← e]; exact hc 3 _ (by omega) rfl, hc 4 _ (by omega) rfl, hc 5 _ (by omega) rfl, hc 6 _ (by omega) rfl⟩, a, c, rfl, hrest⟩

theorem own_apart {w w' : World} {lo base s s' n n' : Nat} {e e' : TypeId} {v u : Value} {xs xs' : List Value} (ne : e ≠ e') (h : w.ownsRow lo e s v n xs) (ho : w.ownsRow base e' s' u n' xs') (hg : w.grownBy w' u.ownBlock) : w'.ownsRow lo e s v n xs := by
  rcases h.2 with ⟨rfl, h0⟩ | ⟨g, cap, cur, rfl, _, hc, _⟩
  · exact ⟨h.1, .inl ⟨rfl, h0⟩⟩
  · refine h.kept hg (.inr fun e => ?_)
    rcases ho.2 with ⟨rfl, _⟩ | ⟨g', cap', cur', rfl, _, hg', _⟩
    · simp [Value.ownBlock] at e
    · simp [Value.ownBlock] at e
      subst e
      rw [hc] at hg'
      simp at hg'
      exact ne hg'.2
theorem RRow.apart7 {w w' : World} {lo base n : Nat} {v u : Value} {R : Rws} {xs : List Value} (h : RRow w lo v R) (ho : w.ownsRow base 27 7 u n xs) (hg : w.grownBy w' u.ownBlock) : RRow w' lo v R := by
  obtain ⟨us, h, hi⟩ := h
  exact ⟨us, own_apart (by decide) h ho hg, fun i hl => own_apart (by decide) (hi i hl) ho hg⟩
/-- A row of tokens, all of it the call's own. -/
def TRow (w : World) (lo : Nat) (v : Value) (L : TVs) : Prop := w.ownsRow lo 27 7 v L.length (flat7 L) ∧ ∀ p ∈ L, RRow w lo p.2 p.1.P
theorem TRow.nil (w : World) (lo : Nat) : TRow w lo (.slice none 0 0) [] := ⟨World.ownsRow_nil w lo _ 7, by simp⟩
theorem TRow.below {w w' : World} {lo : Nat} {v : Value} {L : TVs} (h : TRow w lo v L) (hb : Below w.heap.size w w') : TRow w' lo v L := ⟨row_below h.1 hb, fun p hp => (h.2 p hp).below hb⟩
theorem TRow.toks {w : World} {lo : Nat} {v : Value} {L : TVs} (h : TRow w lo v L) : ToksAt w v (L.map Prod.fst) := toks_of h.1 fun p hp => (h.2 p hp).mat
theorem TRow.snoc {w w' : World} {lo : Nat} {v v' : Value} {L : TVs} {t : Tok} {m : Value} (h : TRow w lo v L) (hm : RRow w lo m t.P) (ho : w'.ownsRow lo 27 7 v' (L.length + 1) (flat7 L ++ cells7 t m)) (hg : w.grownBy w' v.ownBlock) : TRow w' lo v' (L ++ [(t, m)]) := by
  refine ⟨by rw [flat7_snoc, List.length_append]; exact ho, fun p hp => ?_⟩
  rcases List.mem_append.1 hp with hp | hp
  · exact (h.2 p hp).apart7 h.1 hg
  · rw [List.mem_singleton.1 hp]
    exact hm.apart7 h.1 hg

/-- A row that is there, or none, appended to a row of the call's own. -/
theorem wp_append_row {P : Program} {o : Oper} {a : Act} {w : World} {K : Act → World → Prop} {Q : Exit → Act → World → Prop}
    (s x : Operand) (t : TypeId) (hop : o.op = Op.call { callee := Callee.builtin Builtin.append, args := #[s, x], argTypes := #[t, t] })
    (base : Nat) (e : TypeId) (i : TypeInfo) (z : Value) (size bytes : Nat) (h1 : P.underlying t = some (.slice e)) (h2 : P.info? e = some i) (h3 : i.zero = some z) (h4 : i.size = size) (h5 : i.bytes = bytes) (h6 : z.cells.size = size) (h7 : 0 < size)
    (v : Value) (n : Nat) (xs : List Value) (hs : a.eval s = v) (hown : w.ownsRow base e size v n xs)
    (base' m : Nat) (u : Value) (news : List Value) (hu : a.eval x = u) (hx : w.ownsRow base' e size u m news) (h1c : ∀ u ∈ news, u.oneCell' = true)
    (b1 : n + m ≤ maxLen) (b2 : (n + m) * bytes ≤ 140737488355328) (hb : base ≤ w.heap.size)
    (hK : ∀ v' w', w'.ownsRow base e size v' (n + m) (xs ++ news) → w.grownBy w' v.ownBlock → K (a.put o.dst v') w') :
    Oper.wp P o a w K Q := by
  have hn := hx.1
  rcases hx.2 with ⟨rfl, rfl⟩ | ⟨g, c, cur, rfl, _⟩
  · have hrun := run_append_owned_none (P := P) (w := w) base t o.type e i size h1 h2 v n xs hown
    have e0 : news = [] := List.eq_nil_of_length_eq_zero (by simpa using hn)
    unfold Oper.wp
    simp [execOp, hop, resolve, invoke, builtin, hs, hu, hrun, Result.andThen]
    exact hK v w (by simpa [e0] using hown) ⟨rfl, rfl, rfl, Nat.le_refl _, fun _ _ _ => rfl⟩
  · obtain ⟨v', w', hrun, r1, r2, _⟩ := run_append_own (P := P) w base t o.type e i z size bytes h1 h2 h3 h4 h5 h6 h7 v n xs hown ⟨g, 0, none⟩ m c news hn (hx.cells (g := g) rfl) h1c b1 b2 hb
    unfold Oper.wp
    simp [execOp, hop, resolve, invoke, builtin, hs, hu, hrun, Result.andThen]
    exact hK v' w' r1 r2

theorem wpList_append_row {P : Program} {ops : Array Oper} {rest : List Oper} {o : Oper} {a : Act} {w : World} {Q : Exit → Act → World → Prop} (hgd : o.guard = none)
    (s x : Operand) (t : TypeId) (hop : o.op = Op.call { callee := Callee.builtin Builtin.append, args := #[s, x], argTypes := #[t, t] })
    (base : Nat) (e : TypeId) (i : TypeInfo) (z : Value) (size bytes : Nat) (h1 : P.underlying t = some (.slice e)) (h2 : P.info? e = some i) (h3 : i.zero = some z) (h4 : i.size = size) (h5 : i.bytes = bytes) (h6 : z.cells.size = size) (h7 : 0 < size)
    (v : Value) (n : Nat) (xs : List Value) (hs : a.eval s = v) (hown : w.ownsRow base e size v n xs)
    (base' m : Nat) (u : Value) (news : List Value) (hu : a.eval x = u) (hx : w.ownsRow base' e size u m news) (h1c : ∀ u ∈ news, u.oneCell' = true)
    (b1 : n + m ≤ maxLen) (b2 : (n + m) * bytes ≤ 140737488355328) (hb : base ≤ w.heap.size)
    (hK : ∀ v' w', w'.ownsRow base e size v' (n + m) (xs ++ news) → w.grownBy w' v.ownBlock → wpList P ops Q rest (a.put o.dst v') w') :
    wpList P ops Q (o :: rest) a w :=
  wpList_plain hgd fun _ hK' => wp_append_row s x t hop base e i z size bytes h1 h2 h3 h4 h5 h6 h7 v n xs hs hown base' m u news hu hx h1c b1 b2 hb fun v' w' h2 h3 => hK' _ _ (hK v' w' h2 h3)

/-- Seven cells within a block. -/
def put7o (w : World) (b o : Nat) (a0 a1 a2 a3 a4 a5 a6 : Value) : World :=
  ((((((w.setCell ⟨b, o, none⟩ a0).setCell ⟨b, o + 1, none⟩ a1).setCell ⟨b, o + 2, none⟩ a2).setCell ⟨b, o + 3, none⟩ a3).setCell ⟨b, o + 4, none⟩ a4).setCell ⟨b, o + 5, none⟩ a5).setCell ⟨b, o + 6, none⟩ a6
theorem put7o_size (w : World) (b o : Nat) (a0 a1 a2 a3 a4 a5 a6 : Value) : (put7o w b o a0 a1 a2 a3 a4 a5 a6).heap.size = w.heap.size := by simp [put7o]
theorem put7o_heap (w : World) (b o b' : Nat) (a0 a1 a2 a3 a4 a5 a6 : Value) (h : b' ≠ b) : (put7o w b o a0 a1 a2 a3 a4 a5 a6).heap[b']? = w.heap[b']? := by
  unfold put7o
  rw [Below.heap_setCell _ _ _ _ h, Below.heap_setCell _ _ _ _ h, Below.heap_setCell _ _ _ _ h, Below.heap_setCell _ _ _ _ h, Below.heap_setCell _ _ _ _ h, Below.heap_setCell _ _ _ _ h, Below.heap_setCell _ _ _ _ h]
theorem put7o_below {C : Nat} {a w : World} (h : Below C a w) {b o : Nat} (hb : C ≤ b) (c0 c1 c2 c3 c4 c5 c6 : Value) : Below C a (put7o w b o c0 c1 c2 c3 c4 c5 c6) := by
  unfold put7o
  exact ((((((h.setCell hb _).setCell hb _).setCell hb _).setCell hb _).setCell hb _).setCell hb _).setCell hb _
theorem put7o_other (w : World) (b o i : Nat) (a0 a1 a2 a3 a4 a5 a6 : Value) (h : i < o ∨ o + 7 ≤ i) : (put7o w b o a0 a1 a2 a3 a4 a5 a6).cell? ⟨b, i, none⟩ = w.cell? ⟨b, i, none⟩ := by
  have key : ∀ (w : World) (k : Nat) (v : Value), k ≠ i → (w.setCell ⟨b, k, none⟩ v).cell? ⟨b, i, none⟩ = w.cell? ⟨b, i, none⟩ := fun w k v hk => World.cell?_setCell_other _ _ _ _ (fun e => hk (by injection e))
  unfold put7o
  rw [key _ _ _ (by omega), key _ _ _ (by omega), key _ _ _ (by omega), key _ _ _ (by omega), key _ _ _ (by omega), key _ _ _ (by omega), key _ _ _ (by omega)]
theorem put7o_at (w : World) (b o : Nat) (a0 a1 a2 a3 a4 a5 a6 : Value) (h : ∀ i, i < 7 → (w.cell? ⟨b, o + i, none⟩).isSome = true) :
    (put7o w b o a0 a1 a2 a3 a4 a5 a6).cell? ⟨b, o, none⟩ = some a0 ∧ (put7o w b o a0 a1 a2 a3 a4 a5 a6).cell? ⟨b, o + 1, none⟩ = some a1 ∧ (put7o w b o a0 a1 a2 a3 a4 a5 a6).cell? ⟨b, o + 2, none⟩ = some a2 ∧ (put7o w b o a0 a1 a2 a3 a4 a5 a6).cell? ⟨b, o + 3, none⟩ = some a3 ∧ (put7o w b o a0 a1 a2 a3 a4 a5 a6).cell? ⟨b, o + 4, none⟩ = some a4 ∧ (put7o w b o a0 a1 a2 a3 a4 a5 a6).cell? ⟨b, o + 5, none⟩ = some a5 ∧ (put7o w b o a0 a1 a2 a3 a4 a5 a6).cell? ⟨b, o + 6, none⟩ = some a6 := by
  have key : ∀ (w : World) (k i : Nat) (v : Value), k ≠ i → (w.setCell ⟨b, k, none⟩ v).cell? ⟨b, i, none⟩ = w.cell? ⟨b, i, none⟩ := fun w k i v hk => World.cell?_setCell_other _ _ _ _ (fun e => hk (by injection e))
  have same : ∀ (w : World) (k : Nat) (v : Value), (w.cell? ⟨b, k, none⟩).isSome = true → (w.setCell ⟨b, k, none⟩ v).cell? ⟨b, k, none⟩ = some v := fun w k v h => World.cell?_setCell_same' _ _ _ h
  have h0 := h 0 (by omega); have h1 := h 1 (by omega); have h2 := h 2 (by omega); have h3 := h 3 (by omega); have h4 := h 4 (by omega); have h5 := h 5 (by omega); have h6 := h 6 (by omega)
  rw [Nat.add_zero] at h0
  unfold put7o
  refine ⟨?_, ?_, ?_, ?_, ?_, ?_, ?_⟩
  · rw [key _ _ _ _ (by omega), key _ _ _ _ (by omega), key _ _ _ _ (by omega), key _ _ _ _ (by omega), key _ _ _ _ (by omega), key _ _ _ _ (by omega)]
    exact same _ _ _ h0
  · rw [key _ _ _ _ (by omega), key _ _ _ _ (by omega), key _ _ _ _ (by omega), key _ _ _ _ (by omega), key _ _ _ _ (by omega)]
    exact same _ _ _ (by rw [key _ _ _ _ (by omega)]; exact h1)
  · rw [key _ _ _ _ (by omega), key _ _ _ _ (by omega), key _ _ _ _ (by omega), key _ _ _ _ (by omega)]
    exact same _ _ _ (by rw [key _ _ _ _ (by omega), key _ _ _ _ (by omega)]; exact h2)
  · rw [key _ _ _ _ (by omega), key _ _ _ _ (by omega), key _ _ _ _ (by omega)]
    exact same _ _ _ (by rw [key _ _ _ _ (by omega), key _ _ _ _ (by omega), key _ _ _ _ (by omega)]; exact h3)
  · rw [key _ _ _ _ (by omega), key _ _ _ _ (by omega)]
    exact same _ _ _ (by rw [key _ _ _ _ (by omega), key _ _ _ _ (by omega), key _ _ _ _ (by omega), key _ _ _ _ (by omega)]; exact h4)
  · rw [key _ _ _ _ (by omega)]
    exact same _ _ _ (by rw [key _ _ _ _ (by omega), key _ _ _ _ (by omega), key _ _ _ _ (by omega), key _ _ _ _ (by omega), key _ _ _ _ (by omega)]; exact h5)
  · exact same _ _ _ (by rw [key _ _ _ _ (by omega), key _ _ _ _ (by omega), key _ _ _ _ (by omega), key _ _ _ _ (by omega), key _ _ _ _ (by omega), key _ _ _ _ (by omega)]; exact h6)

/-- A block that holds tokens, one behind the other, apart from the blocks of their parameters. -/
def TB (w : World) (g : Nat) (S : Nat → Prop) (L : TVs) : Prop :=
  g < w.heap.size ∧ (∀ i, w.frozen? ⟨g, i, none⟩ = false) ∧ (∀ j p i u, L[j]? = some p → i < 7 → (cells7 p.1 p.2)[i]? = some u → w.cell? ⟨g, j * 7 + i, none⟩ = some u) ∧ (∀ p ∈ L, MatIn w S p.2 p.1.P) ∧ ∀ h, S h → h ≠ g ∧ h < w.heap.size
theorem TB.toks {w : World} {g : Nat} {S : Nat → Prop} {L : TVs} (h : TB w g S L) (c : Nat) (hm : L.length ≤ maxLen) : ToksAt w (.slice (some ⟨g, 0, none⟩) L.length c) (L.map Prod.fst) := by
  refine ⟨_, c, by rw [List.length_map], by rw [List.length_map]; exact hm, fun _ => ⟨g, 0, rfl, fun j hj => ?_⟩⟩
  have hj' : j < L.length := by simpa using hj
  obtain ⟨p, hp⟩ : ∃ p, L[j]? = some p := ⟨L[j], List.getElem?_eq_getElem hj'⟩
  have hR := (h.2.2.2.1 p (List.mem_of_getElem? hp)).mat
  have hc : ∀ i u, i < 7 → (cells7 p.1 p.2)[i]? = some u → w.cell? ⟨g, 0 + j * 7 + i, none⟩ = some u := by
    intro i u hi hu
    rw [show 0 + j * 7 + i = j * 7 + i by omega]
    exact h.2.2.1 j p i u hp hi hu
  have eg : (L.map Prod.fst).getD j default = p.1 := by simp [List.getD_eq_getElem?_getD, hp]
  rw [eg]
  obtain ⟨a, c, e, hrest⟩ := hR
  refine ⟨a, _, c, ⟨by have := hc 0 _ (by omega) rfl; simpa using this, hc 1 _ (by omega) rfl, hc 2 _ (by omega) rfl, by rw [← e]; exact hc 3 _ (by omega) rfl, hc 4 _ (by omega) rfl, hc 5 _ (by omega) rfl, hc 6 _ (by omega) rfl⟩, a, c, rfl, hrest⟩
theorem TB.below {w w' : World} {g : Nat} {S : Nat → Prop} {L : TVs} (h : TB w g S L) (hb : Below w.heap.size w w') : TB w' g S L := by
  obtain ⟨h1, h2, h3, h4, h5⟩ := h
  refine ⟨Nat.lt_of_lt_of_le h1 hb.size, fun i => ?_, fun j p i u hp hi hu => ?_, fun p hp => (h4 p hp).below hb (fun q hq => (h5 q hq).2), fun q hq => ⟨(h5 q hq).1, Nat.lt_of_lt_of_le (h5 q hq).2 hb.size⟩⟩
  · rw [World.frozen?_of_block (a := ⟨g, i, none⟩) (hb.block g h1)]
    exact h2 i
  · exact (World.cell?_of_block (a := ⟨g, j * 7 + i, none⟩) (hb.block g h1)).trans (h3 j p i u hp hi hu)
theorem TB.more {w : World} {g : Nat} {S T : Nat → Prop} {L : TVs} (h : TB w g S L) (hT : ∀ q, T q → q ≠ g ∧ q < w.heap.size) : TB w g (fun q => S q ∨ T q) L := by
  obtain ⟨h1, h2, h3, h4, h5⟩ := h
  exact ⟨h1, h2, h3, fun p hp => (h4 p hp).mono (fun _ => .inl), fun q hq => hq.elim (h5 q) (hT q)⟩
set_option maxHeartbeats 1000000 in
theorem TB.put {w : World} {g k : Nat} {S : Nat → Prop} {L : TVs} {t : Tok} {m : Value} (h : TB w g S L) (hk : k < L.length) (hm : MatIn w S m t.P) :
    TB (put7o w g (k * 7) (.int .i64 t.kind) (.int .i32 t.rune) (.int .u8 t.priv) m (.string t.inter) (.int .u8 t.fin) (.string t.data)) g S (L.set k (t, m)) := by
  obtain ⟨h1, h2, h3, h4, h5⟩ := h
  have keep : ∀ q, S q → (put7o w g (k * 7) (.int .i64 t.kind) (.int .i32 t.rune) (.int .u8 t.priv) m (.string t.inter) (.int .u8 t.fin) (.string t.data)).heap[q]? = w.heap[q]? := fun q hq => put7o_heap _ _ _ _ _ _ _ _ _ _ _ (h5 q hq).1
  have old : ∀ i, i < 7 → (w.cell? ⟨g, k * 7 + i, none⟩).isSome = true := fun i hi => by
    have hi' : i < (cells7 L[k].1 L[k].2).length := hi
    obtain ⟨u, hu⟩ : ∃ u, (cells7 L[k].1 L[k].2)[i]? = some u := ⟨_, List.getElem?_eq_getElem hi'⟩
    rw [h3 k L[k] i u (List.getElem?_eq_getElem hk) hi hu]
    rfl
  refine ⟨by rw [put7o_size]; exact h1, fun i => ?_, fun j p i u hp hi hu => ?_, fun p hp => ?_, fun q hq => ⟨(h5 q hq).1, by rw [put7o_size]; exact (h5 q hq).2⟩⟩
  · unfold put7o
    simp [h2 i]
  · by_cases e : j = k
    · subst e
      rw [List.getElem?_set_self hk] at hp
      obtain rfl : (t, m) = p := Option.some.inj hp
      obtain ⟨p0, p1, p2, p3, p4, p5, p6⟩ := put7o_at w g (j * 7) (.int .i64 t.kind) (.int .i32 t.rune) (.int .u8 t.priv) m (.string t.inter) (.int .u8 t.fin) (.string t.data) old
      obtain rfl | rfl | rfl | rfl | rfl | rfl | rfl : i = 0 ∨ i = 1 ∨ i = 2 ∨ i = 3 ∨ i = 4 ∨ i = 5 ∨ i = 6 := by omega
      · simp [cells7] at hu; subst hu; exact p0
      · simp [cells7] at hu; subst hu; exact p1
      · simp [cells7] at hu; subst hu; exact p2
      · simp [cells7] at hu; subst hu; exact p3
      · simp [cells7] at hu; subst hu; exact p4
      · simp [cells7] at hu; subst hu; exact p5
      · simp [cells7] at hu; subst hu; exact p6
    · rw [List.getElem?_set_ne (Ne.symm e)] at hp
      rw [put7o_other _ _ _ _ _ _ _ _ _ _ _ (by omega)]
      exact h3 j p i u hp hi hu
  · rcases List.mem_or_eq_of_mem_set hp with h' | h'
    · exact (h4 p h').keep keep
    · rw [h']; exact hm.keep keep
/-- A row of the call's own as such a block. -/
theorem TB.of {w : World} {base g c : Nat} {S : Nat → Prop} {L : TVs} (h : w.ownsRow base 27 7 (.slice (some ⟨g, 0, none⟩) L.length c) L.length (flat7 L)) (hm : ∀ p ∈ L, MatIn w S p.2 p.1.P) (hS : ∀ q, S q → q < base) (_hb : base ≤ w.heap.size) : TB w g S L := by
  have hl := h.lt g rfl
  refine ⟨hl.2, h.frozenAt, fun j p i u hp hi hu => ?_, hm, fun q hq => ?_⟩
  · have := h.cells (g := g) rfl (j * 7 + i) u (by rw [flat7_get L j i p hp hi]; exact hu)
    rw [Addr.add_mid] at this
    rw [show j * 7 + i = 0 + (j * 7 + i) by omega]
    exact this
  · have := hS q hq
    omega
end Go.Proofs.YtclaopidjfekmaaDoor.Lab
