/- Rows of rows of numbers that the call makes and that grow by append; the mathematics of AttrParts. -/
import Derived.Test.YtlmhnebgkginkaaDoorAtRow
import Derived.Test.YtlmhnebgkginkaaDoorAtPieces
import Derived.Test.YtlmhnebgkginkaaDoorMany
namespace Go.Proofs.YtlmhnebgkginkaaDoor.Lab
open Go Go.RowKit

/-- A row that lies at base or later; the rows in it lie at lo or later. -/
def WRow (w : World) (lo base : Nat) (v : Value) (R : Rws) : Prop :=
  ∃ us : List Value, w.ownsRow base 50 1 v R.length us ∧ ∀ i, i < R.length → IntsAt w lo (us.getD i undef) (R.getD i [])
/-- What is appended. -/
def SRow (w : World) (lo g n : Nat) (R : Rws) : Prop :=
  n = R.length ∧ g < w.heap.size ∧ ∃ us : List Value, us.length = n ∧ (∀ j u, us[j]? = some u → w.cell? ⟨g, j, none⟩ = some u) ∧ (∀ u ∈ us, u.oneCell' = true) ∧ ∀ i, i < R.length → IntsAt w lo (us.getD i undef) (R.getD i [])
theorem own_lowerW {w : World} {lo lo' n size : Nat} {e : TypeId} {v : Value} {xs : List Value} (h : w.ownsRow lo e size v n xs) (hl : lo' ≤ lo) : w.ownsRow lo' e size v n xs := own_lower0 h hl
theorem WRow.rows {w : World} {lo base : Nat} {v : Value} {R : Rws} (h : WRow w lo base v R) (hl : lo ≤ base) : RowsAt w lo v R := by
  obtain ⟨us, h1, h2⟩ := h
  exact ⟨us, own_lower0 h1 hl, h2⟩
theorem WRow.below {w w' : World} {lo base : Nat} {v : Value} {R : Rws} (h : WRow w lo base v R) (hb : Below w.heap.size w w') : WRow w' lo base v R := by
  obtain ⟨us, h1, h2⟩ := h
  exact ⟨us, own_below h1 hb, fun i hi => (h2 i hi).below hb⟩
theorem WRow.shape {w : World} {lo base : Nat} {v : Value} {R : Rws} (h : WRow w lo base v R) (h0 : 0 < R.length) : ∃ g c, v = .slice (some ⟨g, 0, none⟩) R.length c ∧ g < w.heap.size := by
  obtain ⟨us, h1, _⟩ := h
  rcases h1.2 with ⟨_, e⟩ | ⟨g, cap, cur, rfl, _, _, _, _, _⟩
  · omega
  · exact ⟨g, cap, rfl, (h1.lt g rfl).2⟩
theorem WRow.src {w : World} {lo base g n c : Nat} {R : Rws} (h : WRow w lo base (.slice (some ⟨g, 0, none⟩) n c) R) (hn : n = R.length) : SRow w lo g n R := by
  subst hn
  obtain ⟨us, h1, h2⟩ := h
  have hu : us.length = R.length := by simpa using h1.1
  exact ⟨rfl, (h1.lt g rfl).2, us, hu, fun j u hj => by have := h1.cells (g := g) rfl j u hj; rwa [Addr.add_mid, Nat.zero_add] at this, us_one hu h2, h2⟩
theorem SRow.of {w : World} {lo g n c : Nat} {R : Rws} (h : RowsAt w lo (.slice (some ⟨g, 0, none⟩) n c) R) (hn : n = R.length) : SRow w lo g n R := WRow.src (base := lo) h hn
theorem SRow.below {w w' : World} {lo g n : Nat} {R : Rws} (h : SRow w lo g n R) (hb : Below w.heap.size w w') : SRow w' lo g n R := by
  obtain ⟨h0, hg, us, h1, h2, h3, h4⟩ := h
  exact ⟨h0, Nat.lt_of_lt_of_le hg hb.size, us, h1, fun j u hj => (hb.cell (p := ⟨g, j, none⟩) hg).trans (h2 j u hj), h3, fun i hi => (h4 i hi).below hb⟩
theorem WRow.none (w : World) (lo base : Nat) (hb : base ≤ w.heap.size) : WRow (w.alloc (.cells #[] 50)) lo base (.slice (some ⟨w.heap.size, 0, none⟩) 0 0) [] :=
  ⟨[], World.ownsRow_lit (e := 50) (base := base) (size := 1) w #[] 0 hb (Nat.zero_le _) rfl, fun i hi => by simp at hi⟩
theorem SRow.lit (w : World) (lo : Nat) (r : List Int) (n b : Nat) (hn : n = r.length) (hb : b = w.heap.size) (hlo : lo ≤ w.heap.size) (hm : r.length ≤ 1000) {w1 w2 : World} (h1 : w1 = w.alloc (.cells (intsV r).toArray 3)) (h2 : w2 = w1.alloc (.cells #[.slice (some ⟨b, 0, none⟩) n n] 50)) :
    SRow w2 lo (w.heap.size + 1) 1 [r] := by
  have hs : w1.heap.size = w.heap.size + 1 := by rw [h1]; simp
  have hI : IntsAt w1 lo (.slice (some ⟨b, 0, none⟩) n n) r := by rw [h1]; exact IntsAt.litA w lo n b r hn hb hlo (by unfold maxLen; omega)
  have hb2 : Below w1.heap.size w1 w2 := by rw [h2]; exact (Below.refl _ _).alloc (Nat.le_refl _) _
  refine ⟨rfl, by rw [h2]; simp [hs], [.slice (some ⟨b, 0, none⟩) n n], rfl, fun j u hj => ?_, fun u hu => ?_, fun i hi => ?_⟩
  · cases j with
    | zero =>
      obtain rfl : Value.slice (some ⟨b, 0, none⟩) n n = u := by simpa using hj
      rw [h2, ← hs]
      simp
    | succ j => simp at hj
  · obtain rfl : u = .slice (some ⟨b, 0, none⟩) n n := by simpa using hu
    rfl
  · obtain rfl : i = 0 := by simpa using hi
    exact hI.below hb2
section
variable {P : Program}
theorem rows_glue {w w' : World} {lo base : Nat} {v v' : Value} {X R : Rws} {vs us : List Value} (h : w.ownsRow base 50 1 v X.length vs) (hv : ∀ i, i < X.length → IntsAt w lo (vs.getD i undef) (X.getD i [])) (hi : ∀ i, i < R.length → IntsAt w lo (us.getD i undef) (R.getD i []))
    (ho : w'.ownsRow base 50 1 v' (X.length + R.length) (vs ++ us)) (hg : w.grownBy w' v.ownBlock) : WRow w' lo base v' (X ++ R) := by
  have hl : vs.length = X.length := by simpa using h.1
  refine ⟨vs ++ us, by rw [List.length_append]; exact ho, fun i hi' => ?_⟩
  have hi2 : i < X.length + R.length := by simpa using hi'
  by_cases e : i < X.length
  · have e1 : (vs ++ us).getD i undef = vs.getD i undef := by simp [List.getD_eq_getElem?_getD, List.getElem?_append_left (show i < vs.length by omega)]
    have e2 : (X ++ R).getD i [] = X.getD i [] := by simp [List.getD_eq_getElem?_getD, List.getElem?_append_left e]
    rw [e1, e2]
    exact (hv i e).apart h hg
  · have e1 : (vs ++ us).getD i undef = us.getD (i - X.length) undef := by simp [List.getD_eq_getElem?_getD, List.getElem?_append_right (show vs.length ≤ i by omega), hl]
    have e2 : (X ++ R).getD i [] = R.getD (i - X.length) [] := by simp [List.getD_eq_getElem?_getD, List.getElem?_append_right (show X.length ≤ i by omega)]
    rw [e1, e2]
    exact (hi _ (by omega)).apart h hg
theorem infoRows : (Tryd.prog.info? 50).map (fun i => (i.zero, i.size, i.bytes)) = some (some (.slice none 0 0), 1, 24) := by kernel_rfl
theorem wp_rows {o : Oper} {a : Act} {w : World} {K : Act → World → Prop} {Q : Exit → Act → World → Prop} (s x : Operand) (ho : o.op = .call { callee := .builtin .append, args := #[s, x], argTypes := #[27, 27] })
    {lo base : Nat} {v : Value} {X : Rws} (hs : a.eval s = v) (hX : WRow w lo base v X) {g m c : Nat} {R : Rws} (hx : a.eval x = .slice (some ⟨g, 0, none⟩) m c) (hR : SRow w lo g m R) (hl : X.length + R.length ≤ 1000) (hb : base ≤ w.heap.size)
    (h : ∀ v' w', WRow w' lo base v' (X ++ R) → Below base w w' → K (a.put o.dst v') w') : o.wp Tryd.prog a w K Q := by
  obtain ⟨ib, hi, hz0, hz1, hz2⟩ := info_parts infoRows
  obtain ⟨vs, hv1, hv2⟩ := hX
  obtain ⟨hm, hg, us, hu1, hu2, hu3, hu4⟩ := hR
  subst hm
  refine wp_append_own w s x 27 ho base 50 ib (.slice none 0 0) 1 24 Tryd.underlying27 hi hz0 hz1 hz2 rfl (by decide) v X.length vs hs hv1 ⟨g, 0, none⟩ R.length c us hx (by rw [hu1, Nat.mul_one]) (fun j u hj => by rw [Addr.add_mid, Nat.zero_add]; exact hu2 j u hj) hu3 (by unfold maxLen; omega) (by omega) hb ?_
  intro v' w' h2 h3 _
  exact h v' w' (rows_glue hv1 hv2 hu4 h2 h3) ((Below.refl base w).grown h3 hb (fun j hj => (hv1.lt j hj).1))
theorem wpList_rows {ops : Array Oper} {rest : List Oper} {o : Oper} {a : Act} {w : World} {Q : Exit → Act → World → Prop} (hgd : o.guard = none) (s x : Operand) (ho : o.op = .call { callee := .builtin .append, args := #[s, x], argTypes := #[27, 27] })
    {lo base : Nat} {v : Value} {X : Rws} (hs : a.eval s = v) (hX : WRow w lo base v X) {g m c : Nat} {R : Rws} (hx : a.eval x = .slice (some ⟨g, 0, none⟩) m c) (hR : SRow w lo g m R) (hl : X.length + R.length ≤ 1000) (hb : base ≤ w.heap.size)
    (h : ∀ v' w', WRow w' lo base v' (X ++ R) → Below base w w' → wpList Tryd.prog ops Q rest (a.put o.dst v') w') : wpList Tryd.prog ops Q (o :: rest) a w :=
  wpList_plain hgd fun _ hK => wp_rows s x ho hs hX hx hR hl hb fun v' w' h2 h3 => hK _ _ (h v' w' h2 h3)
end

/-! ### parts -/
abbrev zz (k : Nat) : Rws := List.replicate k [0, 0]
theorem step_zz (a : At) (L : Rws) : stepM a [0, 0] L = (a, L) := rfl
theorem loop_zz (a : At) (k : Nat) (L : Rws) : loopM a (zz k ++ L) = loopM a L := by
  induction k with
  | zero => rfl
  | succ k ih =>
    rw [show zz (k + 1) ++ L = [0, 0] :: (zz k ++ L) from rfl, loopM_cons, step_zz]
    exact ih
theorem kind_app {L : Rws} (q : Rws) (h : L ≠ []) : kindM (L ++ q) = kindM L := by
  cases L with
  | nil => exact absurd rfl h
  | cons r L => rfl
theorem needed_le3 (k : Int) : Lab.needed k ≤ 3 := by
  unfold Lab.needed
  split
  · decide
  · split <;> decide
theorem color_app {L : Rws} (q : Rws) (h : 4 ≤ L.length) : colorM (L ++ q) = colorM L ∧ leftM (L ++ q) = leftM L ++ q := by
  have hne : L ≠ [] := by rintro rfl; simp at h
  have hn := needed_le3 (kindM L)
  unfold colorM leftM
  rw [kind_app q hne]
  have e1 : (L ++ q).drop 1 = L.drop 1 ++ q := by rw [List.drop_append_of_le_length (by omega)]
  have hl : (L.drop 1).length = L.length - 1 := List.length_drop
  rw [e1]
  constructor
  · rw [List.take_append_of_le_length (by omega)]
  · rw [List.drop_append_of_le_length (by omega)]
theorem drop_zz (p : Rws) (m : Nat) (hm : m ≤ 4) : ∃ p' k, p'.length ≤ p.length ∧ (p' = [] ∨ k = 4) ∧ (p ++ zz 4).drop m = p' ++ zz k := by
  by_cases h : m < p.length
  · refine ⟨p.drop m, 4, by rw [List.length_drop]; omega, .inr rfl, ?_⟩
    rw [List.drop_append_of_le_length (by omega)]
  · refine ⟨[], 4 - (m - p.length), by simp, .inl rfl, ?_⟩
    rw [List.drop_append, List.drop_eq_nil_of_le (by omega), List.nil_append, List.drop_replicate]
    rfl
theorem loop_apart : ∀ (n : Nat) (p : Rws) (k : Nat) (a : At) (q : Rws), p.length ≤ n → (p = [] ∨ k = 4) → loopM a ((p ++ zz k) ++ q) = loopM (loopM a (p ++ zz k)) q := by
  intro n
  induction n with
  | zero =>
    intro p k a q hp _
    obtain rfl : p = [] := List.length_eq_zero_iff.1 (by omega)
    rw [List.nil_append, loop_zz, show zz k = zz k ++ [] by simp, loop_zz, loopM_nil]
  | succ n ih =>
    intro p k a q hp hk
    cases p with
    | nil => rw [List.nil_append, loop_zz, show zz k = zz k ++ [] by simp, loop_zz, loopM_nil]
    | cons r p =>
      obtain rfl : k = 4 := by
        rcases hk with h | h
        · cases h
        · exact h
      have hp' : p.length ≤ n := by simpa using hp
      rw [show r :: p ++ zz 4 ++ q = r :: ((p ++ zz 4) ++ q) from rfl, show r :: p ++ zz 4 = r :: (p ++ zz 4) from rfl, loopM_cons, loopM_cons]
      have h4 : 4 ≤ (p ++ zz 4).length := by simp
      have hc := color_app q h4
      have key : ∀ a', loopM a' (leftM (p ++ zz 4) ++ q) = loopM (loopM a' (leftM (p ++ zz 4))) q := by
        intro a'
        have hn := needed_le3 (kindM (p ++ zz 4))
        obtain ⟨p', k', h1, h2, h3⟩ := drop_zz p (1 + Lab.needed (kindM (p ++ zz 4))) (by omega)
        have e : leftM (p ++ zz 4) = p' ++ zz k' := by
          unfold leftM
          rw [List.drop_drop, ← h3]
        rw [e]
        exact ih p' k' a' q (by omega) h2
      unfold stepM
      cases onlyM r with
      | none => exact ih p 4 _ q hp' (.inr rfl)
      | some x =>
        by_cases e38 : x = 38
        · simp only [e38, if_true, hc.1, hc.2]
          exact key _
        · by_cases e48 : x = 48
          · subst e48
            simp only [show ¬ ((48 : Int) = 38) by decide, if_false, if_true, hc.1, hc.2]
            exact key _
          · simp only [if_neg e38, if_neg e48]
            exact ih p 4 _ q hp' (.inr rfl)
theorem parts_both (a : At) (p q : Rws) (hp : p ≠ []) (hq : q ≠ []) : sgrM a ((p ++ zz 4) ++ q) = sgrM (sgrM a (p ++ zz 4)) q := by
  have h1 : p ++ zz 4 ≠ [] := by simp [hp]
  have h2 : p ++ zz 4 ++ q ≠ [] := by simp [hp]
  unfold sgrM
  rw [if_neg h1, if_neg h2, if_neg hq]
  exact loop_apart p.length p 4 a q (Nat.le_refl _) (.inr rfl)
theorem parts_clear (a : At) (p q : Rws) (hp : p ≠ []) (hq : q ≠ []) : sgrM a ((p ++ zz 4) ++ [[0]] ++ q) = sgrM At.zero q := by
  unfold sgrM
  rw [if_neg (by simp [hp]), if_neg hq, List.append_assoc, loop_apart p.length p 4 a _ (Nat.le_refl _) (.inr rfl), List.singleton_append, loopM_cons]
  rfl
theorem parts_none (a : At) (p : Rws) (hp : p ≠ []) : sgrM a ((p ++ zz 4) ++ [[-1]]) = At.zero := by
  unfold sgrM
  rw [if_neg (by simp [hp]), loop_apart p.length p 4 a _ (Nat.le_refl _) (.inr rfl), loopM_cons]
  rfl
end Go.Proofs.YtlmhnebgkginkaaDoor.Lab
