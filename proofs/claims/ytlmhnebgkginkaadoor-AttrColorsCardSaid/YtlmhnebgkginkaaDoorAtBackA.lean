/- The mathematics of AttrBack: the parameters of a right attribute make it of any one; right stays right. -/
import Derived.Test.YtlmhnebgkginkaaDoorAtForm
import Derived.Test.YtlmhnebgkginkaaDoorAtEq
import Derived.Test.YtlmhnebgkginkaaDoorAtDraft
namespace Go.Proofs.YtlmhnebgkginkaaDoor.Lab
open Go.RowKit

def rightF (f : Nat) : Bool := (f &&& 65024) == 0 && (f &&& 264) != 264
theorem rightM_iff (a : At) : rightM a = true ↔ mayM a.fg = true ∧ mayM a.bg = true ∧ rightF a.fl = true := by
  unfold rightM rightF
  simp only [Bool.and_eq_true]
theorem rightF_lt {f : Nat} (h : rightF f = true) (hf : f < 65536) : f < 512 := by
  unfold rightF at h
  simp only [Bool.and_eq_true, beq_iff_eq] at h
  have h0 := h.1
  refine Nat.lt_pow_two_of_testBit (n := 9) f fun i hi => ?_
  by_cases h16 : 16 ≤ i
  · exact Nat.testBit_lt_two_pow (Nat.lt_of_lt_of_le hf (Nat.pow_le_pow_right (n := 2) (by decide) h16))
  · have h1 := congrArg (fun x => x.testBit i) h0
    simp only [Nat.testBit_and, Nat.zero_testBit] at h1
    have h2 : Nat.testBit 65024 i = true := by
      have : i = 9 ∨ i = 10 ∨ i = 11 ∨ i = 12 ∨ i = 13 ∨ i = 14 ∨ i = 15 := by omega
      rcases this with rfl | rfl | rfl | rfl | rfl | rfl | rfl <;> decide
    rw [h2, Bool.and_true] at h1
    exact h1
theorem dFl_right (f : Nat) : rightF (dFl f) = true := by
  have key : ∀ g : Fin 512, rightF (if g.val &&& 8 ≠ 0 then g.val &&& (65535 - 256) else g.val) = true := by decide +kernel
  exact key ⟨f % 512, Nat.mod_lt _ (by decide)⟩
theorem may_idx (x : Int) : mayM ⟨1, x, 0, 0⟩ = true := by simp [mayM]
theorem may_zero : mayM Cl.zero = true := by decide
theorem may_two (r g b : Int) : mayM ⟨2, r, g, b⟩ = true := by simp [mayM]
theorem c2_may (k b0 b1 b2 : Nat) : mayM (c2M k b0 b1 b2) = true := by
  unfold c2M
  split
  · exact may_idx _
  split
  · exact may_two _ _ _
  split
  · exact may_idx _
  · exact may_zero
theorem right_dAt (d : Dr) : rightM (dAt d) = true := (rightM_iff _).2 ⟨c2_may _ _ _ _, c2_may _ _ _ _, dFl_right _⟩

/-- A parameter of one number, which begins no colour. -/
theorem loop_one (a : At) (x : Int) (L : Rws) (h0 : 0 ≤ x) (h1 : x ≠ 38) (h2 : x ≠ 48) : loopM a ([x] :: L) = loopM (simpleM a x) L := by
  rw [loopM_cons]
  have e : onlyM [x] = some x := by simp [onlyM, valM, show ¬ x = -1 by omega]
  have : stepM a [x] L = (simpleM a x, L) := by
    unfold stepM
    rw [e]
    simp only []
    rw [if_neg h1, if_neg h2]
  rw [this]
theorem loop_many : ∀ (l : List Int) (a : At) (L : Rws), (∀ x ∈ l, 0 ≤ x ∧ x ≠ 38 ∧ x ≠ 48) → loopM a ((l.map fun x => [x]) ++ L) = loopM (l.foldl simpleM a) L
  | [], _, _, _ => rfl
  | x :: l, a, L, h => by
    have := h x (by simp)
    rw [List.map_cons, List.cons_append, loop_one _ _ _ this.1 this.2.1 this.2.2, loop_many l _ L fun y hy => h y (by simp [hy])]
    rfl
theorem flag_back (f : Nat) (hf : f < 512) (h : rightF f = true) : (∀ x ∈ flagK f 9, 0 ≤ x ∧ x ≠ 38 ∧ x ≠ 48) ∧ (flagK f 9).foldl simpleM At.zero = ⟨Cl.zero, Cl.zero, f⟩ := by
  have key : ∀ g : Fin 512, rightF g.val = true → (∀ x ∈ flagK g.val 9, 0 ≤ x ∧ x ≠ 38 ∧ x ≠ 48) ∧ (flagK g.val 9).foldl simpleM At.zero = ⟨Cl.zero, Cl.zero, g.val⟩ := by decide +kernel
  exact key ⟨f, hf⟩ h
theorem only_one {x : Int} (h0 : 0 ≤ x) : onlyM [x] = some x := by simp [onlyM, valM, show ¬ x = -1 by omega]
theorem part_one {x : Int} (h0 : 0 ≤ x) (h1 : x ≤ 255) : partRow [x] = some x := by
  unfold partRow
  rw [only_one h0]
  simp only []
  unfold partM valM
  rw [if_neg (show ¬ x = -1 by omega), if_pos ⟨h0, h1⟩]
theorem color_two {r g b : Int} (hr : 0 ≤ r ∧ r ≤ 255) (hg : 0 ≤ g ∧ g ≤ 255) (hb : 0 ≤ b ∧ b ≤ 255) (L : Rws) : colorM ([2] :: [r] :: [g] :: [b] :: L) = some ⟨2, r, g, b⟩ ∧ leftM ([2] :: [r] :: [g] :: [b] :: L) = L := by
  have hk : kindM ([2] :: [r] :: [g] :: [b] :: L) = 2 := by
    show (onlyM [2]).getD 0 = 2
    rw [only_one (by decide)]
    rfl
  have hn : needed 2 = 3 := by decide
  unfold colorM leftM
  rw [hk, hn]
  refine ⟨?_, rfl⟩
  show madeM 2 (partsM partRow [[r], [g], [b]]) = _
  simp only [partsM, part_one hr.1 hr.2, part_one hg.1 hg.2, part_one hb.1 hb.2]
  rfl
theorem color_five {r : Int} (hr : 0 ≤ r ∧ r ≤ 255) (L : Rws) : colorM ([5] :: [r] :: L) = some ⟨1, r, 0, 0⟩ ∧ leftM ([5] :: [r] :: L) = L := by
  have hk : kindM ([5] :: [r] :: L) = 5 := by
    show (onlyM [5]).getD 0 = 5
    rw [only_one (by decide)]
    rfl
  have hn : needed 5 = 1 := by decide
  unfold colorM leftM
  rw [hk, hn]
  refine ⟨?_, rfl⟩
  show madeM 5 (partsM partRow [[r]]) = _
  simp only [partsM, part_one hr.1 hr.2]
  rfl
theorem loop_fg (a : At) (L : Rws) : loopM a ([38] :: L) = loopM (a.setFg (colorM L)) (leftM L) := by
  rw [loopM_cons]
  have : stepM a [38] L = (a.setFg (colorM L), leftM L) := by
    unfold stepM
    rw [only_one (by decide)]
    simp only []
    rw [if_pos trivial]
  rw [this]
theorem loop_bg (a : At) (L : Rws) : loopM a ([48] :: L) = loopM (a.setBg (colorM L)) (leftM L) := by
  rw [loopM_cons]
  have : stepM a [48] L = (a.setBg (colorM L), leftM L) := by
    unfold stepM
    rw [only_one (by decide)]
    simp only []
    rw [if_neg (by decide), if_pos trivial]
  rw [this]
theorem simple_fg (a : At) {n : Int} (h : 30 ≤ n ∧ n ≤ 37) : simpleM a n = { a with fg := ⟨1, n - 30, 0, 0⟩ } := by
  unfold simpleM
  iterate 17 rw [if_neg (by omega)]
  rw [if_pos h]
theorem simple_bg (a : At) {n : Int} (h : 40 ≤ n ∧ n ≤ 47) : simpleM a n = { a with bg := ⟨1, n - 40, 0, 0⟩ } := by
  unfold simpleM
  iterate 19 rw [if_neg (by omega)]
  rw [if_pos h]
theorem simple_fgB (a : At) {n : Int} (h : 90 ≤ n ∧ n ≤ 97) : simpleM a n = { a with fg := ⟨1, n - 82, 0, 0⟩ } := by
  unfold simpleM
  iterate 21 rw [if_neg (by omega)]
  rw [if_pos h]
theorem simple_bgB (a : At) {n : Int} (h : 100 ≤ n ∧ n ≤ 107) : simpleM a n = { a with bg := ⟨1, n - 92, 0, 0⟩ } := by
  unfold simpleM
  iterate 22 rw [if_neg (by omega)]
  rw [if_pos h]
theorem may_kinds {c : Cl} (h : mayM c = true) : c = Cl.zero ∨ (c.k = 1 ∧ c.g = 0 ∧ c.b = 0) ∨ c.k = 2 := by
  unfold mayM at h
  split at h
  · exact .inl ((eqC_iff _ _).1 h)
  split at h
  · simp only [Bool.and_eq_true, beq_iff_eq] at h
    rename_i h1
    exact .inr (.inl ⟨h1, h.1, h.2⟩)
  · exact .inr (.inr (by simpa using h))
theorem tell_fg (a : At) {c : Cl} (L : Rws) (hc : c.ok) (hm : mayM c = true) (hz : a.fg = Cl.zero) : loopM a (((tellM c 0).map fun x => [x]) ++ L) = loopM { a with fg := c } L := by
  obtain ⟨k, r, g, b⟩ := c
  obtain ⟨_, h1, h2, h3⟩ := hc
  dsimp only at h1 h2 h3
  rcases may_kinds hm with e | ⟨e1, e2, e3⟩ | e
  · rw [e]
    have : tellM Cl.zero 0 = [] := by decide
    rw [this, ← hz]
    rfl
  · dsimp only at e1 e2 e3
    subst e1 e2 e3
    by_cases h8 : r < 8
    · have : tellM ⟨1, r, 0, 0⟩ 0 = [30 + 0 + r] := by simp [tellM, h8]
      rw [this]
      show loopM a ([30 + 0 + r] :: L) = _
      rw [loop_one _ _ _ (by omega) (by omega) (by omega), simple_fg _ (by omega), show (30 : Int) + 0 + r - 30 = r by omega]
    · by_cases h16 : r < 16
      · have : tellM ⟨1, r, 0, 0⟩ 0 = [82 + 0 + r] := by simp [tellM, h8, h16]
        rw [this]
        show loopM a ([82 + 0 + r] :: L) = _
        rw [loop_one _ _ _ (by omega) (by omega) (by omega), simple_fgB _ (by omega), show (82 : Int) + 0 + r - 82 = r by omega]
      · have : tellM ⟨1, r, 0, 0⟩ 0 = [38, 5, r] := by simp [tellM, h8, h16]
        rw [this]
        show loopM a ([38] :: [5] :: [r] :: L) = _
        rw [loop_fg, (color_five h1 L).1, (color_five h1 L).2]
        rfl
  · dsimp only at e
    subst e
    have : tellM ⟨2, r, g, b⟩ 0 = [38, 2, r, g, b] := by simp [tellM]
    rw [this]
    show loopM a ([38] :: [2] :: [r] :: [g] :: [b] :: L) = _
    rw [loop_fg, (color_two h1 h2 h3 L).1, (color_two h1 h2 h3 L).2]
    rfl
theorem tell_bg (a : At) {c : Cl} (L : Rws) (hc : c.ok) (hm : mayM c = true) (hz : a.bg = Cl.zero) : loopM a (((tellM c 10).map fun x => [x]) ++ L) = loopM { a with bg := c } L := by
  obtain ⟨k, r, g, b⟩ := c
  obtain ⟨_, h1, h2, h3⟩ := hc
  dsimp only at h1 h2 h3
  rcases may_kinds hm with e | ⟨e1, e2, e3⟩ | e
  · rw [e]
    have : tellM Cl.zero 10 = [] := by decide
    rw [this, ← hz]
    rfl
  · dsimp only at e1 e2 e3
    subst e1 e2 e3
    by_cases h8 : r < 8
    · have : tellM ⟨1, r, 0, 0⟩ 10 = [30 + 10 + r] := by simp [tellM, h8]
      rw [this]
      show loopM a ([30 + 10 + r] :: L) = _
      rw [loop_one _ _ _ (by omega) (by omega) (by omega), simple_bg _ (by omega), show (30 : Int) + 10 + r - 40 = r by omega]
    · by_cases h16 : r < 16
      · have : tellM ⟨1, r, 0, 0⟩ 10 = [82 + 10 + r] := by simp [tellM, h8, h16]
        rw [this]
        show loopM a ([82 + 10 + r] :: L) = _
        rw [loop_one _ _ _ (by omega) (by omega) (by omega), simple_bgB _ (by omega), show (82 : Int) + 10 + r - 92 = r by omega]
      · have : tellM ⟨1, r, 0, 0⟩ 10 = [48, 5, r] := by simp [tellM, h8, h16]
        rw [this]
        show loopM a ([48] :: [5] :: [r] :: L) = _
        rw [loop_bg, (color_five h1 L).1, (color_five h1 L).2]
        rfl
  · dsimp only at e
    subst e
    have : tellM ⟨2, r, g, b⟩ 10 = [48, 2, r, g, b] := by simp [tellM]
    rw [this]
    show loopM a ([48] :: [2] :: [r] :: [g] :: [b] :: L) = _
    rw [loop_bg, (color_two h1 h2 h3 L).1, (color_two h1 h2 h3 L).2]
    rfl
/-- The stage's theorem, as mathematics. -/
theorem sgr_params {a : At} (b : At) (ha : a.ok) (hr : rightM a = true) : sgrM b (paramsM a) = a := by
  obtain ⟨m1, m2, m3⟩ := (rightM_iff a).1 hr
  have hf := rightF_lt m3 ha.2.2
  obtain ⟨f1, f2⟩ := flag_back a.fl hf m3
  have e : paramsM a = [0] :: (((flagK a.fl 9).map fun x => [x]) ++ (((tellM a.fg 0).map fun x => [x]) ++ (((tellM a.bg 10).map fun x => [x]) ++ []))) := by
    simp [paramsM, numsM]
  rw [e]
  unfold sgrM
  rw [if_neg (by simp), loop_one _ _ _ (by decide) (by decide) (by decide)]
  have z : simpleM b 0 = At.zero := rfl
  rw [z, loop_many _ _ _ f1, f2, tell_fg _ _ ha.1 m1 rfl, tell_bg _ _ ha.2.1 m2 rfl, loopM_nil]
theorem params_ne (a : At) : paramsM a ≠ [[-1]] := by
  simp [paramsM, numsM]
theorem params_back {a : At} (ha : a.ok) : parsed (allT (paramsM a)) = paramsM a := back_any (paramsM_ok ha).1 (paramsM_ok ha).2 (params_ne a)
/-- Two right attributes have the same bytes only if they are the same. -/
theorem format_inj {a b : At} (ha : a.ok) (hb : b.ok) (ra : rightM a = true) (rb : rightM b = true) : allT (paramsM a) = allT (paramsM b) ↔ a = b := by
  constructor
  · intro h
    have := congrArg parsed h
    rw [params_back ha, params_back hb] at this
    rw [← sgr_params At.zero ha ra, this, sgr_params At.zero hb rb]
  · rintro rfl
    rfl

/-- Right stays right. -/
def pairsL : List (Nat × Nat) := [(1, 0), (2, 0), (4, 0), (8, 256), (16, 0), (32, 0), (64, 0), (128, 0), (256, 8), (0, 3), (0, 4), (0, 264), (0, 16), (0, 32), (0, 64), (0, 128)]
theorem flags_right {a : At} (h : rightM a = true) (hf : a.fl < 65536) {set clear : Nat} (hp : (set, clear) ∈ pairsL) : rightM (a.flags set clear) = true := by
  obtain ⟨m1, m2, m3⟩ := (rightM_iff a).1 h
  have key : ∀ g : Fin 512, rightF g.val = true → ∀ p ∈ pairsL, rightF (flagsM g.val p.1 p.2) = true := by decide +kernel
  exact (rightM_iff _).2 ⟨m1, m2, key ⟨a.fl, rightF_lt m3 hf⟩ m3 (set, clear) hp⟩
theorem fg_right {a : At} (h : rightM a = true) {c : Cl} (hc : mayM c = true) : rightM { a with fg := c } = true := by
  obtain ⟨m1, m2, m3⟩ := (rightM_iff a).1 h
  exact (rightM_iff _).2 ⟨hc, m2, m3⟩
theorem bg_right {a : At} (h : rightM a = true) {c : Cl} (hc : mayM c = true) : rightM { a with bg := c } = true := by
  obtain ⟨m1, m2, m3⟩ := (rightM_iff a).1 h
  exact (rightM_iff _).2 ⟨m1, hc, m3⟩
theorem made_may {c : Cl} (h : (c.k = 1 ∧ c.g = 0 ∧ c.b = 0) ∨ c.k = 2) : mayM c = true := by
  obtain ⟨k, r, g, b⟩ := c
  rcases h with ⟨rfl, rfl, rfl⟩ | rfl
  · exact may_idx _
  · exact may_two _ _ _
theorem setFg_right {a : At} (h : rightM a = true) {c : Option Cl} (hc : ∀ x, c = some x → mayM x = true) : rightM (a.setFg c) = true := by
  cases c with
  | none => exact h
  | some c => exact fg_right h (hc c rfl)
theorem setBg_right {a : At} (h : rightM a = true) {c : Option Cl} (hc : ∀ x, c = some x → mayM x = true) : rightM (a.setBg c) = true := by
  cases c with
  | none => exact h
  | some c => exact bg_right h (hc c rfl)
theorem ite_right {c : Prop} [Decidable c] {x y : At} (h : rightM x = true) (k : rightM y = true) : rightM (if c then x else y) = true := by
  by_cases hc : c
  · rw [if_pos hc]; exact h
  · rw [if_neg hc]; exact k
theorem zero_right : rightM At.zero = true := by decide
theorem simple_right {a : At} (h : rightM a = true) (hf : a.fl < 65536) (n : Int) : rightM (simpleM a n) = true := by
  unfold simpleM
  refine ite_right zero_right ?_
  iterate 16 refine ite_right (flags_right h hf (by decide)) ?_
  refine ite_right (fg_right h (may_idx _)) ?_
  refine ite_right (fg_right h may_zero) ?_
  refine ite_right (bg_right h (may_idx _)) ?_
  refine ite_right (bg_right h may_zero) ?_
  refine ite_right (fg_right h (may_idx _)) ?_
  exact ite_right (bg_right h (may_idx _)) h
theorem several_right {a : At} (h : rightM a = true) (hf : a.fl < 65536) (row : List Int) : rightM (severalM a row) = true := by
  unfold severalM
  refine ite_right h ?_
  refine ite_right (ite_right (ite_right (flags_right h hf (by decide)) (ite_right (flags_right h hf (by decide)) (ite_right (flags_right h hf (by decide)) h))) h) ?_
  refine ite_right (setFg_right h fun x hx => made_may (withinM_ok hx).2) ?_
  exact ite_right (setBg_right h fun x hx => made_may (withinM_ok hx).2) h
theorem step_right {a : At} (h : rightM a = true) (hf : a.fl < 65536) (row : List Int) (L : Rws) : rightM (stepM a row L).1 = true := by
  unfold stepM
  split
  · exact several_right h hf row
  · split
    · exact setFg_right h fun x hx => made_may (colorM_ok hx).2
    · split
      · exact setBg_right h fun x hx => made_may (colorM_ok hx).2
      · exact simple_right h hf _
theorem run_right : ∀ (n : Nat) {a : At} (_ : rightM a = true) (_ : a.ok) (L : Rws), rightM (runM n a L) = true
  | 0, _, h, _, _ => h
  | _ + 1, _, h, _, [] => h
  | n + 1, _, h, ho, row :: L => run_right n (step_right h ho.2.2 row L) (stepM_ok ho row L) _
theorem sgr_right {a : At} (h : rightM a = true) (ho : a.ok) (P : Rws) : rightM (sgrM a P) = true := by
  unfold sgrM
  split
  · exact zero_right
  · exact run_right _ h ho _
end Go.Proofs.YtlmhnebgkginkaaDoor.Lab
