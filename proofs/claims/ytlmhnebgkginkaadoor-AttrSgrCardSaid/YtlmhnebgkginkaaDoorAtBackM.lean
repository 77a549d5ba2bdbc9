/- What parameters are written as is read as them: the mathematics of ParamBack. -/
import Derived.Test.YtlmhnebgkginkaaDoorAtFull
import Derived.Test.YtlmhnebgkginkaaDoorAtPieces
import Derived.Test.YtlmhnebgkginkaaDoorPaWrite
namespace Go.Proofs.YtlmhnebgkginkaaDoor.Lab

theorem dig_char (d : Nat) (h : d < 10) : (UInt8.ofNat (48 + d)).toNat = 48 + d := by
  rw [UInt8.toNat_ofNat']
  omega
theorem runF_one (D : Rws) (r : List Int) (x : Int) (d : Nat) (hd : d < 10) : runF ⟨D, r, x⟩ [UInt8.ofNat (48 + d)] = ⟨D, r, digM x (48 + d)⟩ := by
  show FS.byte ⟨D, r, x⟩ (UInt8.ofNat (48 + d)) = _
  unfold FS.byte
  rw [dig_char d hd, if_neg (by omega), if_neg (by omega)]
theorem dec_run (D : Rws) (r : List Int) (u : Nat) : u ≤ 65535 → runF ⟨D, r, -1⟩ (Lib.decDigits u) = ⟨D, r, (u : Int)⟩ := by
  induction u using Nat.strongRecOn with
  | _ u ih =>
    intro h
    by_cases h10 : u < 10
    · rw [Lib.decDigits, dif_pos h10, runF_one _ _ _ _ h10]
      congr 1
      unfold digM
      omega
    · rw [Lib.decDigits, dif_neg h10, runF_append, ih (u / 10) (by omega) (by omega), runF_one _ _ _ _ (by omega)]
      congr 1
      unfold digM
      omega
theorem num_run (D : Rws) (r : List Int) (x : Int) (h0 : -1 ≤ x) (h1 : x ≤ 65535) : runF ⟨D, r, -1⟩ (numT x) = ⟨D, r, x⟩ := by
  unfold numT
  by_cases h : x < 0
  · rw [if_pos h, show x = -1 by omega]
    rfl
  · obtain ⟨u, rfl⟩ : ∃ u : Nat, x = u := ⟨x.toNat, by omega⟩
    rw [if_neg h, Lib.itoa_nonneg]
    exact dec_run D r u (by omega)
theorem runF_nums (D : Rws) : ∀ (t q : List Int) (x : Int), (∀ y ∈ t, -1 ≤ y ∧ y ≤ 65535) → (runF ⟨D, q, x⟩ (t.flatMap fun y => 58 :: numT y)).rows = D ++ [q ++ x :: t]
  | [], q, x, _ => rfl
  | y :: t, q, x, h => by
    have hy := h y (by simp)
    have e : runF ⟨D, q, x⟩ ((y :: t).flatMap fun y => 58 :: numT y) = runF (runF ⟨D, q ++ [x], -1⟩ (numT y)) (t.flatMap fun y => 58 :: numT y) := by
      rw [List.flatMap_cons, runF_append]
      congr 1
    rw [e, num_run D (q ++ [x]) y hy.1 hy.2, runF_nums D t (q ++ [x]) y (fun z hz => h z (by simp [hz]))]
    simp
theorem FR_row {r : List Int} (h : okRow r) : FR (-1) (rowT r) = [r] := by
  obtain ⟨h1, _, h3⟩ := h
  cases r with
  | nil => simp at h1
  | cons x t =>
    have hx := h3 x (by simp)
    show (runF ⟨[], [], -1⟩ (numT x ++ t.flatMap fun y => 58 :: numT y)).rows = _
    rw [runF_append, num_run [] [] x hx.1 hx.2, runF_nums [] t [] x (fun z hz => h3 z (by simp [hz]))]
    rfl
theorem FR_rest : ∀ (R : Rws) (a : List UInt8), (∀ r ∈ R, okRow r) → FR (-1) (a ++ R.flatMap fun r => 59 :: rowT r) = FR (-1) a ++ R
  | [], a, _ => by simp
  | r :: R, a, h => by
    have e : a ++ ((r :: R).flatMap fun r => 59 :: rowT r) = a ++ 59 :: (rowT r ++ R.flatMap fun r => 59 :: rowT r) := by simp
    rw [e, FR_semi, FR_rest R (rowT r) (fun z hz => h z (by simp [hz])), FR_row (h r (by simp))]
    simp
theorem FR_all {R : Rws} (hne : R ≠ []) (h : ∀ r ∈ R, okRow r) : FR (-1) (allT R) = R := by
  cases R with
  | nil => exact absurd rfl hne
  | cons r R =>
    show FR (-1) (rowT r ++ R.flatMap fun r => 59 :: rowT r) = _
    rw [FR_rest R _ (fun z hz => h z (by simp [hz])), FR_row (h r (by simp))]
    rfl
theorem cut_ok {R : Rws} (hl : R.length ≤ 32) (h : ∀ r ∈ R, okRow r) : cut R = R := by
  unfold cut
  rw [List.take_of_length_le hl]
  conv => rhs; rw [← List.map_id R]
  exact List.map_congr_left fun r hr => List.take_of_length_le (h r hr).2.1
/-- What is written is read again. -/
theorem back_any {R : Rws} (hl : R.length ≤ 32) (h : ∀ r ∈ R, okRow r) (h1 : R ≠ [[-1]]) : parsed (allT R) = R := by
  by_cases hne : R = []
  · subst hne
    rfl
  · have e := FR_all hne h
    by_cases ht : allT R = []
    · rw [ht, FR_nil] at e
      exact absurd e.symm h1
    · rw [parsed_ne ht, e, cut_ok hl h]

def nlen (x : Int) : Nat := (numT x).length
theorem nlen_eq (x : Int) (h0 : -1 ≤ x) (h1 : x ≤ 65535) : nlen x = if x < 0 then 0 else if x < 10 then 1 else if x < 100 then 2 else if x < 1000 then 3 else if x < 10000 then 4 else 5 := by
  unfold nlen numT
  by_cases h : x < 0
  · rw [if_pos h, if_pos h]
    rfl
  · obtain ⟨u, rfl⟩ : ∃ u : Nat, x = u := ⟨x.toNat, by omega⟩
    rw [if_neg h, if_neg h, Lib.itoa_nonneg, Lib.decDigits_length]
    by_cases a1 : u < 10
    · rw [if_pos (by omega), Lib.nDigits_small a1]
    · rw [if_neg (by omega)]
      by_cases a2 : u < 100
      · rw [if_pos (by omega), Lib.nDigits_unique 1 u (by show 10 ≤ u; omega) (by show u < 100; omega)]
      · rw [if_neg (by omega)]
        by_cases a3 : u < 1000
        · rw [if_pos (by omega), Lib.nDigits_unique 2 u (by show 100 ≤ u; omega) (by show u < 1000; omega)]
        · rw [if_neg (by omega)]
          by_cases a4 : u < 10000
          · rw [if_pos (by omega), Lib.nDigits_unique 3 u (by show 1000 ≤ u; omega) (by show u < 10000; omega)]
          · rw [if_neg (by omega), Lib.nDigits_unique 4 u (by show 10000 ≤ u; omega) (by show u < 100000; omega)]
theorem nlen_said : nlen (-1) = 0 := rfl
theorem dig_ok (x : Int) (c : Nat) (h0 : -1 ≤ x) (h1 : x ≤ 65535) (c0 : 48 ≤ c) (c1 : c ≤ 57) : 0 ≤ digM x c ∧ digM x c ≤ 65535 ∧ nlen (digM x c) ≤ nlen x + 1 := by
  have d0 : 0 ≤ digM x c := by unfold digM; omega
  have d1 : digM x c ≤ 65535 := by unfold digM; omega
  refine ⟨d0, d1, ?_⟩
  rw [nlen_eq _ (by omega) d1, nlen_eq x h0 h1]
  have d2 : digM x c ≤ 10 * max x 0 + 9 := by unfold digM; omega
  generalize digM x c = y at *
  (repeat' split) <;> omega

/-- How many bytes rows want, and one. -/
def wtR (r : List Int) : Nat := (r.map fun x => nlen x + 1).sum
def wt (R : Rws) : Nat := (R.map wtR).sum
theorem wtR_snoc (r : List Int) (x : Int) : wtR (r ++ [x]) = wtR r + nlen x + 1 := by simp [wtR]; omega
theorem wt_snoc (D : Rws) (q : List Int) : wt (D ++ [q]) = wt D + wtR q := by simp [wt]
theorem wtR_len : ∀ (x : Int) (t : List Int), (rowT (x :: t)).length + 1 = wtR (x :: t) := by
  intro x t
  show (numT x ++ t.flatMap fun y => 58 :: numT y).length + 1 = _
  have e : ∀ t : List Int, (t.flatMap fun y => 58 :: numT y).length = wtR t := by
    intro t
    induction t with
    | nil => rfl
    | cons y t ih =>
      rw [List.flatMap_cons, List.length_append, ih]
      simp [wtR, nlen]
  rw [List.length_append, e]
  simp [wtR, nlen]
  omega
theorem wtR_row {r : List Int} (h : okRow r) : (rowT r).length + 1 = wtR r := by
  cases r with
  | nil => have := h.1; simp at this
  | cons x t => exact wtR_len x t
theorem wt_len {R : Rws} (hne : R ≠ []) (h : ∀ r ∈ R, okRow r) : (allT R).length + 1 = wt R := by
  cases R with
  | nil => exact absurd rfl hne
  | cons r R =>
    show (rowT r ++ R.flatMap fun r => 59 :: rowT r).length + 1 = _
    have e : ∀ R : Rws, (∀ r ∈ R, okRow r) → (R.flatMap fun r => 59 :: rowT r).length = wt R := by
      intro R
      induction R with
      | nil => intro _; rfl
      | cons y R ih =>
        intro h
        rw [List.flatMap_cons, List.length_append, ih (fun z hz => h z (by simp [hz]))]
        have := wtR_row (h y (by simp))
        simp [wt]
        omega
    rw [List.length_append, e R (fun z hz => h z (by simp [hz]))]
    have := wtR_row (h r (by simp))
    simp [wt]
    omega

/-- What has been told is of the right kind. -/
structure PS.Ok (s : PS) : Prop where
  d : ∀ q ∈ s.D, okRow q
  n : s.D.length ≤ 31
  k : s.r.length ≤ 7
  r : ∀ y ∈ s.r, -1 ≤ y ∧ y ≤ 65535
  x : -1 ≤ s.x ∧ s.x ≤ 65535
theorem PS.Ok.start : PS.start.Ok := ⟨by simp [PS.start], by simp [PS.start], by simp [PS.start], by simp [PS.start], by simp [PS.start]⟩
theorem PS.Ok.last {s : PS} (h : s.Ok) : okRow (s.r ++ [s.x]) := okRow.snoc h.r (by have := h.k; omega) h.x.1 h.x.2
theorem PS.Ok.rows {s : PS} (h : s.Ok) : s.rows.length ≤ 32 ∧ ∀ r ∈ s.rows, okRow r := by
  unfold PS.rows
  refine ⟨by simp; have := h.n; omega, fun r hr => ?_⟩
  rcases List.mem_append.1 hr with m | m
  · exact h.d r m
  · simp at m
    subst m
    exact h.last
theorem good_dig {c : UInt8} (hg : good c) (h59 : ¬ c.toNat = 59) (h58 : ¬ c.toNat = 58) : 48 ≤ c.toNat ∧ c.toNat ≤ 57 := by
  have := hg
  unfold good at this
  omega
theorem PS.Ok.byte {s : PS} (h : s.Ok) (c : UInt8) (hg : good c) : (s.byte c).Ok ∧ wt (s.byte c).rows ≤ wt s.rows + 1 ∧ ((s.byte c).rows = s.rows ∨ (s.byte c).rows ≠ [[-1]]) := by
  unfold PS.byte
  by_cases h59 : c.toNat = 59
  · rw [if_pos h59]
    unfold PS.nxt
    by_cases hf : s.D.length + 1 = 32
    · rw [if_pos hf]
      exact ⟨⟨h.d, h.n, h.k, h.r, h.x⟩, Nat.le_succ _, .inl rfl⟩
    · rw [if_neg hf]
      refine ⟨⟨fun q hq => ?_, ?_, by simp, by simp, by simp⟩, ?_, .inr ?_⟩
      · rcases List.mem_append.1 hq with m | m
        · exact h.d q m
        · simp at m
          subst m
          exact h.last
      · have := h.n
        simp
        omega
      · show wt ((s.D ++ [s.r ++ [s.x]]) ++ [[] ++ [-1]]) ≤ wt (s.D ++ [s.r ++ [s.x]]) + 1
        rw [wt_snoc]
        exact Nat.le_refl _
      · show (s.D ++ [s.r ++ [s.x]]) ++ [[] ++ [-1]] ≠ [[-1]]
        intro e
        have := congrArg List.length e
        simp at this
  · rw [if_neg h59]
    by_cases h58 : c.toNat = 58
    · rw [if_pos h58]
      unfold PS.sub
      by_cases ho : s.o = true
      · rw [if_pos ho]
        exact ⟨h, Nat.le_succ _, .inl rfl⟩
      · rw [if_neg ho]
        by_cases hf : s.r.length + 1 = 8
        · rw [if_pos hf]
          exact ⟨⟨h.d, h.n, h.k, h.r, h.x⟩, Nat.le_succ _, .inl rfl⟩
        · rw [if_neg hf]
          refine ⟨⟨h.d, h.n, ?_, fun y hy => ?_, by simp⟩, ?_, .inr ?_⟩
          · have := h.k
            simp
            omega
          · rcases List.mem_append.1 hy with m | m
            · exact h.r y m
            · simp at m
              subst m
              exact h.x
          · show wt (s.D ++ [(s.r ++ [s.x]) ++ [-1]]) ≤ wt (s.D ++ [s.r ++ [s.x]]) + 1
            rw [wt_snoc, wt_snoc, wtR_snoc (s.r ++ [s.x])]
            exact Nat.le_refl _
          · show s.D ++ [(s.r ++ [s.x]) ++ [-1]] ≠ [[-1]]
            intro e
            have := congrArg (List.map List.length) e
            simp at this
            cases hD : s.D <;> simp [hD] at this
    · rw [if_neg h58]
      unfold PS.dig
      by_cases ho : s.o = true
      · rw [if_pos ho]
        exact ⟨h, Nat.le_succ _, .inl rfl⟩
      · rw [if_neg ho]
        obtain ⟨c0, c1⟩ := good_dig hg h59 h58
        obtain ⟨d0, d1, d2⟩ := dig_ok s.x c.toNat h.x.1 h.x.2 c0 c1
        refine ⟨⟨h.d, h.n, h.k, h.r, show -1 ≤ digM s.x c.toNat ∧ digM s.x c.toNat ≤ 65535 from ⟨by omega, d1⟩⟩, ?_, .inr ?_⟩
        · show wt (s.D ++ [s.r ++ [digM s.x c.toNat]]) ≤ wt (s.D ++ [s.r ++ [s.x]]) + 1
          rw [wt_snoc, wt_snoc, wtR_snoc, wtR_snoc]
          omega
        · show s.D ++ [s.r ++ [digM s.x c.toNat]] ≠ [[-1]]
          intro e
          have e2 : ([] : Rws) ++ [[] ++ [-1]] = [[-1]] := rfl
          rw [← e2] at e
          have := (List.append_inj' e rfl).2
          simp only [List.cons.injEq, and_true] at this
          have := (List.append_inj' this rfl).2
          simp only [List.cons.injEq, and_true] at this
          omega
theorem runS_ok : ∀ (l : List UInt8) (s : PS), s.Ok → (∀ c ∈ l, good c) → (runS s l).Ok ∧ wt (runS s l).rows ≤ wt s.rows + l.length ∧ ((runS s l).rows = s.rows ∨ (runS s l).rows ≠ [[-1]])
  | [], s, h, _ => ⟨h, Nat.le_refl _, .inl rfl⟩
  | c :: l, s, h, hg => by
    obtain ⟨a1, a2, a3⟩ := h.byte c (hg c (by simp))
    obtain ⟨b1, b2, b3⟩ := runS_ok l (s.byte c) a1 (fun z hz => hg z (by simp [hz]))
    refine ⟨b1, ?_, ?_⟩
    · show wt (runS (s.byte c) l).rows ≤ _
      simp only [List.length_cons]
      omega
    · show (runS (s.byte c) l).rows = _ ∨ (runS (s.byte c) l).rows ≠ _
      rcases b3 with e | e
      · rw [e]
        exact a3
      · exact .inr e
theorem start_new (c : UInt8) (hg : good c) : (PS.start.byte c).rows ≠ [[-1]] := by
  have hn : PS.start.o ≠ true := by simp [PS.start]
  rcases (PS.Ok.start.byte c hg).2.2 with e | e
  · exfalso
    unfold PS.byte at e
    by_cases h59 : c.toNat = 59
    · rw [if_pos h59] at e
      have := congrArg List.length e
      simp [PS.nxt, PS.start, PS.rows] at this
    · rw [if_neg h59] at e
      by_cases h58 : c.toNat = 58
      · rw [if_pos h58] at e
        simp [PS.sub, PS.start, PS.rows] at e
      · rw [if_neg h58] at e
        obtain ⟨c0, c1⟩ := good_dig hg h59 h58
        simp [PS.dig, PS.start, PS.rows] at e
        omega
  · exact e
/-- What the walk needs of what was parsed. -/
theorem parsed_back (l : List UInt8) (hg : ∀ c ∈ l, good c) : (parsed l).length ≤ 32 ∧ (∀ r ∈ parsed l, okRow r) ∧ parsed (allT (parsed l)) = parsed l ∧ (allT (parsed l)).length ≤ l.length := by
  cases l with
  | nil => exact ⟨by decide, by simp [parsed_nil], rfl, Nat.le_refl _⟩
  | cons c l =>
    have e : parsed (c :: l) = (runS (PS.start.byte c) l).rows := by
      show rowsO (runO (c :: l)) = _
      rw [runO_cons]
      rfl
    obtain ⟨a1, a2, _⟩ := PS.Ok.start.byte c (hg c (by simp))
    obtain ⟨b1, b2, b3⟩ := runS_ok l _ a1 (fun z hz => hg z (by simp [hz]))
    have hne : (runS (PS.start.byte c) l).rows ≠ [[-1]] := by
      rcases b3 with e | e
      · rw [e]
        exact start_new c (hg c (by simp))
      · exact e
    rw [e]
    obtain ⟨r1, r2⟩ := b1.rows
    refine ⟨r1, r2, back_any r1 r2 hne, ?_⟩
    have hw := wt_len (R := (runS (PS.start.byte c) l).rows) (by simp [PS.rows]) r2
    have h1 : wt PS.start.rows = 1 := rfl
    simp only [List.length_cons]
    omega
theorem dec_good (u : Nat) : ∀ c ∈ Lib.decDigits u, good c := by
  induction u using Nat.strongRecOn with
  | _ u ih =>
    intro c hc
    by_cases h10 : u < 10
    · rw [Lib.decDigits, dif_pos h10] at hc
      simp only [List.mem_singleton] at hc
      subst hc
      unfold good
      rw [dig_char u h10]
      omega
    · rw [Lib.decDigits, dif_neg h10] at hc
      rcases List.mem_append.1 hc with m | m
      · exact ih (u / 10) (by omega) c m
      · simp only [List.mem_singleton] at m
        subst m
        unfold good
        rw [dig_char _ (by omega)]
        omega
theorem num_good (x : Int) : ∀ c ∈ numT x, good c := by
  unfold numT
  by_cases h : x < 0
  · simp [h]
  · obtain ⟨u, rfl⟩ : ∃ u : Nat, x = u := ⟨x.toNat, by omega⟩
    rw [if_neg h, Lib.itoa_nonneg]
    exact dec_good u
theorem joinT_good {α : Type} {sep : UInt8} {f : α → List UInt8} (hs : good sep) (hf : ∀ x, ∀ c ∈ f x, good c) (l : List α) : ∀ c ∈ joinT sep f l, good c := by
  cases l with
  | nil => simp [joinT]
  | cons x t =>
    intro c hc
    rcases List.mem_append.1 hc with m | m
    · exact hf x c m
    · obtain ⟨y, _, m⟩ := List.mem_flatMap.1 m
      rcases List.mem_cons.1 m with rfl | m
      · exact hs
      · exact hf y c m
theorem all_good (R : Rws) : ∀ c ∈ allT R, good c := joinT_good (by decide) (joinT_good (by decide) num_good) R
/-- However parameters come: as many bytes as there is place for. -/
theorem all_len {R : Rws} (hl : R.length ≤ 32) (h : ∀ r ∈ R, okRow r) : (allT R).length ≤ 1536 := by
  by_cases hne : R = []
  · subst hne
    exact Nat.zero_le _
  · have hw := wt_len hne h
    have h1 : ∀ r : List Int, (∀ x ∈ r, -1 ≤ x ∧ x ≤ 65535) → wtR r ≤ 6 * r.length := by
      intro r
      induction r with
      | nil => intro _; exact Nat.le_refl _
      | cons x r ih =>
        intro h
        have := ih (fun z hz => h z (by simp [hz]))
        have hx := h x (by simp)
        have := nlen_eq x hx.1 hx.2
        have e : wtR (x :: r) = nlen x + 1 + wtR r := by simp [wtR]
        have : nlen x ≤ 5 := by
          rw [this]
          (repeat' split) <;> omega
        rw [e, List.length_cons]
        omega
    have h2 : ∀ R : Rws, (∀ r ∈ R, okRow r) → wt R ≤ 48 * R.length := by
      intro R
      induction R with
      | nil => intro _; exact Nat.le_refl _
      | cons r R ih =>
        intro h
        have := ih (fun z hz => h z (by simp [hz]))
        have a := h r (by simp)
        have := h1 r a.2.2
        have := a.2.1
        have e : wt (r :: R) = wtR r + wt R := by simp [wt]
        rw [e, List.length_cons]
        omega
    have := h2 R h
    omega
end Go.Proofs.YtlmhnebgkginkaaDoor.Lab
