/- Two right tokens have the same bytes only if they are the same; which bytes stand where: plain mathematics. -/
import Derived.Test.YtclaopidjfekmaaDoorToMath
namespace Go.Proofs.YtclaopidjfekmaaDoor.Lab
open Go.RowKit Go.Lib

set_option maxRecDepth 100000 in
set_option maxHeartbeats 4000000 in
theorem enc_list (r : Int) (hv : Utf8.valid r = true) : ∃ k b0 b1 b2 b3 : Nat, (∀ t, ((Utf8.encode r).data.toList ++ t).length = k + t.length) ∧ (Utf8.encode r).data.toList.length = k ∧ 1 ≤ k ∧ k ≤ 4 ∧
    (∀ t, (((Utf8.encode r).data.toList ++ t).getD 0 0).toNat = b0) ∧ (∀ t, 1 < k → (((Utf8.encode r).data.toList ++ t).getD 1 0).toNat = b1) ∧ (∀ t, 2 < k → (((Utf8.encode r).data.toList ++ t).getD 2 0).toNat = b2) ∧
    (∀ t, 3 < k → (((Utf8.encode r).data.toList ++ t).getD 3 0).toNat = b3) ∧ (∀ n c1 c2 c3, k ≤ n → (1 < k → c1 = b1) → (2 < k → c2 = b2) → (3 < k → c3 = b3) → decodeN n b0 c1 c2 c3 = (r.toNat, k)) ∧
    (∀ c ∈ (Utf8.encode r).data.toList, (c.toNat : Int) = r ∨ 128 ≤ c.toNat) := by
  have hr : (0 ≤ r ∧ r < 55296) ∨ (57344 ≤ r ∧ r ≤ 1114111) := by
    have := hv
    simp only [Utf8.valid, Bool.or_eq_true, Bool.and_eq_true, decide_eq_true_eq] at this
    omega
  obtain ⟨c, rfl⟩ := Int.eq_ofNat_of_zero_le (show 0 ≤ r by omega)
  unfold Utf8.encode
  simp only [hv, if_true, Int.toNat_natCast]
  split
  · refine ⟨1, c, 0, 0, 0, ?_, rfl, by omega, by omega, ?_, fun _ h => by omega, fun _ h => by omega, fun _ h => by omega, ?_, ?_⟩
    · intro t; simp; omega
    · intro t; simp; omega
    · intro n c1 c2 c3 hn _ _ _
      simp only [decodeN]
      rw [if_pos (by omega)]
    · intro x hx; simp at hx; subst hx; simp; omega
  · split
    · refine ⟨2, 192 + c / 64, 128 + c % 64, 0, 0, ?_, rfl, by omega, by omega, ?_, ?_, fun _ h => by omega, fun _ h => by omega, ?_, ?_⟩
      · intro t; simp; omega
      · intro t; simp; omega
      · intro t _; simp; omega
      · intro n c1 c2 c3 hn h1 _ _
        have := h1 (by omega); subst this
        simp only [decodeN]
        rw [if_neg (by omega), if_pos (by omega), if_pos (by omega)]
        exact Prod.ext (by show _ = ((c : Nat) : Int).toNat; rw [Int.toNat_natCast]; simp only; omega) rfl
      · intro x hx; simp at hx; right; rcases hx with rfl | rfl <;> simp <;> omega
    · split
      · refine ⟨3, 224 + c / 4096, 128 + c / 64 % 64, 128 + c % 64, 0, ?_, rfl, by omega, by omega, ?_, ?_, ?_, fun _ h => by omega, ?_, ?_⟩
        · intro t; simp; omega
        · intro t; simp; omega
        · intro t _; simp; omega
        · intro t _; simp; omega
        · intro n c1 c2 c3 hn h1 h2 _
          have := h1 (by omega); subst this
          have := h2 (by omega); subst this
          have e : (224 + c / 4096) % 16 * 4096 + (128 + c / 64 % 64) % 64 * 64 + (128 + c % 64) % 64 = c := by omega
          simp only [decodeN, e]
          rw [if_neg (by omega), if_neg (by omega), if_pos (by omega), if_pos (by omega)]
        · intro x hx; simp at hx; right; rcases hx with rfl | rfl | rfl <;> simp <;> omega
      · refine ⟨4, 240 + c / 262144, 128 + c / 4096 % 64, 128 + c / 64 % 64, 128 + c % 64, ?_, rfl, by omega, by omega, ?_, ?_, ?_, ?_, ?_, ?_⟩
        · intro t; simp; omega
        · intro t; simp; omega
        · intro t _; simp; omega
        · intro t _; simp; omega
        · intro t _; simp; omega
        · intro n c1 c2 c3 hn h1 h2 h3
          have := h1 (by omega); subst this
          have := h2 (by omega); subst this
          have := h3 (by omega); subst this
          have e : (240 + c / 262144) % 8 * 262144 + (128 + c / 4096 % 64) % 64 * 4096 + (128 + c / 64 % 64) % 64 * 64 + (128 + c % 64) % 64 = c := by omega
          simp only [decodeN, e]
          rw [if_neg (by omega), if_neg (by omega), if_neg (by omega), if_pos (by omega), if_pos (by omega)]
        · intro x hx; simp at hx; right; rcases hx with rfl | rfl | rfl | rfl <;> simp <;> omega

theorem decode_enc (r : Int) (hv : Utf8.valid r = true) : decodeL (encR r) = (r.toNat, (encR r).length) := by
  obtain ⟨k, b0, b1, b2, b3, hl, hk, k1, _, g0, g1, g2, g3, hd, _⟩ := enc_list r hv
  have e := decodeL_N ((Utf8.encode r).data.toList ++ [])
  rw [g0 [], hl []] at e
  rw [List.append_nil] at e
  show decodeL (Utf8.encode r).data.toList = _
  rw [e]
  show _ = (r.toNat, (Utf8.encode r).data.toList.length)
  rw [hk]
  have h1 := g1 []
  have h2 := g2 []
  have h3 := g3 []
  rw [List.append_nil] at h1 h2 h3
  exact hd _ _ _ _ (by simp) h1 h2 h3
theorem valid_nonneg {r : Int} (hv : Utf8.valid r = true) : (r.toNat : Int) = r := by
  simp only [Utf8.valid, Bool.or_eq_true, Bool.and_eq_true, decide_eq_true_eq] at hv
  omega
theorem encR_inj {r s : Int} (hr : Utf8.valid r = true) (hs : Utf8.valid s = true) (h : encR r = encR s) : r = s := by
  have e := decode_enc r hr
  rw [h, decode_enc s hs] at e
  have := congrArg Prod.fst e
  have a := valid_nonneg hr
  have b := valid_nonneg hs
  simp only at this
  omega
theorem encR_len {r : Int} (hr : Utf8.valid r = true) : 1 ≤ (encR r).length ∧ (encR r).length ≤ 4 := by
  obtain ⟨k, b0, b1, b2, b3, hl, hk, k1, k4, _⟩ := enc_list r hr
  show 1 ≤ (Utf8.encode r).data.toList.length ∧ (Utf8.encode r).data.toList.length ≤ 4
  omega
theorem encR_mem {r : Int} (h : prnOk r) : ∀ c ∈ encR r, 32 ≤ c.toNat ∧ c.toNat ≠ 127 := by
  obtain ⟨hv, h1, h2⟩ := h
  obtain ⟨k, b0, b1, b2, b3, _, _, _, _, _, _, _, _, _, hm⟩ := enc_list r hv
  intro c hc
  rcases hm c hc with e | e <;> omega

/-! ### lengths -/
theorem num_len {x : Int} (h0 : -1 ≤ x) (h1 : x ≤ 65535) : (numT x).length ≤ 5 := by
  unfold numT
  by_cases h : x < 0
  · simp [h]
  · obtain ⟨u, rfl⟩ : ∃ u : Nat, x = u := ⟨x.toNat, by omega⟩
    rw [if_neg h, Lib.itoa_nonneg, Lib.decDigits_length]
    by_cases a1 : u < 10
    · rw [Lib.nDigits_small a1]; omega
    · by_cases a2 : u < 100
      · rw [Lib.nDigits_unique 1 u (by show 10 ≤ u; omega) (by show u < 100; omega)]; omega
      · by_cases a3 : u < 1000
        · rw [Lib.nDigits_unique 2 u (by show 100 ≤ u; omega) (by show u < 1000; omega)]; omega
        · by_cases a4 : u < 10000
          · rw [Lib.nDigits_unique 3 u (by show 1000 ≤ u; omega) (by show u < 10000; omega)]; omega
          · rw [Lib.nDigits_unique 4 u (by show 10000 ≤ u; omega) (by show u < 100000; omega)]; omega
theorem joinT_len {α : Type} (sep : UInt8) (f : α → List UInt8) (m : Nat) : ∀ l : List α, (∀ x ∈ l, (f x).length ≤ m) → (joinT sep f l).length ≤ (m + 1) * l.length
  | [], _ => by simp [joinT]
  | x :: t, h => by
    have hx := h x (by simp)
    have : ∀ t : List α, (∀ y ∈ t, (f y).length ≤ m) → (t.flatMap fun y => sep :: f y).length ≤ (m + 1) * t.length := by
      intro t
      induction t with
      | nil => intro _; simp
      | cons y t ih =>
        intro h
        have := h y (by simp)
        have := ih fun z hz => h z (by simp [hz])
        simp only [List.flatMap_cons, List.length_append, List.length_cons, Nat.mul_add]
        omega
    have := this t fun z hz => h z (by simp [hz])
    simp only [joinT, List.length_append, List.length_cons, Nat.mul_add]
    omega
theorem row_len {r : List Int} (h : okRow r) : (rowT r).length ≤ 48 := by
  have := joinT_len 58 numT 5 r fun x hx => num_len (h.2.2 x hx).1 (h.2.2 x hx).2
  have := h.2.1
  unfold rowT
  omega
theorem all_len {R : Rws} (hl : R.length ≤ 32) (h : ∀ r ∈ R, okRow r) : (allT R).length ≤ 1568 := by
  have := joinT_len 59 rowT 48 R fun r hr => row_len (h r hr)
  unfold allT
  omega
theorem head_len {t : Tok} (h : hdOk t) : (headL t).length ≤ 1572 := by
  obtain ⟨_, ⟨h1, h2, _⟩, ⟨h3, _⟩, _⟩ := h
  have := all_len h1 h2
  have h3' : (bl t.inter).length ≤ 2 := by simpa [bl] using h3
  unfold headL
  simp only [List.length_append]
  have : (if t.priv = 0 then [] else oneL t.priv : List UInt8).length ≤ 1 := by split <;> simp [oneL]
  have : (oneL t.fin).length = 1 := rfl
  omega
theorem right_len {t : Tok} (h : Right t) : 1 ≤ (tokL t).length ∧ (tokL t).length ≤ 3000 := by
  rcases h with h | h | h | h | h | h
  · obtain ⟨hk, _, _, _, _, _, hv, _⟩ := h
    have := encR_len hv
    rw [tokL, if_pos hk]
    omega
  · rw [tokL, if_neg (by omega), if_pos h.1]
    simp [oneL]
  · have : (bl t.inter).length ≤ 2 := by simpa [bl] using h.2.2.2.2.2.1.1
    rw [tokL, if_neg (by omega), if_neg (by omega), if_pos h.1]
    simp [oneL] at *
    omega
  · have := head_len h.2.2.2
    rw [tokL, if_neg (by omega), if_neg (by omega), if_neg (by omega), if_pos h.1]
    simp
    omega
  · have : (bl t.data).length ≤ 1024 := by simpa [bl] using h.2.2.2.2.2.2.1
    rw [tokL, if_neg (by omega), if_neg (by omega), if_neg (by omega), if_neg (by omega), if_pos h.1]
    simp at *
    omega
  · have := head_len h.2.2.1
    have : (bl t.data).length ≤ 1024 := by simpa [bl] using h.2.2.2.1
    rw [tokL, if_neg (by omega), if_neg (by omega), if_neg (by omega), if_neg (by omega), if_neg (by omega)]
    simp at *
    omega

/-! ### which bytes stand where -/
theorem head_mem {t : Tok} (h : hdOk t) : ∀ c ∈ headL t, 32 ≤ c.toNat ∧ c.toNat ≤ 126 := by
  obtain ⟨p1, _, ⟨_, i1⟩, f1, f2⟩ := h
  intro c hc
  unfold headL at hc
  simp only [List.mem_append] at hc
  rcases hc with ((hc | hc) | hc) | hc
  · by_cases e : t.priv = 0
    · simp [e] at hc
    · rw [if_neg e] at hc
      obtain ⟨u, eu, hu⟩ := oneL_nat (c := t.priv) (by omega) (by omega)
      rw [eu] at hc
      simp at hc
      subst hc
      omega
  · have := all_mem _ c hc
    omega
  · have := i1 c hc
    omega
  · obtain ⟨u, eu, hu⟩ := oneL_nat (c := t.fin) (by omega) (by omega)
    rw [eu] at hc
    simp at hc
    subst hc
    omega
/-- Of a right token, by its kind. -/
inductive Form (t : Tok) : Prop
  | p (hk : t.kind = 0) (hm : ∀ c ∈ tokL t, 32 ≤ c.toNat ∧ c.toNat ≠ 127)
  | c (hk : t.kind = 1) (u : UInt8) (he : tokL t = [u]) (hu : u.toNat < 32) (h27 : u.toNat ≠ 27)
  | s (hk : t.kind = 2 ∨ t.kind = 3) (m : List UInt8) (he : tokL t = 27 :: m) (hm : ∀ c ∈ m, 32 ≤ c.toNat ∧ c.toNat ≤ 126)
  | o (hk : t.kind = 4) (m : List UInt8) (he : tokL t = 27 :: (m ++ [7])) (hm : ∀ c ∈ m, 32 ≤ c.toNat ∧ c.toNat ≠ 127)
  | d (hk : t.kind = 5) (m : List UInt8) (he : tokL t = 27 :: (m ++ [27, 92])) (hm : ∀ c ∈ m, 32 ≤ c.toNat ∧ c.toNat ≠ 127)
theorem form_of {t : Tok} (h : Right t) (hw : t.wf) : Form t := by
  obtain ⟨_, _, w0, w1⟩ := hw
  obtain ⟨u, eu, hu⟩ := oneL_nat w0 w1
  rcases h with h | h | h | h | h | h
  · refine .p h.1 ?_
    rw [tokL, if_pos h.1]
    exact encR_mem h.2.2.2.2.2.2
  · obtain ⟨hk, _, _, _, _, _, hc⟩ := h
    unfold ctlOk at hc
    refine .c hk u ?_ (by omega) (by omega)
    rw [tokL, if_neg (by omega), if_pos hk, eu]
  · obtain ⟨hk, _, _, _, _, ⟨_, hi⟩, f0, f1, _⟩ := h
    refine .s (.inl hk) (bl t.inter ++ oneL t.fin) ?_ ?_
    · rw [tokL, if_neg (by omega), if_neg (by omega), if_pos hk]
    · intro c hc
      rw [eu] at hc
      rcases List.mem_append.1 hc with hc | hc
      · have := hi c hc
        omega
      · simp at hc
        subst hc
        omega
  · refine .s (.inr h.1) (91 :: headL t) ?_ ?_
    · rw [tokL, if_neg (by omega), if_neg (by omega), if_neg (by omega), if_pos h.1]
    · intro c hc
      rcases List.mem_cons.1 hc with rfl | hc
      · decide
      · exact head_mem h.2.2.2 c hc
  · obtain ⟨hk, _, _, _, _, _, ⟨_, hd⟩⟩ := h
    refine .o hk (93 :: bl t.data) ?_ ?_
    · rw [tokL, if_neg (by omega), if_neg (by omega), if_neg (by omega), if_neg (by omega), if_pos hk]
      rfl
    · intro c hc
      rcases List.mem_cons.1 hc with rfl | hc
      · decide
      · exact hd c hc
  · obtain ⟨hk, _, hh, ⟨_, hd⟩⟩ := h
    refine .d hk (80 :: (headL t ++ bl t.data)) ?_ ?_
    · rw [tokL, if_neg (by omega), if_neg (by omega), if_neg (by omega), if_neg (by omega), if_neg (by omega)]
      rfl
    · intro c hc
      rcases List.mem_cons.1 hc with rfl | hc
      · decide
      · rcases List.mem_append.1 hc with hc | hc
        · have := head_mem hh c hc
          omega
        · exact hd c hc

/-- What may stand at a place. -/
structure At (t : Tok) (n i : Nat) (c : UInt8) : Prop where
  esc : c.toNat = 27 → 2 ≤ t.kind ∧ (i = 0 ∨ t.kind = 5 ∧ i + 2 = n)
  del : c.toNat ≠ 127
  low : c.toNat < 32 → c.toNat ≠ 27 → t.kind = 1 ∨ t.kind = 4 ∧ i + 1 = n ∧ c.toNat = 7
  high : 128 ≤ c.toNat → t.kind = 0 ∨ t.kind = 4 ∨ t.kind = 5
theorem at_of {t : Tok} (h : Form t) {i : Nat} (hi : i < (tokL t).length) : At t (tokL t).length i (tokL t)[i] := by
  cases h with
  | p hk hm =>
    have := hm _ (List.getElem_mem hi)
    exact ⟨by omega, by omega, by omega, by omega⟩
  | c hk u he hu h27 =>
    have e : (tokL t)[i] = u := by
      simp [he]
    rw [e]
    exact ⟨by omega, by omega, by omega, by omega⟩
  | s hk m he hm =>
    have hn : (tokL t).length = m.length + 1 := by rw [he]; rfl
    have e : (tokL t)[i] = if h : i = 0 then 27 else m[i - 1]'(by omega) := by
      simp only [he]
      cases i with
      | zero => rfl
      | succ i => rfl
    rw [e]
    by_cases h0 : i = 0
    · rw [dif_pos h0]
      exact ⟨fun _ => ⟨by omega, .inl h0⟩, by decide, fun _ h => absurd rfl h, fun h => absurd h (by decide)⟩
    · rw [dif_neg h0]
      have := hm _ (List.getElem_mem (l := m) (n := i - 1) (by omega))
      exact ⟨by omega, by omega, by omega, by omega⟩
  | o hk m he hm =>
    have hn : (tokL t).length = m.length + 2 := by rw [he]; simp
    have e : (tokL t)[i] = if h : i = 0 then 27 else if h' : i - 1 < m.length then m[i - 1] else 7 := by
      simp only [he]
      cases i with
      | zero => rfl
      | succ i =>
        simp only [List.getElem_cons_succ, Nat.add_sub_cancel, Nat.succ_ne_zero, dite_false]
        rw [List.getElem_append]
        by_cases h' : i < m.length
        · simp [h']
        · simp [h']
    rw [e]
    by_cases h0 : i = 0
    · rw [dif_pos h0]
      exact ⟨fun _ => ⟨by omega, .inl h0⟩, by decide, fun _ h => absurd rfl h, fun h => absurd h (by decide)⟩
    · rw [dif_neg h0]
      by_cases h' : i - 1 < m.length
      · rw [dif_pos h']
        have := hm _ (List.getElem_mem h')
        exact ⟨by omega, by omega, by omega, by omega⟩
      · rw [dif_neg h']
        exact ⟨fun h => absurd h (by decide), by decide, fun _ _ => .inr ⟨hk, by omega, by decide⟩, fun h => absurd h (by decide)⟩
  | d hk m he hm =>
    have hn : (tokL t).length = m.length + 3 := by rw [he]; simp
    have e : (tokL t)[i] = if h : i = 0 then 27 else if h' : i - 1 < m.length then m[i - 1] else if i - 1 = m.length then 27 else 92 := by
      simp only [he]
      cases i with
      | zero => rfl
      | succ i =>
        simp only [List.getElem_cons_succ, Nat.add_sub_cancel, Nat.succ_ne_zero, dite_false]
        rw [List.getElem_append]
        by_cases h' : i < m.length
        · simp [h']
        · rw [dif_neg h', dif_neg h']
          by_cases h2 : i = m.length
          · subst h2
            simp
          · obtain rfl : i = m.length + 1 := by omega
            simp
    rw [e]
    by_cases h0 : i = 0
    · rw [dif_pos h0]
      exact ⟨fun _ => ⟨by omega, .inl h0⟩, by decide, fun _ h => absurd rfl h, fun h => absurd h (by decide)⟩
    · rw [dif_neg h0]
      by_cases h' : i - 1 < m.length
      · rw [dif_pos h']
        have := hm _ (List.getElem_mem h')
        exact ⟨by omega, by omega, by omega, by omega⟩
      · rw [dif_neg h']
        by_cases h2 : i - 1 = m.length
        · rw [if_pos h2]
          exact ⟨fun _ => ⟨by omega, .inr ⟨hk, by omega⟩⟩, by decide, fun _ h => absurd rfl h, fun h => absurd h (by decide)⟩
        · rw [if_neg h2]
          exact ⟨fun h => absurd h (by decide), by decide, fun h => absurd h (by decide), fun h => absurd h (by decide)⟩
theorem first_of {t : Tok} (h : Right t) (hw : t.wf) : ((tokL t).headD 0).toNat = 27 ↔ 2 ≤ t.kind := by
  cases form_of h hw with
  | p hk hm =>
    have hl := (right_len h).1
    obtain ⟨c, m, e⟩ : ∃ c m, tokL t = c :: m := by
      cases e : tokL t with
      | nil => rw [e] at hl; simp at hl
      | cons c m => exact ⟨c, m, rfl⟩
    have := hm c (by rw [e]; simp)
    rw [e]
    simp only [List.headD_cons]
    omega
  | c hk u he hu h27 =>
    rw [he]
    simp only [List.headD_cons]
    omega
  | s hk m he hm =>
    rw [he]
    simp only [List.headD_cons]
    exact ⟨fun _ => by omega, fun _ => by decide⟩
  | o hk m he hm =>
    rw [he]
    simp only [List.headD_cons]
    exact ⟨fun _ => by omega, fun _ => by decide⟩
  | d hk m he hm =>
    rw [he]
    simp only [List.headD_cons]
    exact ⟨fun _ => by omega, fun _ => by decide⟩

/-! ### the same bytes, the same token -/
theorem Tok.ext' {s t : Tok} (h1 : s.kind = t.kind) (h2 : s.rune = t.rune) (h3 : s.priv = t.priv) (h4 : s.P = t.P) (h5 : s.inter = t.inter) (h6 : s.fin = t.fin) (h7 : s.data = t.data) : s = t := by
  cases s; cases t
  simp at *
  exact ⟨h1, h2, h3, h4, h5, h6, h7⟩
theorem tokL_2 {t : Tok} (h : t.kind = 2) : tokL t = 27 :: (bl t.inter ++ oneL t.fin) := by
  rw [tokL, if_neg (by omega), if_neg (by omega), if_pos h]
theorem tokL_3 {t : Tok} (h : t.kind = 3) : tokL t = 27 :: 91 :: headL t := by
  rw [tokL, if_neg (by omega), if_neg (by omega), if_neg (by omega), if_pos h]
theorem tokL_4 {t : Tok} (h : t.kind = 4) : tokL t = 27 :: 93 :: (bl t.data ++ [7]) := by
  rw [tokL, if_neg (by omega), if_neg (by omega), if_neg (by omega), if_neg (by omega), if_pos h]
theorem tokL_5 {t : Tok} (h : t.kind = 5) : tokL t = 27 :: 80 :: (headL t ++ bl t.data ++ [27, 92]) := by
  rw [tokL, if_neg (by omega), if_neg (by omega), if_neg (by omega), if_neg (by omega), if_neg (by omega)]
/-- The second byte tells the kind. -/
theorem esc_second {t : Tok} (hi : intOk t.inter) (f0 : 48 ≤ t.fin) (f1 : t.fin ≤ 126) (ho : bl t.inter = [] → ¬ opener t.fin) : ∃ c m, bl t.inter ++ oneL t.fin = c :: m ∧ c.toNat ≠ 80 ∧ c.toNat ≠ 91 ∧ c.toNat ≠ 93 := by
  obtain ⟨u, eu, hu⟩ := oneL_nat (c := t.fin) (by omega) (by omega)
  rw [eu]
  cases hb : bl t.inter with
  | nil =>
    have := ho hb
    unfold opener at this
    exact ⟨u, [], rfl, by omega, by omega, by omega⟩
  | cons c m =>
    have := hi.2 c (by rw [hb]; simp)
    exact ⟨c, m ++ [u], rfl, by omega, by omega, by omega⟩
theorem kind_of {t : Tok} (h : Right t) : t.kind = 0 ∨ t.kind = 1 ∨ t.kind = 2 ∨ t.kind = 3 ∨ t.kind = 4 ∨ t.kind = 5 := by
  rcases h with h | h | h | h | h | h <;> simp [h.1]
def sec (l : List UInt8) : Nat := (l.getD 1 0).toNat
theorem sec_of {t : Tok} (h : Right t) (hk : 2 ≤ t.kind) : (t.kind = 2 ∧ sec (tokL t) ≠ 80 ∧ sec (tokL t) ≠ 91 ∧ sec (tokL t) ≠ 93) ∨ (t.kind = 3 ∧ sec (tokL t) = 91) ∨ (t.kind = 4 ∧ sec (tokL t) = 93) ∨ (t.kind = 5 ∧ sec (tokL t) = 80) := by
  rcases h with h | h | h | h | h | h
  · omega
  · omega
  · obtain ⟨c, m, e, h1, h2, h3⟩ := esc_second h.2.2.2.2.2.1 h.2.2.2.2.2.2.1 h.2.2.2.2.2.2.2.1 h.2.2.2.2.2.2.2.2
    rw [tokL_2 h.1, e]
    exact .inl ⟨h.1, h1, h2, h3⟩
  · rw [tokL_3 h.1]
    exact .inr (.inl ⟨h.1, rfl⟩)
  · rw [tokL_4 h.1]
    exact .inr (.inr (.inl ⟨h.1, rfl⟩))
  · rw [tokL_5 h.1]
    exact .inr (.inr (.inr ⟨h.1, rfl⟩))
theorem same_kind {s t : Tok} (hs : Right s) (ht : Right t) (ws : s.wf) (wt : t.wf) (h : tokL s = tokL t) : s.kind = t.kind := by
  have a := first_of hs ws
  have b := first_of ht wt
  rw [h] at a
  have hk := kind_of hs
  have hk' := kind_of ht
  by_cases h2 : 2 ≤ s.kind
  · have h2' : 2 ≤ t.kind := b.1 (a.2 h2)
    have x := sec_of hs h2
    have y := sec_of ht h2'
    rw [h] at x
    omega
  · have h2' : ¬ 2 ≤ t.kind := fun e => h2 (a.1 (b.2 e))
    have fs := form_of hs ws
    have ft := form_of ht wt
    cases fs with
    | p k m =>
      cases ft with
      | p k' m' => omega
      | c k' u e hu _ =>
        have := m u (by rw [h, e]; simp)
        omega
      | s k' => omega
      | o k' => omega
      | d k' => omega
    | c k u e hu _ =>
      cases ft with
      | p k' m' =>
        have := m' u (by rw [← h, e]; simp)
        omega
      | c k' => omega
      | s k' => omega
      | o k' => omega
      | d k' => omega
    | s k => omega
    | o k => omega
    | d k => omega
/-- THE STAGE'S THEOREM, of one token. -/
theorem tok_inj {s t : Tok} (hs : Right s) (ht : Right t) (ws : s.wf) (wt : t.wf) (h : tokL s = tokL t) : s = t := by
  have hk := same_kind hs ht ws wt h
  obtain ⟨p0, p1, f0, f1⟩ := ws
  obtain ⟨p0', p1', f0', f1'⟩ := wt
  rcases hs with hs | hs | hs | hs | hs | hs
  · rcases ht with ht | ht | ht | ht | ht | ht
    · obtain ⟨k, a1, a2, a3, a4, a5, hv, _⟩ := hs
      obtain ⟨k', b1, b2, b3, b4, b5, hv', _⟩ := ht
      rw [tokL, if_pos k, tokL, if_pos k'] at h
      exact Tok.ext' hk (encR_inj hv hv' h) (by omega) (by rw [a2, b2]) (bl_inj (by rw [a3, b3])) (by omega) (bl_inj (by rw [a5, b5]))
    all_goals omega
  · rcases ht with ht | ht | ht | ht | ht | ht
    · omega
    · obtain ⟨k, a1, a2, a3, a4, a5, _⟩ := hs
      obtain ⟨k', b1, b2, b3, b4, b5, _⟩ := ht
      rw [tokL, if_neg (by omega), if_pos k, tokL, if_neg (by omega), if_pos k'] at h
      exact Tok.ext' hk (by omega) (by omega) (by rw [a3, b3]) (bl_inj (by rw [a4, b4])) (oneL_inj f0 f1 f0' f1' h) (bl_inj (by rw [a5, b5]))
    all_goals omega
  · rcases ht with ht | ht | ht | ht | ht | ht
    · omega
    · omega
    · obtain ⟨k, a1, a2, a3, a4, _⟩ := hs
      obtain ⟨k', b1, b2, b3, b4, _⟩ := ht
      rw [tokL_2 k, tokL_2 k'] at h
      simp only [List.cons.injEq, true_and] at h
      obtain ⟨e1, e2⟩ := List.append_inj' h (by simp [oneL])
      exact Tok.ext' hk (by omega) (by omega) (by rw [a3, b3]) (bl_inj e1) (oneL_inj f0 f1 f0' f1' e2) (bl_inj (by rw [a4, b4]))
    all_goals omega
  · rcases ht with ht | ht | ht | ht | ht | ht
    · omega
    · omega
    · omega
    · obtain ⟨k, a1, a2, a3⟩ := hs
      obtain ⟨k', b1, b2, b3⟩ := ht
      rw [tokL_3 k, tokL_3 k'] at h
      simp only [List.cons.injEq, true_and] at h
      obtain ⟨e1, e2, e3, e4, _⟩ := head_inj (x := []) (y := []) a3 b3 (by simpa using h)
      exact Tok.ext' hk (by omega) e1 e2 e3 e4 (bl_inj (by rw [a2, b2]))
    all_goals omega
  · rcases ht with ht | ht | ht | ht | ht | ht
    · omega
    · omega
    · omega
    · omega
    · obtain ⟨k, a1, a2, a3, a4, a5, _⟩ := hs
      obtain ⟨k', b1, b2, b3, b4, b5, _⟩ := ht
      rw [tokL_4 k, tokL_4 k'] at h
      simp only [List.cons.injEq, true_and] at h
      obtain ⟨e1, _⟩ := List.append_inj' h (by simp)
      exact Tok.ext' hk (by omega) (by omega) (by rw [a3, b3]) (bl_inj (by rw [a4, b4])) (by omega) (bl_inj e1)
    · omega
  · rcases ht with ht | ht | ht | ht | ht | ht
    · omega
    · omega
    · omega
    · omega
    · omega
    · obtain ⟨k, a1, a3, _⟩ := hs
      obtain ⟨k', b1, b3, _⟩ := ht
      rw [tokL_5 k, tokL_5 k'] at h
      simp only [List.cons.injEq, true_and] at h
      obtain ⟨h, _⟩ := List.append_inj' h (by simp)
      obtain ⟨e1, e2, e3, e4, e5⟩ := head_inj a3 b3 h
      exact Tok.ext' hk (by omega) e1 e2 e3 e4 (bl_inj e5)
end Go.Proofs.YtclaopidjfekmaaDoor.Lab
