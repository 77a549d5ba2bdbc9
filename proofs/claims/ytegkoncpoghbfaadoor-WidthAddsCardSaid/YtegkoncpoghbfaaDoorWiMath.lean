/- Plain mathematics of texts and their columns: decoding rune by rune, over lists of bytes. -/
import Derived.Test.YtegkoncpoghbfaaDoorWiTab
import Derived.Lib.MapLaws
import Derived.Laws.Cover4
namespace Go.Proofs.YtegkoncpoghbfaaDoor.Lab
open Go.RowKit Go.Lib

/-- The columns of a text, rune by rune. -/
def cntL : Nat → List UInt8 → Int
  | 0, _ => 0
  | f + 1, l => if l = [] then 0 else colI (decodeL l).1 + cntL f (l.drop (decodeL l).2)
def txt (l : List UInt8) : Int := cntL l.length l

theorem dec_ge (l : List UInt8) : 1 ≤ (decodeL l).2 := decodeL_width l
theorem dec_le (l : List UInt8) (h : l ≠ []) : (decodeL l).2 ≤ l.length := decodeL_le l h

theorem cntL_fuel : ∀ (f g : Nat) (l : List UInt8), l.length ≤ f → l.length ≤ g → cntL f l = cntL g l
  | 0, 0, _, _, _ => rfl
  | 0, g + 1, l, h, _ => by
    have : l = [] := List.eq_nil_of_length_eq_zero (by omega)
    subst this; rfl
  | f + 1, 0, l, _, h => by
    have : l = [] := List.eq_nil_of_length_eq_zero (by omega)
    subst this; rfl
  | f + 1, g + 1, l, h1, h2 => by
    unfold cntL
    by_cases hn : l = []
    · rw [if_pos hn, if_pos hn]
    · have := dec_ge l
      have hl : 0 < l.length := List.length_pos_iff.2 hn
      rw [if_neg hn, if_neg hn, cntL_fuel f g _ (by rw [List.length_drop]; omega) (by rw [List.length_drop]; omega)]

theorem txt_nil : txt [] = 0 := rfl
theorem txt_step {l : List UInt8} (h : l ≠ []) : txt l = colI (decodeL l).1 + txt (l.drop (decodeL l).2) := by
  have hl : 0 < l.length := List.length_pos_iff.2 h
  have h1 := dec_ge l
  obtain ⟨n, hn⟩ : ∃ n, l.length = n + 1 := ⟨l.length - 1, by omega⟩
  unfold txt
  rw [hn, cntL, if_neg h, cntL_fuel n (l.drop (decodeL l).2).length _ (by rw [List.length_drop]; omega) (Nat.le_refl _)]
theorem cntL_bd : ∀ (f : Nat) (l : List UInt8), 0 ≤ cntL f l ∧ cntL f l ≤ 2 * l.length
  | 0, l => by simp [cntL]; omega
  | f + 1, l => by
    unfold cntL
    by_cases hn : l = []
    · subst hn; simp
    · have h1 := cntL_bd f (l.drop (decodeL l).2)
      have h2 := colI_bd (decodeL l).1
      have h3 := dec_ge l
      have h4 := dec_le l hn
      rw [if_neg hn]
      rw [List.length_drop] at h1
      omega
theorem txt_bd (l : List UInt8) : 0 ≤ txt l ∧ txt l ≤ 2 * l.length := cntL_bd _ _

/-- What fits into so many columns: how many bytes, and how many columns these take. -/
def fitG : Nat → Int → List UInt8 → Nat × Int
  | 0, _, _ => (0, 0)
  | f + 1, c, l => if l = [] then (0, 0) else if c < colI (decodeL l).1 then (0, 0) else
      ((decodeL l).2 + (fitG f (c - colI (decodeL l).1) (l.drop (decodeL l).2)).1, colI (decodeL l).1 + (fitG f (c - colI (decodeL l).1) (l.drop (decodeL l).2)).2)
def fitL (c : Int) (l : List UInt8) : Nat × Int := fitG l.length c l

theorem fitG_fuel : ∀ (f g : Nat) (c : Int) (l : List UInt8), l.length ≤ f → l.length ≤ g → fitG f c l = fitG g c l
  | 0, 0, _, _, _, _ => rfl
  | 0, g + 1, c, l, h, _ => by
    have : l = [] := List.eq_nil_of_length_eq_zero (by omega)
    subst this; rfl
  | f + 1, 0, c, l, _, h => by
    have : l = [] := List.eq_nil_of_length_eq_zero (by omega)
    subst this; rfl
  | f + 1, g + 1, c, l, h1, h2 => by
    unfold fitG
    by_cases hn : l = []
    · rw [if_pos hn, if_pos hn]
    · have := dec_ge l
      have hl : 0 < l.length := List.length_pos_iff.2 hn
      rw [if_neg hn, if_neg hn, fitG_fuel f g _ _ (by rw [List.length_drop]; omega) (by rw [List.length_drop]; omega)]
theorem fit_nil (c : Int) : fitL c [] = (0, 0) := rfl
theorem fit_no {c : Int} {l : List UInt8} (h : l ≠ []) (hc : c < colI (decodeL l).1) : fitL c l = (0, 0) := by
  have hl : 0 < l.length := List.length_pos_iff.2 h
  obtain ⟨n, hn⟩ : ∃ n, l.length = n + 1 := ⟨l.length - 1, by omega⟩
  unfold fitL
  rw [hn, fitG, if_neg h, if_pos hc]
theorem fit_step {c : Int} {l : List UInt8} (h : l ≠ []) (hc : ¬ c < colI (decodeL l).1) :
    fitL c l = ((decodeL l).2 + (fitL (c - colI (decodeL l).1) (l.drop (decodeL l).2)).1, colI (decodeL l).1 + (fitL (c - colI (decodeL l).1) (l.drop (decodeL l).2)).2) := by
  have hl : 0 < l.length := List.length_pos_iff.2 h
  have h1 := dec_ge l
  obtain ⟨n, hn⟩ : ∃ n, l.length = n + 1 := ⟨l.length - 1, by omega⟩
  unfold fitL
  rw [hn, fitG, if_neg h, if_neg hc, fitG_fuel n (l.drop (decodeL l).2).length _ _ (by rw [List.length_drop]; omega) (Nat.le_refl _)]

/-- Induction over a text, rune by rune. -/
theorem text_ind {P : List UInt8 → Prop} (h0 : P []) (h1 : ∀ l, l ≠ [] → P (l.drop (decodeL l).2) → P l) : ∀ l, P l := by
  intro l
  obtain ⟨n, hn⟩ : ∃ n, l.length ≤ n := ⟨_, Nat.le_refl _⟩
  induction n generalizing l with
  | zero =>
    have : l = [] := List.eq_nil_of_length_eq_zero (by omega)
    subst this; exact h0
  | succ n ih =>
    by_cases he : l = []
    · subst he; exact h0
    · have := dec_ge l
      have hl : 0 < l.length := List.length_pos_iff.2 he
      exact h1 l he (ih _ (by rw [List.length_drop]; omega))

set_option maxRecDepth 100000 in
set_option maxHeartbeats 4000000 in
theorem decodeN_cut (n m b0 b1 b2 b3 c1 c2 c3 : Nat) (h1 : 1 ≤ m) (hm : m ≤ n) (e1 : 1 < m → c1 = b1) (e2 : 2 < m → c2 = b2) (e3 : 3 < m → c3 = b3) (hw : (decodeN n b0 b1 b2 b3).2 ≤ m) :
    decodeN m b0 c1 c2 c3 = decodeN n b0 b1 b2 b3 := by
  revert hw
  by_cases g1 : 1 < m
  · have := e1 g1; subst this
    by_cases g2 : 2 < m
    · have := e2 g2; subst this
      by_cases g3 : 3 < m
      · have := e3 g3; subst this
        have x1 : 1 < n := by omega
        have x2 : 2 < n := by omega
        have x3 : 3 < n := by omega
        intro _
        simp only [decodeN, g1, g2, g3, x1, x2, x3, true_and]
      · have x1 : 1 < n := by omega
        have x2 : 2 < n := by omega
        obtain rfl : m = 3 := by omega
        simp only [decodeN, x1, x2, true_and]
        repeat' split
        all_goals first
          | (intro _; rfl)
          | (intro h; simp only at h; omega)
          | (intro _; exfalso; omega)
    · have x1 : 1 < n := by omega
      obtain rfl : m = 2 := by omega
      simp only [decodeN, x1, true_and]
      repeat' split
      all_goals first
        | (intro _; rfl)
        | (intro h; simp only at h; omega)
        | (intro _; exfalso; omega)
  · obtain rfl : m = 1 := by omega
    simp only [decodeN]
    repeat' split
    all_goals first
      | (intro _; rfl)
      | (intro h; simp only at h; omega)
      | (intro _; exfalso; omega)

theorem getD_take (l : List UInt8) (n k : Nat) (h : k < n) : (l.take n).getD k 0 = l.getD k 0 := by
  simp [List.getD, h]

/-- A beginning that has the first rune whole begins with the same rune. -/
theorem decodeL_take (l : List UInt8) (hn : l ≠ []) (n : Nat) (h : (decodeL l).2 ≤ n) : decodeL (l.take n) = decodeL l := by
  have h1 := dec_ge l
  have hl : 0 < l.length := List.length_pos_iff.2 hn
  rw [decodeL_N] at h ⊢
  rw [decodeL_N l]
  have h2 : 1 ≤ (decodeN l.length (l.getD 0 0).toNat (l.getD 1 0).toNat (l.getD 2 0).toNat (l.getD 3 0).toNat).2 := by rw [← decodeL_N]; exact h1
  rw [getD_take l n 0 (by omega)]
  have h3 : (decodeN l.length (l.getD 0 0).toNat (l.getD 1 0).toNat (l.getD 2 0).toNat (l.getD 3 0).toNat).2 ≤ l.length := by rw [← decodeL_N]; exact dec_le l hn
  refine decodeN_cut _ _ _ _ _ _ _ _ _ (by rw [List.length_take]; omega) (by rw [List.length_take]; omega) ?_ ?_ ?_ (by rw [List.length_take]; omega)
  all_goals intro hk; rw [List.length_take] at hk; rw [getD_take l n _ (by omega)]

/-! ### what fits -/
theorem fit_le (l : List UInt8) : ∀ c, (fitL c l).1 ≤ l.length := by
  induction l using text_ind with
  | h0 => intro c; simp [fit_nil]
  | h1 l hn ih =>
    intro c
    by_cases hc : c < colI (decodeL l).1
    · rw [fit_no hn hc]; simp
    · rw [fit_step hn hc]
      have := ih (c - colI (decodeL l).1)
      rw [List.length_drop] at this
      have := dec_le l hn
      simp only
      omega
theorem fit_bd (l : List UInt8) : ∀ c, 0 ≤ (fitL c l).2 ∧ (0 ≤ c → (fitL c l).2 ≤ c) ∧ (fitL c l).2 ≤ txt l := by
  induction l using text_ind with
  | h0 => intro c; simp [fit_nil, txt_nil]
  | h1 l hn ih =>
    intro c
    have h2 := colI_bd (decodeL l).1
    have h4 := (txt_bd l).1
    by_cases hc : c < colI (decodeL l).1
    · rw [fit_no hn hc]
      exact ⟨Int.le_refl _, fun h => h, h4⟩
    · rw [fit_step hn hc, txt_step hn]
      have := ih (c - colI (decodeL l).1)
      simp only
      refine ⟨by omega, fun h => ?_, by omega⟩
      have := this.2.1 (by omega)
      omega
theorem fit_mono (l : List UInt8) : ∀ c d, c ≤ d → (fitL c l).1 ≤ (fitL d l).1 ∧ (fitL c l).2 ≤ (fitL d l).2 := by
  induction l using text_ind with
  | h0 => intro c d _; simp [fit_nil]
  | h1 l hn ih =>
    intro c d h
    have h2 := colI_bd (decodeL l).1
    by_cases hc : c < colI (decodeL l).1
    · rw [fit_no hn hc]
      exact ⟨Nat.zero_le _, (fit_bd l d).1⟩
    · rw [fit_step hn hc, fit_step hn (show ¬ d < colI (decodeL l).1 by omega)]
      have := ih (c - colI (decodeL l).1) (d - colI (decodeL l).1) (by omega)
      simp only
      omega
theorem fit_all (l : List UInt8) : ∀ c, txt l ≤ c → fitL c l = (l.length, txt l) := by
  induction l using text_ind with
  | h0 => intro c _; rfl
  | h1 l hn ih =>
    intro c h
    rw [txt_step hn] at h
    have h2 := (txt_bd (l.drop (decodeL l).2)).1
    have h3 := dec_le l hn
    rw [fit_step hn (by omega), ih _ (by omega), txt_step hn]
    refine Prod.ext ?_ rfl
    simp only [List.length_drop]
    omega
theorem fit_next (l : List UInt8) : ∀ c, (fitL c l).1 < l.length → c < (fitL c l).2 + colI (decodeL (l.drop (fitL c l).1)).1 := by
  induction l using text_ind with
  | h0 => intro c h; simp at h
  | h1 l hn ih =>
    intro c
    by_cases hc : c < colI (decodeL l).1
    · rw [fit_no hn hc]
      intro _
      simpa using hc
    · rw [fit_step hn hc]
      simp only
      intro h
      have := ih (c - colI (decodeL l).1) (by rw [List.length_drop]; omega)
      rw [List.drop_drop] at this
      omega
theorem fit_txt (l : List UInt8) : ∀ c, txt (l.take (fitL c l).1) = (fitL c l).2 := by
  induction l using text_ind with
  | h0 => intro c; rfl
  | h1 l hn ih =>
    intro c
    by_cases hc : c < colI (decodeL l).1
    · rw [fit_no hn hc]
      rw [List.take_zero]; rfl
    · rw [fit_step hn hc]
      simp only
      have h1 := dec_ge l
      have hl : 0 < l.length := List.length_pos_iff.2 hn
      have hne : l.take ((decodeL l).2 + (fitL (c - colI (decodeL l).1) (l.drop (decodeL l).2)).1) ≠ [] := by
        intro h
        have h7 := congrArg List.length h
        rw [List.length_take] at h7
        have h8 : ([] : List UInt8).length = 0 := rfl
        rw [h8] at h7
        omega
      have hd := decodeL_take l hn ((decodeL l).2 + (fitL (c - colI (decodeL l).1) (l.drop (decodeL l).2)).1) (by omega)
      rw [txt_step hne, hd, List.drop_take, Nat.add_sub_cancel_left, ih]

/-! ### what is encoded -/
set_option maxRecDepth 100000 in
set_option maxHeartbeats 4000000 in
theorem enc_list (r : Int) (hv : Utf8.valid r = true) : ∃ k b0 b1 b2 b3 : Nat, (∀ t, ((Utf8.encode r).data.toList ++ t).length = k + t.length) ∧ (Utf8.encode r).data.toList.length = k ∧ 1 ≤ k ∧
    (∀ t, (((Utf8.encode r).data.toList ++ t).getD 0 0).toNat = b0) ∧ (∀ t, 1 < k → (((Utf8.encode r).data.toList ++ t).getD 1 0).toNat = b1) ∧ (∀ t, 2 < k → (((Utf8.encode r).data.toList ++ t).getD 2 0).toNat = b2) ∧
    (∀ t, 3 < k → (((Utf8.encode r).data.toList ++ t).getD 3 0).toNat = b3) ∧ (∀ n c1 c2 c3, k ≤ n → (1 < k → c1 = b1) → (2 < k → c2 = b2) → (3 < k → c3 = b3) → decodeN n b0 c1 c2 c3 = (r.toNat, k)) := by
  have hr : (0 ≤ r ∧ r < 55296) ∨ (57344 ≤ r ∧ r ≤ 1114111) := by
    have := hv
    simp only [Utf8.valid, Bool.or_eq_true, Bool.and_eq_true, decide_eq_true_eq] at this
    omega
  obtain ⟨c, rfl⟩ := Int.eq_ofNat_of_zero_le (show 0 ≤ r by omega)
  unfold Utf8.encode
  simp only [hv, if_true, Int.toNat_natCast]
  split
  · refine ⟨1, c, 0, 0, 0, ?_, rfl, by omega, ?_, fun _ h => by omega, fun _ h => by omega, fun _ h => by omega, ?_⟩
    · intro t; simp; omega
    · intro t; simp; omega
    · intro n c1 c2 c3 hn _ _ _
      simp only [decodeN]
      rw [if_pos (by omega)]
  · split
    · refine ⟨2, 192 + c / 64, 128 + c % 64, 0, 0, ?_, rfl, by omega, ?_, ?_, fun _ h => by omega, fun _ h => by omega, ?_⟩
      · intro t; simp; omega
      · intro t; simp; omega
      · intro t _; simp; omega
      · intro n c1 c2 c3 hn h1 _ _
        have := h1 (by omega); subst this
        simp only [decodeN]
        rw [if_neg (by omega), if_pos (by omega), if_pos (by omega)]
        exact Prod.ext (by show _ = ((c : Nat) : Int).toNat; rw [Int.toNat_natCast]; simp only; omega) rfl
    · split
      · refine ⟨3, 224 + c / 4096, 128 + c / 64 % 64, 128 + c % 64, 0, ?_, rfl, by omega, ?_, ?_, ?_, fun _ h => by omega, ?_⟩
        · intro t; simp; omega
        · intro t; simp; omega
        · intro t _; simp; omega
        · intro t _; simp; omega
        · intro n c1 c2 c3 hn h1 h2 _
          have := h1 (by omega); subst this
          have := h2 (by omega); subst this
          have e : (224 + c / 4096) % 16 * 4096 + (128 + c / 64 % 64) % 64 * 64 + (128 + c % 64) % 64 = c := by omega
          simp only [decodeN, e]
          rw [if_neg (by omega), if_neg (by omega), if_pos (by omega), if_pos (by omega)]
      · refine ⟨4, 240 + c / 262144, 128 + c / 4096 % 64, 128 + c / 64 % 64, 128 + c % 64, ?_, rfl, by omega, ?_, ?_, ?_, ?_, ?_⟩
        · intro t; simp; omega
        · intro t; simp; omega
        · intro t _; simp; omega
        · intro t _; simp; omega
        · intro t _; simp; omega
        · intro n c1 c2 c3 hn h1 h2 h3
          have := h1 (by omega); subst this
          have := h2 (by omega); subst this
          have := h3 (by omega); subst this
          have e : (240 + c / 262144) % 8 * 262144 + (128 + c / 4096 % 64) % 64 * 4096 + (128 + c / 64 % 64) % 64 * 64 + (128 + c % 64) % 64 = c := by omega
          simp only [decodeN, e]
          rw [if_neg (by omega), if_neg (by omega), if_neg (by omega), if_pos (by omega), if_pos (by omega)]

theorem decode_enc (r : Int) (hv : Utf8.valid r = true) (t : List UInt8) : decodeL ((Utf8.encode r).data.toList ++ t) = (r.toNat, (Utf8.encode r).data.toList.length) := by
  obtain ⟨k, b0, b1, b2, b3, hl, hk, k1, g0, g1, g2, g3, hd⟩ := enc_list r hv
  rw [decodeL_N, g0 t, hl t, hk]
  exact hd _ _ _ _ (by omega) (g1 t) (g2 t) (g3 t)

theorem valid_nonneg {r : Int} (hv : Utf8.valid r = true) : (r.toNat : Int) = r := by
  simp only [Utf8.valid, Bool.or_eq_true, Bool.and_eq_true, decide_eq_true_eq] at hv
  omega
theorem enc_ne {r : Int} (hv : Utf8.valid r = true) (t : List UInt8) : (Utf8.encode r).data.toList ++ t ≠ [] := by
  obtain ⟨k, b0, b1, b2, b3, hl, hk, k1, _⟩ := enc_list r hv
  intro h
  have := congrArg List.length h
  rw [hl t] at this
  simp at this
  omega

theorem txt_enc (r : Int) (hv : Utf8.valid r = true) (t : List UInt8) : txt ((Utf8.encode r).data.toList ++ t) = colI r + txt t := by
  rw [txt_step (enc_ne hv t), decode_enc r hv t]
  simp only [valid_nonneg hv, List.drop_left]

/-- The bytes of runes, one behind the other. -/
def encL (ns : List Int) : List UInt8 := ns.flatMap fun n => (Utf8.encode n).data.toList
def sumC : List Int → Int
  | [] => 0
  | n :: ns => colI n + sumC ns

theorem foldl_enc : ∀ (ns : List Int) (s : ByteArray), (ns.foldl (fun r n => r ++ Utf8.encode n) s).data.toList = s.data.toList ++ encL ns
  | [], s => by simp [encL]
  | n :: ns, s => by
    rw [List.foldl_cons, foldl_enc ns]
    simp [encL, ByteArray.data_append]
theorem runes_list (ns : List Int) : (runesBytes ns).data.toList = encL ns := by
  unfold runesBytes
  rw [foldl_enc]
  rfl
theorem encL_app (a b : List Int) : encL (a ++ b) = encL a ++ encL b := by simp [encL]
theorem txt_runes : ∀ (ns : List Int), (∀ n ∈ ns, Utf8.valid n = true) → ∀ t, txt (encL ns ++ t) = sumC ns + txt t
  | [], _, t => by simp [encL, sumC]
  | n :: ns, h, t => by
    have e : encL (n :: ns) ++ t = (Utf8.encode n).data.toList ++ (encL ns ++ t) := by simp [encL]
    rw [e, txt_enc n (h n (by simp)), txt_runes ns (fun m hm => h m (by simp [hm]))]
    simp [sumC]; omega

/-- A rune that is shown has bytes of its own. -/
theorem shown_valid {r : Int} (hr : -2147483648 ≤ r ∧ r ≤ 2147483647) (h : 0 ≤ ofI r) : Utf8.valid r = true := by
  unfold ofI at h
  have hn : inB unshownT r = false := by
    cases hb : inB unshownT r with
    | false => rfl
    | true => rw [if_pos hb] at h; omega
  simp [inB, unshownT] at hn
  simp only [Utf8.valid, Bool.or_eq_true, Bool.and_eq_true, decide_eq_true_eq]
  omega
end Go.Proofs.YtegkoncpoghbfaaDoor.Lab
