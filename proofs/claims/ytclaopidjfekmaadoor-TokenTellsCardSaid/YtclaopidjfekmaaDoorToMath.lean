/- Tokens and their bytes: plain mathematics. What parameters are written as is read as them. -/
import Derived.WalkKit
import Derived.Lib.ItoaLen
import Derived.Lib.ItoaMem
import Derived.Lib.MapLaws
import Derived.Laws.Cover4
namespace Go.Proofs.YtclaopidjfekmaaDoor.Lab
open Go.RowKit Go.Lib

abbrev Rws := List (List Int)

/-! ### numbers, rows, rows of rows as bytes -/
def joinT {α : Type} (sep : UInt8) (f : α → List UInt8) : List α → List UInt8
  | [] => []
  | x :: t => f x ++ t.flatMap fun y => sep :: f y
theorem joinT_snoc {α : Type} (sep : UInt8) (f : α → List UInt8) (l : List α) (x : α) : joinT sep f (l ++ [x]) = joinT sep f l ++ (if l.length = 0 then [] else [sep]) ++ f x := by
  cases l with
  | nil => simp [joinT]
  | cons y t => simp [joinT, List.flatMap_append]
def numT (x : Int) : List UInt8 := if x < 0 then [] else Lib.itoa x
def rowT (r : List Int) : List UInt8 := joinT 58 numT r
def allT (R : Rws) : List UInt8 := joinT 59 rowT R

/-! ### the reader -/
structure FS where
  D : Rws
  r : List Int
  x : Int
def FS.rows (f : FS) : Rws := f.D ++ [f.r ++ [f.x]]
def digM (x : Int) (c : Nat) : Int := min (10 * max x 0 + ((c : Int) - 48)) 65535
def FS.byte (f : FS) (c : UInt8) : FS := if c.toNat = 59 then ⟨f.D ++ [f.r ++ [f.x]], [], -1⟩ else if c.toNat = 58 then ⟨f.D, f.r ++ [f.x], -1⟩ else ⟨f.D, f.r, digM f.x c.toNat⟩
def runF (f : FS) (l : List UInt8) : FS := l.foldl FS.byte f
def FR (x : Int) (l : List UInt8) : Rws := (runF ⟨[], [], x⟩ l).rows
theorem FR_nil (x : Int) : FR x [] = [[x]] := rfl
theorem FR_ne (x : Int) (l : List UInt8) : FR x l ≠ [] := by simp [FR, FS.rows]
theorem runF_rows : ∀ (l : List UInt8) (D : Rws) (r : List Int) (x : Int), (runF ⟨D, r, x⟩ l).rows = D ++ (r ++ (FR x l).headD []) :: (FR x l).tail
  | [], D, r, x => by simp [runF, FR, FS.rows]
  | c :: l, D, r, x => by
    by_cases h59 : c.toNat = 59
    · have e : ∀ D r, runF ⟨D, r, x⟩ (c :: l) = runF ⟨D ++ [r ++ [x]], [], -1⟩ l := fun D r => by simp [runF, FS.byte, h59]
      have eF : FR x (c :: l) = [x] :: FR (-1) l := by
        show (runF ⟨[], [], x⟩ (c :: l)).rows = _
        rw [e, runF_rows l]
        obtain ⟨a, t, ht⟩ := List.exists_cons_of_ne_nil (FR_ne (-1) l)
        simp [ht]
      rw [e, runF_rows l, eF]
      obtain ⟨a, t, ht⟩ := List.exists_cons_of_ne_nil (FR_ne (-1) l)
      simp [ht]
    · by_cases h58 : c.toNat = 58
      · have e : ∀ D r, runF ⟨D, r, x⟩ (c :: l) = runF ⟨D, r ++ [x], -1⟩ l := fun D r => by simp [runF, FS.byte, h58]
        have eF : FR x (c :: l) = ([x] ++ (FR (-1) l).headD []) :: (FR (-1) l).tail := by
          show (runF ⟨[], [], x⟩ (c :: l)).rows = _
          rw [e, runF_rows l]
          rfl
        rw [e, runF_rows l, eF]
        simp
      · have e : ∀ D r, runF ⟨D, r, x⟩ (c :: l) = runF ⟨D, r, digM x c.toNat⟩ l := fun D r => by simp [runF, FS.byte, h59, h58]
        have eF : FR x (c :: l) = FR (digM x c.toNat) l := by
          show (runF ⟨[], [], x⟩ (c :: l)).rows = _
          rw [e]
          rfl
        rw [e, runF_rows l, eF]
theorem runF_append (f : FS) (a b : List UInt8) : runF f (a ++ b) = runF (runF f a) b := by simp [runF]
theorem FR_semi (x : Int) (a b : List UInt8) : FR x (a ++ 59 :: b) = FR x a ++ FR (-1) b := by
  show (runF ⟨[], [], x⟩ (a ++ 59 :: b)).rows = (runF ⟨[], [], x⟩ a).rows ++ FR (-1) b
  rw [runF_append]
  generalize runF ⟨[], [], x⟩ a = f
  have e : runF f (59 :: b) = runF ⟨f.D ++ [f.r ++ [f.x]], [], -1⟩ b := by simp [runF, FS.byte]
  rw [e, runF_rows]
  obtain ⟨h, t, ht⟩ := List.exists_cons_of_ne_nil (FR_ne (-1) b)
  simp [ht, FS.rows]
theorem dig_char (d : Nat) (h : d < 10) : (UInt8.ofNat (48 + d)).toNat = 48 + d := by
  rw [UInt8.toNat_ofNat']
  omega
theorem runF_one (D : Rws) (r : List Int) (x : Int) (d : Nat) (hd : d < 10) : runF ⟨D, r, x⟩ [UInt8.ofNat (48 + d)] = ⟨D, r, digM x (48 + d)⟩ := by
  show FS.byte ⟨D, r, x⟩ (UInt8.ofNat (48 + d)) = _
  unfold FS.byte
  rw [dig_char d hd, if_neg (by omega), if_neg (by omega)]
theorem dec_run (D : Rws) (r : List Int) (u : Nat) : u ≤ 65535 → runF ⟨D, r, -1⟩ (Lib.decDigits u) = ⟨D, r, (u : Int)⟩ := by
  induction u using Nat.strongRecOn with
  | _ u ih =>
    intro h
    by_cases h10 : u < 10
    · rw [Lib.decDigits, dif_pos h10, runF_one _ _ _ _ h10]
      congr 1
      unfold digM
      omega
    · rw [Lib.decDigits, dif_neg h10, runF_append, ih (u / 10) (by omega) (by omega), runF_one _ _ _ _ (by omega)]
      congr 1
      unfold digM
      omega
theorem num_run (D : Rws) (r : List Int) (x : Int) (h0 : -1 ≤ x) (h1 : x ≤ 65535) : runF ⟨D, r, -1⟩ (numT x) = ⟨D, r, x⟩ := by
  unfold numT
  by_cases h : x < 0
  · rw [if_pos h, show x = -1 by omega]
    rfl
  · obtain ⟨u, rfl⟩ : ∃ u : Nat, x = u := ⟨x.toNat, by omega⟩
    rw [if_neg h, Lib.itoa_nonneg]
    exact dec_run D r u (by omega)
theorem runF_nums (D : Rws) : ∀ (t q : List Int) (x : Int), (∀ y ∈ t, -1 ≤ y ∧ y ≤ 65535) → (runF ⟨D, q, x⟩ (t.flatMap fun y => 58 :: numT y)).rows = D ++ [q ++ x :: t]
  | [], q, x, _ => rfl
  | y :: t, q, x, h => by
    have hy := h y (by simp)
    have e : runF ⟨D, q, x⟩ ((y :: t).flatMap fun y => 58 :: numT y) = runF (runF ⟨D, q ++ [x], -1⟩ (numT y)) (t.flatMap fun y => 58 :: numT y) := by
      rw [List.flatMap_cons, runF_append]
      congr 1
    rw [e, num_run D (q ++ [x]) y hy.1 hy.2, runF_nums D t (q ++ [x]) y (fun z hz => h z (by simp [hz]))]
    simp
/-- A parameter that may be. -/
def okRow (r : List Int) : Prop := 1 ≤ r.length ∧ r.length ≤ 8 ∧ ∀ x ∈ r, -1 ≤ x ∧ x ≤ 65535
theorem FR_row {r : List Int} (h : okRow r) : FR (-1) (rowT r) = [r] := by
  obtain ⟨h1, _, h3⟩ := h
  cases r with
  | nil => simp at h1
  | cons x t =>
    have hx := h3 x (by simp)
    show (runF ⟨[], [], -1⟩ (numT x ++ t.flatMap fun y => 58 :: numT y)).rows = _
    rw [runF_append, num_run [] [] x hx.1 hx.2, runF_nums [] t [] x (fun z hz => h3 z (by simp [hz]))]
    rfl
theorem FR_rest : ∀ (R : Rws) (a : List UInt8), (∀ r ∈ R, okRow r) → FR (-1) (a ++ R.flatMap fun r => 59 :: rowT r) = FR (-1) a ++ R
  | [], a, _ => by simp
  | r :: R, a, h => by
    have e : a ++ ((r :: R).flatMap fun r => 59 :: rowT r) = a ++ 59 :: (rowT r ++ R.flatMap fun r => 59 :: rowT r) := by simp
    rw [e, FR_semi, FR_rest R (rowT r) (fun z hz => h z (by simp [hz])), FR_row (h r (by simp))]
    simp
theorem FR_all {R : Rws} (hne : R ≠ []) (h : ∀ r ∈ R, okRow r) : FR (-1) (allT R) = R := by
  cases R with
  | nil => exact absurd rfl hne
  | cons r R =>
    show FR (-1) (rowT r ++ R.flatMap fun r => 59 :: rowT r) = _
    rw [FR_rest R _ (fun z hz => h z (by simp [hz])), FR_row (h r (by simp))]
    rfl
/-- Parameters that may be, but one of one number -1, are known by their bytes. -/
theorem allT_inj {R S : Rws} (hR : ∀ r ∈ R, okRow r) (hS : ∀ r ∈ S, okRow r) (r1 : R ≠ [[-1]]) (s1 : S ≠ [[-1]]) (h : allT R = allT S) : R = S := by
  have key : ∀ {R : Rws}, (∀ r ∈ R, okRow r) → R ≠ [[-1]] → R = if allT R = [] then [] else FR (-1) (allT R) := by
    intro R hR r1
    by_cases hne : R = []
    · subst hne
      rfl
    · have e := FR_all hne hR
      by_cases ht : allT R = []
      · rw [ht, FR_nil] at e
        exact absurd e.symm r1
      · rw [if_neg ht, e]
  rw [key hR r1, key hS s1, h]

/-! ### which bytes these are -/
theorem dec_mem (u : Nat) : ∀ c ∈ Lib.decDigits u, 48 ≤ c.toNat ∧ c.toNat ≤ 57 := by
  induction u using Nat.strongRecOn with
  | _ u ih =>
    intro c hc
    by_cases h10 : u < 10
    · rw [Lib.decDigits, dif_pos h10] at hc
      rw [List.mem_singleton.1 hc, dig_char u h10]
      omega
    · rw [Lib.decDigits, dif_neg h10] at hc
      rcases List.mem_append.1 hc with hc | hc
      · exact ih (u / 10) (by omega) c hc
      · rw [List.mem_singleton.1 hc, dig_char _ (by omega)]
        omega
theorem num_mem (x : Int) : ∀ c ∈ numT x, 48 ≤ c.toNat ∧ c.toNat ≤ 57 := by
  unfold numT
  by_cases h : x < 0
  · simp [h]
  · obtain ⟨u, rfl⟩ : ∃ u : Nat, x = u := ⟨x.toNat, by omega⟩
    rw [if_neg h, Lib.itoa_nonneg]
    exact dec_mem u
theorem row_mem (r : List Int) : ∀ c ∈ rowT r, 48 ≤ c.toNat ∧ c.toNat ≤ 58 := by
  intro c hc
  cases r with
  | nil => simp [rowT, joinT] at hc
  | cons x t =>
    rcases List.mem_append.1 hc with hc | hc
    · have := num_mem x c hc
      omega
    · obtain ⟨y, _, hy⟩ := List.mem_flatMap.1 hc
      rcases List.mem_cons.1 hy with rfl | hy
      · decide
      · have := num_mem y c hy
        omega
theorem all_mem (R : Rws) : ∀ c ∈ allT R, 48 ≤ c.toNat ∧ c.toNat ≤ 59 := by
  intro c hc
  cases R with
  | nil => simp [allT, joinT] at hc
  | cons x t =>
    rcases List.mem_append.1 hc with hc | hc
    · have := row_mem x c hc
      omega
    · obtain ⟨y, _, hy⟩ := List.mem_flatMap.1 hc
      rcases List.mem_cons.1 hy with rfl | hy
      · decide
      · have := row_mem y c hy
        omega

/-! ### tokens -/
structure Tok where
  kind : Int
  rune : Int
  priv : Int
  P : Rws
  inter : ByteArray
  fin : Int
  data : ByteArray

abbrev bl (s : ByteArray) : List UInt8 := s.data.toList
def oneL (c : Int) : List UInt8 := [UInt8.ofNat c.toNat]
/-- A head's bytes. -/
def headL (t : Tok) : List UInt8 := (if t.priv = 0 then [] else oneL t.priv) ++ allT t.P ++ bl t.inter ++ oneL t.fin
def encR (r : Int) : List UInt8 := bl (Utf8.encode r)
/-- A token's bytes. -/
def tokL (t : Tok) : List UInt8 :=
  if t.kind = 0 then encR t.rune
  else if t.kind = 1 then oneL t.fin
  else if t.kind = 2 then 27 :: (bl t.inter ++ oneL t.fin)
  else if t.kind = 3 then 27 :: 91 :: headL t
  else if t.kind = 4 then 27 :: 93 :: (bl t.data ++ [7])
  else 27 :: 80 :: (headL t ++ bl t.data ++ [27, 92])

def prnOk (r : Int) : Prop := Utf8.valid r = true ∧ 32 ≤ r ∧ ¬ (127 ≤ r ∧ r ≤ 159)
def ctlOk (c : Int) : Prop := c < 32 ∧ c ≠ 24 ∧ c ≠ 26 ∧ c ≠ 27
def intOk (s : ByteArray) : Prop := s.size ≤ 2 ∧ ∀ c ∈ bl s, 32 ≤ c.toNat ∧ c.toNat ≤ 47
def datOk (s : ByteArray) : Prop := s.size ≤ 1024 ∧ ∀ c ∈ bl s, 32 ≤ c.toNat ∧ c.toNat ≠ 127
def parOk (R : Rws) : Prop := R.length ≤ 32 ∧ (∀ r ∈ R, okRow r) ∧ R ≠ [[-1]]
def opener (c : Int) : Prop := c = 80 ∨ c = 88 ∨ c = 91 ∨ c = 93 ∨ c = 94 ∨ c = 95
def hdOk (t : Tok) : Prop := (t.priv = 0 ∨ 60 ≤ t.priv ∧ t.priv ≤ 63) ∧ parOk t.P ∧ intOk t.inter ∧ 64 ≤ t.fin ∧ t.fin ≤ 126
/-- A token is right. -/
def Right (t : Tok) : Prop :=
  (t.kind = 0 ∧ t.priv = 0 ∧ t.P = [] ∧ bl t.inter = [] ∧ t.fin = 0 ∧ bl t.data = [] ∧ prnOk t.rune) ∨
  (t.kind = 1 ∧ t.rune = 0 ∧ t.priv = 0 ∧ t.P = [] ∧ bl t.inter = [] ∧ bl t.data = [] ∧ ctlOk t.fin) ∨
  (t.kind = 2 ∧ t.rune = 0 ∧ t.priv = 0 ∧ t.P = [] ∧ bl t.data = [] ∧ intOk t.inter ∧ 48 ≤ t.fin ∧ t.fin ≤ 126 ∧ (bl t.inter = [] → ¬ opener t.fin)) ∨
  (t.kind = 3 ∧ t.rune = 0 ∧ bl t.data = [] ∧ hdOk t) ∨
  (t.kind = 4 ∧ t.rune = 0 ∧ t.priv = 0 ∧ t.P = [] ∧ bl t.inter = [] ∧ t.fin = 0 ∧ datOk t.data) ∨
  (t.kind = 5 ∧ t.rune = 0 ∧ hdOk t ∧ datOk t.data)
/-- What a token of Go's holds: its bytes are bytes. -/
def Tok.wf (t : Tok) : Prop := 0 ≤ t.priv ∧ t.priv ≤ 255 ∧ 0 ≤ t.fin ∧ t.fin ≤ 255

theorem bl_inj {s t : ByteArray} (h : bl s = bl t) : s = t := by
  cases s; cases t
  simp [bl] at h
  rw [h]
theorem oneL_nat {c : Int} (h0 : 0 ≤ c) (h1 : c ≤ 255) : ∃ u : UInt8, oneL c = [u] ∧ (u.toNat : Int) = c := by
  refine ⟨_, rfl, ?_⟩
  rw [UInt8.toNat_ofNat']
  omega
theorem oneL_inj {c d : Int} (h0 : 0 ≤ c) (h1 : c ≤ 255) (g0 : 0 ≤ d) (g1 : d ≤ 255) (h : oneL c = oneL d) : c = d := by
  obtain ⟨u, e, hu⟩ := oneL_nat h0 h1
  obtain ⟨v, f, hv⟩ := oneL_nat g0 g1
  rw [e, f] at h
  simp at h
  subst h
  omega
/-- Two rows of bytes, of one kind, and what comes behind them is of none. -/
theorem span_inj {p : UInt8 → Prop} : ∀ {a b : List UInt8} {x y : List UInt8}, (∀ c ∈ a, p c) → (∀ c ∈ b, p c) → (∀ c, x.head? = some c → ¬ p c) → (∀ c, y.head? = some c → ¬ p c) → a ++ x = b ++ y → a = b ∧ x = y
  | [], [], x, y, _, _, _, _, h => ⟨rfl, h⟩
  | [], c :: b, x, y, _, hb, hx, _, h => by
    simp at h
    exact absurd (hb c (by simp)) (hx c (by rw [h]; rfl))
  | c :: a, [], x, y, ha, _, _, hy, h => by
    simp at h
    exact absurd (ha c (by simp)) (hy c (by rw [← h]; rfl))
  | c :: a, d :: b, x, y, ha, hb, hx, hy, h => by
    simp only [List.cons_append, List.cons.injEq] at h
    obtain ⟨rfl, h⟩ := h
    obtain ⟨rfl, e⟩ := span_inj (fun c hc => ha c (by simp [hc])) (fun c hc => hb c (by simp [hc])) hx hy h
    exact ⟨rfl, e⟩
/-- Heads, and what is behind them. -/
theorem head_inj {s t : Tok} {x y : List UInt8} (hs : hdOk s) (ht : hdOk t) (h : headL s ++ x = headL t ++ y) : s.priv = t.priv ∧ s.P = t.P ∧ s.inter = t.inter ∧ s.fin = t.fin ∧ x = y := by
  obtain ⟨p1, ⟨_, q1, q2⟩, ⟨_, i1⟩, f1, f2⟩ := hs
  obtain ⟨p1', ⟨_, q1', q2'⟩, ⟨_, i1'⟩, f1', f2'⟩ := ht
  obtain ⟨u, eu, hu⟩ := oneL_nat (c := s.fin) (by omega) (by omega)
  obtain ⟨v, ev, hv⟩ := oneL_nat (c := t.fin) (by omega) (by omega)
  have hdI : ∀ {s : ByteArray} {u : UInt8} {x : List UInt8}, (∀ c ∈ bl s, 32 ≤ c.toNat ∧ c.toNat ≤ 47) → 64 ≤ u.toNat → ∀ c, (bl s ++ u :: x).head? = some c → ¬ (48 ≤ c.toNat ∧ c.toNat ≤ 59) := by
    intro s u x hi hu c hc
    cases hb : bl s with
    | nil => rw [hb] at hc; simp at hc; subst hc; omega
    | cons d l =>
      rw [hb] at hc
      simp at hc
      subst hc
      have := hi d (by rw [hb]; simp)
      omega
  have hdP : ∀ {R : Rws} {s : ByteArray} {u : UInt8} {x : List UInt8}, (∀ c ∈ bl s, 32 ≤ c.toNat ∧ c.toNat ≤ 47) → 64 ≤ u.toNat → ∀ c, (allT R ++ (bl s ++ u :: x)).head? = some c → ¬ (60 ≤ c.toNat ∧ c.toNat ≤ 63) := by
    intro R s u x hi hu c hc
    cases hb : allT R with
    | nil =>
      rw [hb, List.nil_append] at hc
      cases hb : bl s with
      | nil => rw [hb] at hc; simp at hc; subst hc; omega
      | cons d l =>
        rw [hb] at hc
        simp at hc
        subst hc
        have := hi d (by rw [hb]; simp)
        omega
    | cons d l =>
      rw [hb] at hc
      simp at hc
      subst hc
      have := all_mem R d (by rw [hb]; simp)
      omega
  have key : ∀ {p : Int}, p = 0 ∨ 60 ≤ p ∧ p ≤ 63 → ∀ c ∈ (if p = 0 then [] else oneL p : List UInt8), 60 ≤ c.toNat ∧ c.toNat ≤ 63 := by
    intro p hp c hc
    by_cases e : p = 0
    · simp [e] at hc
    · rw [if_neg e] at hc
      obtain ⟨u, eu, hu⟩ := oneL_nat (c := p) (by omega) (by omega)
      rw [eu] at hc
      simp at hc
      subst hc
      omega
  unfold headL at h
  rw [eu, ev] at h
  simp only [List.append_assoc, List.singleton_append] at h
  obtain ⟨e1, h⟩ := span_inj (p := fun c => 60 ≤ c.toNat ∧ c.toNat ≤ 63) (key p1) (key p1') (hdP i1 (by omega)) (hdP i1' (by omega)) h
  obtain ⟨e2, h⟩ := span_inj (p := fun c => 48 ≤ c.toNat ∧ c.toNat ≤ 59) (all_mem _) (all_mem _) (hdI i1 (by omega)) (hdI i1' (by omega)) h
  obtain ⟨e3, h⟩ := span_inj (p := fun c => 32 ≤ c.toNat ∧ c.toNat ≤ 47) i1 i1' (by intro c hc; simp at hc; subst hc; omega) (by intro c hc; simp at hc; subst hc; omega) h
  simp only [List.cons.injEq] at h
  obtain ⟨rfl, rfl⟩ := h
  refine ⟨?_, allT_inj q1 q1' q2 q2' e2, bl_inj e3, by omega, rfl⟩
  by_cases a : s.priv = 0
  · by_cases b : t.priv = 0
    · omega
    · rw [if_pos a, if_neg b] at e1
      simp [oneL] at e1
  · by_cases b : t.priv = 0
    · rw [if_neg a, if_pos b] at e1
      simp [oneL] at e1
    · rw [if_neg a, if_neg b] at e1
      exact oneL_inj (by omega) (by omega) (by omega) (by omega) e1
end Go.Proofs.YtclaopidjfekmaaDoor.Lab
