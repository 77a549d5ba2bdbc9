/- The parameters of bytes without any bound, and how those that are kept are cut out of them: plain mathematics. -/
import Derived.Test.YtlmhnebgkginkaaDoorAtFacts
import Derived.Lib.ItoaMem
namespace Go.Proofs.YtlmhnebgkginkaaDoor.Lab
open Go.RowKit

structure FS where
  D : Rws
  r : List Int
  x : Int
def FS.rows (f : FS) : Rws := f.D ++ [f.r ++ [f.x]]
def digM (x : Int) (c : Nat) : Int := min (10 * max x 0 + ((c : Int) - 48)) 65535
def FS.byte (f : FS) (c : UInt8) : FS := if c.toNat = 59 then ⟨f.D ++ [f.r ++ [f.x]], [], -1⟩ else if c.toNat = 58 then ⟨f.D, f.r ++ [f.x], -1⟩ else ⟨f.D, f.r, digM f.x c.toNat⟩
def runF (f : FS) (l : List UInt8) : FS := l.foldl FS.byte f
def FR (x : Int) (l : List UInt8) : Rws := (runF ⟨[], [], x⟩ l).rows
def cut (R : Rws) : Rws := (R.take 32).map (List.take 8)

inductive Rel (s : PS) (f : FS) : Prop
  | a (h1 : s.o = false) (h2 : f.D.length ≤ 31) (h3 : f.r.length ≤ 7) (h4 : s.D = f.D.map (List.take 8)) (h5 : s.r = f.r) (h6 : s.x = f.x)
  | b (h1 : s.o = true) (h2 : f.D.length ≤ 31) (h3 : 8 ≤ f.r.length) (h4 : s.D = f.D.map (List.take 8)) (h5 : s.r ++ [s.x] = f.r.take 8)
  | c (h1 : s.o = true) (h2 : 32 ≤ f.D.length) (h3 : s.D ++ [s.r ++ [s.x]] = (f.D.take 32).map (List.take 8))

theorem take_snoc_le {α : Type} (r : List α) (x : α) (n : Nat) (h : n ≤ r.length) : (r ++ [x]).take n = r.take n := List.take_append_of_le_length h

theorem Rel.rows {s : PS} {f : FS} (h : Rel s f) : s.rows = cut f.rows := by
  unfold PS.rows cut FS.rows
  cases h with
  | a h1 h2 h3 h4 h5 h6 =>
    rw [List.take_of_length_le (by simp; omega), List.map_append, h4, h5, h6]
    simp only [List.map_cons, List.map_nil]
    rw [List.take_of_length_le (by simp; omega)]
  | b h1 h2 h3 h4 h5 =>
    rw [List.take_of_length_le (by simp; omega), List.map_append, h4, h5]
    simp only [List.map_cons, List.map_nil]
    rw [take_snoc_le _ _ _ h3]
  | c h1 h2 h3 => rw [take_snoc_le _ _ _ h2, h3]

theorem Rel.byte {s : PS} {f : FS} (h : Rel s f) (c : UInt8) : Rel (s.byte c) (f.byte c) := by
  unfold PS.byte FS.byte
  split
  · unfold PS.nxt
    cases h with
    | a h1 h2 h3 h4 h5 h6 =>
      have e8 : (f.r ++ [f.x]).take 8 = f.r ++ [f.x] := List.take_of_length_le (by simp; omega)
      split
      · rename_i h32
        have hl : f.D.length = 31 := by rw [h4] at h32; simp at h32; omega
        exact .c rfl (by simp [hl]) (by rw [List.take_of_length_le (by simp [hl]), List.map_append, h4, h5, h6]; simp [e8])
      · rename_i h32
        have hl : f.D.length ≠ 31 := by rw [h4] at h32; simp at h32; omega
        exact .a rfl (by simp; omega) (by simp) (by rw [List.map_append, h4, h5, h6]; simp [e8]) rfl rfl
    | b h1 h2 h3 h4 h5 =>
      have e8 : (f.r ++ [f.x]).take 8 = f.r.take 8 := take_snoc_le _ _ _ h3
      split
      · rename_i h32
        have hl : f.D.length = 31 := by rw [h4] at h32; simp at h32; omega
        exact .c rfl (by simp [hl]) (by rw [List.take_of_length_le (by simp [hl]), List.map_append, h4, h5]; simp [e8])
      · rename_i h32
        have hl : f.D.length ≠ 31 := by rw [h4] at h32; simp at h32; omega
        exact .a rfl (by simp; omega) (by simp) (by rw [List.map_append, h4, h5]; simp [e8]) rfl rfl
    | c h1 h2 h3 =>
      have hl : s.D.length + 1 = 32 := by
        have := congrArg List.length h3
        simp at this
        omega
      rw [if_pos hl]
      exact .c rfl (by simp; omega) (by rw [take_snoc_le _ _ _ h2, h3])
  · split
    · unfold PS.sub
      cases h with
      | a h1 h2 h3 h4 h5 h6 =>
        rw [if_neg (by simp [h1])]
        split
        · rename_i h8
          exact .b rfl h2 (by rw [h5] at h8; simp; omega) h4 (by rw [h5, h6, List.take_of_length_le (by rw [h5] at h8; simp; omega)])
        · rename_i h8
          exact .a rfl h2 (by rw [h5] at h8; simp; omega) h4 (by rw [h5, h6]) rfl
      | b h1 h2 h3 h4 h5 =>
        rw [if_pos h1]
        exact .b h1 h2 (by simp; omega) h4 (by rw [h5, take_snoc_le _ _ _ h3])
      | c h1 h2 h3 =>
        rw [if_pos h1]
        exact .c h1 h2 h3
    · unfold PS.dig
      cases h with
      | a h1 h2 h3 h4 h5 h6 =>
        rw [if_neg (by simp [h1])]
        exact .a rfl h2 h3 h4 h5 (by rw [h6]; rfl)
      | b h1 h2 h3 h4 h5 =>
        rw [if_pos h1]
        exact .b h1 h2 h3 h4 h5
      | c h1 h2 h3 =>
        rw [if_pos h1]
        exact .c h1 h2 h3
theorem Rel.run : ∀ (l : List UInt8) {s : PS} {f : FS}, Rel s f → Rel (runS s l) (runF f l)
  | [], _, _, h => h
  | u :: l, _, _, h => Rel.run l (h.byte u)
theorem parsed_ne {l : List UInt8} (h : l ≠ []) : parsed l = cut (FR (-1) l) := by
  unfold parsed
  rw [runO_ne h]
  exact (Rel.run l (.a rfl (by simp) (by simp) rfl rfl rfl : Rel PS.start ⟨[], [], -1⟩)).rows
theorem parsed_nil : parsed [] = [] := rfl
theorem FR_nil (x : Int) : FR x [] = [[x]] := rfl

theorem FR_ne (x : Int) (l : List UInt8) : FR x l ≠ [] := by simp [FR, FS.rows]
theorem runF_rows : ∀ (l : List UInt8) (D : Rws) (r : List Int) (x : Int), (runF ⟨D, r, x⟩ l).rows = D ++ (r ++ (FR x l).headD []) :: (FR x l).tail
  | [], D, r, x => by simp [runF, FR, FS.rows]
  | c :: l, D, r, x => by
    by_cases h59 : c.toNat = 59
    · have e : ∀ D r, runF ⟨D, r, x⟩ (c :: l) = runF ⟨D ++ [r ++ [x]], [], -1⟩ l := fun D r => by simp [runF, FS.byte, h59]
      have eF : FR x (c :: l) = [x] :: FR (-1) l := by
        show (runF ⟨[], [], x⟩ (c :: l)).rows = _
        rw [e, runF_rows l]
        obtain ⟨a, t, ht⟩ := List.exists_cons_of_ne_nil (FR_ne (-1) l)
        simp [ht]
      rw [e, runF_rows l, eF]
      obtain ⟨a, t, ht⟩ := List.exists_cons_of_ne_nil (FR_ne (-1) l)
      simp [ht]
    · by_cases h58 : c.toNat = 58
      · have e : ∀ D r, runF ⟨D, r, x⟩ (c :: l) = runF ⟨D, r ++ [x], -1⟩ l := fun D r => by simp [runF, FS.byte, h58]
        have eF : FR x (c :: l) = ([x] ++ (FR (-1) l).headD []) :: (FR (-1) l).tail := by
          show (runF ⟨[], [], x⟩ (c :: l)).rows = _
          rw [e, runF_rows l]
          rfl
        rw [e, runF_rows l, eF]
        simp
      · have e : ∀ D r, runF ⟨D, r, x⟩ (c :: l) = runF ⟨D, r, digM x c.toNat⟩ l := fun D r => by simp [runF, FS.byte, h59, h58]
        have eF : FR x (c :: l) = FR (digM x c.toNat) l := by
          show (runF ⟨[], [], x⟩ (c :: l)).rows = _
          rw [e]
          rfl
        rw [e, runF_rows l, eF]
theorem runF_append (f : FS) (a b : List UInt8) : runF f (a ++ b) = runF (runF f a) b := by simp [runF]
/-- A ; begins the next parameter. -/
theorem FR_semi (x : Int) (a b : List UInt8) : FR x (a ++ 59 :: b) = FR x a ++ FR (-1) b := by
  show (runF ⟨[], [], x⟩ (a ++ 59 :: b)).rows = (runF ⟨[], [], x⟩ a).rows ++ FR (-1) b
  rw [runF_append]
  generalize runF ⟨[], [], x⟩ a = f
  have e : runF f (59 :: b) = runF ⟨f.D ++ [f.r ++ [f.x]], [], -1⟩ b := by simp [runF, FS.byte]
  rw [e, runF_rows]
  obtain ⟨h, t, ht⟩ := List.exists_cons_of_ne_nil (FR_ne (-1) b)
  simp [ht, FS.rows]
/-- A : goes on with the last one. -/
theorem FR_colon (x : Int) (a b : List UInt8) : ∃ (D : Rws) (q h : List Int) (t : Rws), FR x a = D ++ [q] ∧ q ≠ [] ∧ FR (-1) b = h :: t ∧ FR x (a ++ 58 :: b) = D ++ (q ++ h) :: t := by
  obtain ⟨h, t, ht⟩ := List.exists_cons_of_ne_nil (FR_ne (-1) b)
  refine ⟨(runF ⟨[], [], x⟩ a).D, (runF ⟨[], [], x⟩ a).r ++ [(runF ⟨[], [], x⟩ a).x], h, t, rfl, by simp, ht, ?_⟩
  show (runF ⟨[], [], x⟩ (a ++ 58 :: b)).rows = _
  rw [runF_append]
  generalize runF ⟨[], [], x⟩ a = f
  have e : runF f (58 :: b) = runF ⟨f.D, f.r ++ [f.x], -1⟩ b := by simp [runF, FS.byte]
  rw [e, runF_rows, ht]
  rfl
theorem runF_len : ∀ (l : List UInt8) (f : FS), (runF f l).D.length = f.D.length + l.count 59
  | [], f => by simp [runF]
  | c :: l, f => by
    show (runF (f.byte c) l).D.length = _
    rw [runF_len l, List.count_cons]
    have e : (c == 59) = decide (c.toNat = 59) := by
      rw [Bool.eq_iff_iff]
      simp [← UInt8.toNat_inj]
    rw [e]
    unfold FS.byte
    by_cases h : c.toNat = 59
    · simp [h]; omega
    · simp only [h, if_false]
      split <;> simp
theorem FR_len (x : Int) (l : List UInt8) : (FR x l).length = 1 + l.count 59 := by
  have := runF_len l ⟨[], [], x⟩
  simp [FR, FS.rows, this]
  omega

theorem cut_len (R : Rws) : (cut R).length = min 32 R.length := by simp [cut]
theorem cut_append (X Y : Rws) : (cut X ++ cut Y).take 32 = cut (X ++ Y) := by
  unfold cut
  rw [← List.map_append, ← List.map_take]
  congr 1
  rw [List.take_append, List.take_append, List.take_take, List.take_take, List.length_take, Nat.min_self]
  congr 2
  omega
/-- As many as there are: of no bytes one that is not said. -/
def full (R : Rws) : Rws := if R.length = 0 then [[-1]] else R
theorem full_parsed (l : List UInt8) : full (parsed l) = cut (FR (-1) l) := by
  unfold full
  cases l with
  | nil => rfl
  | cons c l =>
    have h := parsed_ne (l := c :: l) (by simp)
    rw [if_neg, h]
    rw [h, cut_len, FR_len]
    omega
theorem parsed_semi (a b : List UInt8) : parsed (a ++ 59 :: b) = (full (parsed a) ++ full (parsed b)).take 32 := by
  rw [parsed_ne (by simp), full_parsed, full_parsed, cut_append, FR_semi]
theorem parsed_zeros (a : List UInt8) : parsed (a ++ [59, 48, 48, 48]) = parsed (a ++ [59, 48]) := by
  rw [parsed_ne (by simp), parsed_ne (by simp), FR_semi, FR_semi]
  rfl
theorem parsed_colon (a b : List UInt8) (h : (full (parsed a)).length < 32 ∨ a.count 59 = 31) :
    (full (parsed a)).length ≤ (parsed (a ++ 58 :: b)).length ∧
    (parsed (a ++ 58 :: b)).getD ((full (parsed a)).length - 1) [] = (((full (parsed a)).getD ((full (parsed a)).length - 1) []) ++ (full (parsed b)).getD 0 []).take 8 := by
  rw [full_parsed, full_parsed, parsed_ne (by simp)]
  rw [full_parsed, cut_len] at h
  have hl := FR_len (-1) a
  obtain ⟨D, q, hd, t, e1, _, e2, e3⟩ := FR_colon (-1) a b
  rw [e3, e2, e1]
  rw [e1] at h hl
  simp only [List.length_append, List.length_singleton] at h hl
  have hD : D.length ≤ 31 := by omega
  have eA : cut (D ++ [q]) = D.map (List.take 8) ++ [q.take 8] := by
    unfold cut
    rw [List.take_of_length_le (by simp; omega)]
    simp
  have eC : cut (D ++ (q ++ hd) :: t) = D.map (List.take 8) ++ (q ++ hd).take 8 :: (t.take (31 - D.length)).map (List.take 8) := by
    unfold cut
    rw [List.take_append, List.take_of_length_le (by omega)]
    obtain ⟨k, hk⟩ : ∃ k, 32 - D.length = k + 1 := ⟨31 - D.length, by omega⟩
    rw [hk, List.take_succ_cons, show 31 - D.length = k by omega]
    simp
  rw [eA, eC]
  refine ⟨by simp, ?_⟩
  have i1 : (D.map (List.take 8) ++ [q.take 8]).length - 1 = (D.map (List.take 8)).length := by simp
  rw [i1, getD_snoc_eq]
  have i2 : (D.map (List.take 8) ++ (q ++ hd).take 8 :: (t.take (31 - D.length)).map (List.take 8)).getD (D.map (List.take 8)).length [] = (q ++ hd).take 8 := by
    simp [List.getD_eq_getElem?_getD]
  have i3 : (cut (hd :: t)).getD 0 [] = hd.take 8 := by simp [cut]
  rw [i2, i3]
  rw [List.take_append, List.take_append, List.take_take, List.take_take, List.length_take]
  congr 2
  omega
end Go.Proofs.YtlmhnebgkginkaaDoor.Lab
