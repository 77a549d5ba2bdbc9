/- What is written is read again, in capitals and by fewer digits (for ColorBack). -/
import Derived.Test.YthcncghhjlaicaaDoorScaleMath
import Derived.Test.YthcncghhjlaicaaDoorColWorks
namespace Go.Proofs.YthcncghhjlaicaaDoor.Lab
open Go.RowKit

theorem upC_ok (n : Nat) (h : n < 16) : digB (Lib.upperB (hexC n)).toNat = true ∧ digV (Lib.upperB (hexC n)).toNat = n := by
  obtain rfl | rfl | rfl | rfl | rfl | rfl | rfl | rfl | rfl | rfl | rfl | rfl | rfl | rfl | rfl | rfl : n = 0 ∨ n = 1 ∨ n = 2 ∨ n = 3 ∨ n = 4 ∨ n = 5 ∨ n = 6 ∨ n = 7 ∨ n = 8 ∨ n = 9 ∨ n = 10 ∨ n = 11 ∨ n = 12 ∨ n = 13 ∨ n = 14 ∨ n = 15 := by omega
  all_goals decide

def up4 (n : Nat) : List UInt8 := [Lib.upperB (hexC (n / 4096)), Lib.upperB (hexC (n / 256 % 16)), Lib.upperB (hexC (n / 16 % 16)), Lib.upperB (hexC (n % 16))]

theorem four_ok {a b c d : UInt8} {n : Nat} (h1 : digB a.toNat = true ∧ digV a.toNat = n / 4096) (h2 : digB b.toNat = true ∧ digV b.toNat = n / 256 % 16) (h3 : digB c.toNat = true ∧ digV c.toNat = n / 16 % 16) (h4 : digB d.toNat = true ∧ digV d.toNat = n % 16)
    (hn : n < 65536) : partB [a, b, c, d] = true ∧ partV [a, b, c, d] = n := by
  have hall : allB [a, b, c, d] = true := by simp [allB, h1.1, h2.1, h3.1, h4.1]
  obtain ⟨h5, h6⟩ := part_ok [a, b, c, d] 4 rfl (by decide) hall
  refine ⟨h5, h6.trans ?_⟩
  have : acc [a, b, c, d] = ((n / 4096 * 16 + n / 256 % 16) * 16 + n / 16 % 16) * 16 + n % 16 := by simp [acc, h1.2, h2.2, h3.2, h4.2]
  rw [this]
  show ((n / 4096 * 16 + n / 256 % 16) * 16 + n / 16 % 16) * 16 + n % 16 = n
  omega

theorem hex_ok (n : Nat) (hn : n < 65536) : partB (hex4 n) = true ∧ partV (hex4 n) = n :=
  four_ok ⟨(hexC_ok _ (by omega)).1, (hexC_ok _ (by omega)).2.1⟩ ⟨(hexC_ok _ (by omega)).1, (hexC_ok _ (by omega)).2.1⟩ ⟨(hexC_ok _ (by omega)).1, (hexC_ok _ (by omega)).2.1⟩ ⟨(hexC_ok _ (by omega)).1, (hexC_ok _ (by omega)).2.1⟩ hn
theorem up_ok (n : Nat) (hn : n < 65536) : partB (up4 n) = true ∧ partV (up4 n) = n :=
  four_ok (upC_ok _ (by omega)) (upC_ok _ (by omega)) (upC_ok _ (by omega)) (upC_ok _ (by omega)) hn

/-- What is written is read again. -/
theorem back_low (x y z : Nat) (hx : x < 65536) (hy : y < 65536) (hz : z < 65536) : parseB (formL x y z) = true ∧ parseV (formL x y z) = (x, y, z) := by
  have h := parse_rgb (hex_ok x hx).1 (hex_ok y hy).1 (hex_ok z hz).1
  rw [(hex_ok x hx).2, (hex_ok y hy).2, (hex_ok z hz).2] at h
  have e : formL x y z = [114, 103, 98, 58] ++ (hex4 x ++ 47 :: (hex4 y ++ 47 :: hex4 z)) := by simp [formL]
  rw [e]
  exact h
/-- Its end in capitals, behind what stands in front. -/
def capL (x y z : Nat) : List UInt8 := up4 x ++ 47 :: (up4 y ++ 47 :: up4 z)
theorem cap_of (x y z : Nat) : Lib.toUpperA ((formL x y z).drop 4) = capL x y z := by
  have e : (formL x y z).drop 4 = hex4 x ++ 47 :: (hex4 y ++ 47 :: hex4 z) := by simp [formL]
  rw [e]
  simp [Lib.toUpperA, hex4, capL, up4]
  decide
theorem back_up (x y z : Nat) (hx : x < 65536) (hy : y < 65536) (hz : z < 65536) : parseB ([114, 103, 98, 58] ++ capL x y z) = true ∧ parseV ([114, 103, 98, 58] ++ capL x y z) = (x, y, z) := by
  have h := parse_rgb (up_ok x hx).1 (up_ok y hy).1 (up_ok z hz).1
  rw [(up_ok x hx).2, (up_ok y hy).2, (up_ok z hz).2] at h
  exact h

/-- What begins with neither is no spec. -/
theorem bad_first (a : UInt8) (l : List UInt8) (h1 : a ≠ 114) (h2 : a ≠ 35) : parseB (a :: l) = false := by
  have h3 : ¬ (114 : UInt8) = a := fun e => h1 e.symm
  have h4 : ¬ (35 : UInt8) = a := fun e => h2 e.symm
  have e1 : Lib.hasPrefix (a :: l) rgbP = false := by simp [Lib.hasPrefix, List.isPrefixOf, h3]
  have e2 : Lib.hasPrefix (a :: l) [35] = false := by simp [Lib.hasPrefix, List.isPrefixOf, h4]
  unfold parseB rgbB hashB
  rw [e1, e2]
  rfl

/-- Three parts of which the last is none. -/
theorem bad_last {x y z : List UInt8} (hx : partB x = true) (hy : partB y = true) (hz : partB z = false) : parseB ([114, 103, 98, 58] ++ (x ++ 47 :: (y ++ 47 :: z))) = false := by
  have c1 := cutL_app x (y ++ 47 :: z) (noslash (partB_all hx))
  have c2 := cutL_app y z (noslash (partB_all hy))
  have hd : List.drop 4 ([114, 103, 98, 58] ++ (x ++ 47 :: (y ++ 47 :: z))) = x ++ 47 :: (y ++ 47 :: z) := rfl
  have hr : rgbR ([114, 103, 98, 58] ++ (x ++ 47 :: (y ++ 47 :: z))) = y ++ 47 :: z := by unfold rgbR; rw [hd, c1]
  have hrow : ∀ a, rowsB a y z = false := by intro a; unfold rowsB; rw [hz]; simp
  have e2 : Lib.hasPrefix ([114, 103, 98, 58] ++ (x ++ 47 :: (y ++ 47 :: z))) [35] = false := by simp [Lib.hasPrefix, List.isPrefixOf]
  unfold parseB rgbB hashB
  rw [hr, c2, hrow, e2]
  simp

theorem bad1 (x y z : Nat) (hx : x < 65536) (hy : y < 65536) : parseB (formL x y z ++ [48]) = false := by
  have e : formL x y z ++ [48] = [114, 103, 98, 58] ++ (hex4 x ++ 47 :: (hex4 y ++ 47 :: (hex4 z ++ [48]))) := by simp [formL]
  rw [e]
  exact bad_last (hex_ok x hx).1 (hex_ok y hy).1 (by unfold partB; simp [hex4])
theorem bad2 (x y z : Nat) : parseB ((formL x y z).drop 1) = false := by
  have e : (formL x y z).drop 1 = 103 :: ([98, 58] ++ (hex4 x ++ 47 :: (hex4 y ++ 47 :: (hex4 z)))) := by simp [formL]
  rw [e]
  exact bad_first _ _ (by decide) (by decide)
theorem bad3 (x y z : Nat) (hx : x < 65536) (hy : y < 65536) : parseB (formL x y z ++ [47, 48]) = false := by
  have e : formL x y z ++ [47, 48] = [114, 103, 98, 58] ++ (hex4 x ++ 47 :: (hex4 y ++ 47 :: (hex4 z ++ [47, 48]))) := by simp [formL]
  rw [e]
  exact bad_last (hex_ok x hx).1 (hex_ok y hy).1 (by unfold partB; simp [hex4])
theorem bad4 (x y z : Nat) : parseB (Lib.toUpperA (formL x y z)) = false := by
  have e : Lib.toUpperA (formL x y z) = 82 :: Lib.toUpperA ((formL x y z).drop 1) := by
    simp [Lib.toUpperA, formL]
    decide
  rw [e]
  exact bad_first _ _ (by decide) (by decide)

theorem form_ascii (x y z : Nat) (hx : x < 65536) (hy : y < 65536) (hz : z < 65536) : ∀ b ∈ formL x y z, b.toNat < 128 := by
  intro b hb
  have hh : ∀ n, n < 16 → (hexC n).toNat < 128 := fun n h => (hexC_ok n h).2.2
  simp only [formL, hex4, List.mem_append, List.mem_cons, List.not_mem_nil, or_false] at hb
  rcases hb with ((((h | h) | h) | h) | h) | h
  all_goals
    first
    | (rcases h with rfl | rfl | rfl | rfl <;> first | decide | exact hh _ (by omega))
    | (rcases h with rfl; decide)

/-- By fewer digits. -/
theorem back_short (k x y z : Nat) (h1 : 1 ≤ k) (h4 : k ≤ 4) (hx : x < 65536) (hy : y < 65536) (hz : z < 65536) :
    parseB ([114, 103, 98, 58] ++ (topD k x ++ 47 :: (topD k y ++ 47 :: topD k z))) = true ∧
    parseV ([114, 103, 98, 58] ++ (topD k x ++ 47 :: (topD k y ++ 47 :: topD k z))) = (scale k (x / 16 ^ (4 - k)), scale k (y / 16 ^ (4 - k)), scale k (z / 16 ^ (4 - k))) := by
  have h := parse_rgb (top_ok k x h1 h4 hx).1 (top_ok k y h1 h4 hy).1 (top_ok k z h1 h4 hz).1
  rw [(top_ok k x h1 h4 hx).2, (top_ok k y h1 h4 hy).2, (top_ok k z h1 h4 hz).2] at h
  exact h

theorem scale_top (k x : Nat) (h1 : 1 ≤ k) (h4 : k ≤ 4) (hx : x < 65536) : scale k (x / 16 ^ (4 - k)) < 65536 ∧ scale k (x / 16 ^ (4 - k)) / 16 ^ (4 - k) = x / 16 ^ (4 - k) := by
  obtain rfl | rfl | rfl | rfl : k = 1 ∨ k = 2 ∨ k = 3 ∨ k = 4 := by omega
  all_goals
    unfold scale
    simp
    omega

theorem top_same (k x m : Nat) (h1 : 1 ≤ k) (h4 : k ≤ 4) (h : m / 16 ^ (4 - k) = x / 16 ^ (4 - k)) : topD k m = topD k x := by
  obtain rfl | rfl | rfl | rfl : k = 1 ∨ k = 2 ∨ k = 3 ∨ k = 4 := by omega
  all_goals simp at h
  · simp [topD, hex4, h]
  · have a1 : m / 4096 = x / 4096 := by omega
    have a2 : m / 256 % 16 = x / 256 % 16 := by omega
    simp [topD, hex4, a1, a2]
  · have a1 : m / 4096 = x / 4096 := by omega
    have a2 : m / 256 % 16 = x / 256 % 16 := by omega
    have a3 : m / 16 % 16 = x / 16 % 16 := by omega
    simp [topD, hex4, a1, a2, a3]
  · rw [h]
end Go.Proofs.YthcncghhjlaicaaDoor.Lab
