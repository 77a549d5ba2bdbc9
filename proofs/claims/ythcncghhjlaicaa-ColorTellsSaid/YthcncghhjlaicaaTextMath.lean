/- What is written is read again: numbers, digits, texts (for ColorBack, ColorScales). -/
import Derived.Test.YthcncghhjlaicaaFormat
import Derived.Test.YthcncghhjlaicaaBad
namespace Go.Proofs.Ythcncghhjlaicaa.Lab
open Go.RowKit

theorem hexC_ok (n : Nat) (h : n < 16) : digB (hexC n).toNat = true ∧ digV (hexC n).toNat = n ∧ (hexC n).toNat < 128 := by
  obtain rfl | rfl | rfl | rfl | rfl | rfl | rfl | rfl | rfl | rfl | rfl | rfl | rfl | rfl | rfl | rfl : n = 0 ∨ n = 1 ∨ n = 2 ∨ n = 3 ∨ n = 4 ∨ n = 5 ∨ n = 6 ∨ n = 7 ∨ n = 8 ∨ n = 9 ∨ n = 10 ∨ n = 11 ∨ n = 12 ∨ n = 13 ∨ n = 14 ∨ n = 15 := by omega
  all_goals decide

theorem noslash {l : List UInt8} (h : allB l = true) : ∀ k : Nat, l[k]? ≠ some 47 := by
  intro k hk
  have h2 := List.all_eq_true.mp h 47 (List.mem_of_getElem? hk)
  revert h2
  decide

theorem cutL_app : ∀ (a b : List UInt8), (∀ k : Nat, a[k]? ≠ some 47) → cutL (a ++ 47 :: b) = (a, b, true)
  | [], b, _ => rfl
  | x :: xs, b, h => by
    have h0 : x ≠ 47 := fun e => h 0 (by simp [e])
    have ih := cutL_app xs b (fun k => h (k + 1))
    rw [List.cons_append, cutL, if_neg h0, ih]

theorem partB_all {l : List UInt8} (h : partB l = true) : allB l = true := by
  unfold partB at h
  rw [Bool.and_eq_true] at h
  exact h.1

/-- A spec of three parts is read part by part. -/
theorem parse_rgb {x y z : List UInt8} (hx : partB x = true) (hy : partB y = true) (hz : partB z = true) :
    parseB ([114, 103, 98, 58] ++ (x ++ 47 :: (y ++ 47 :: z))) = true ∧ parseV ([114, 103, 98, 58] ++ (x ++ 47 :: (y ++ 47 :: z))) = (partV x, partV y, partV z) := by
  have c1 := cutL_app x (y ++ 47 :: z) (noslash (partB_all hx))
  have c2 := cutL_app y z (noslash (partB_all hy))
  have hd : List.drop 4 ([114, 103, 98, 58] ++ (x ++ 47 :: (y ++ 47 :: z))) = x ++ 47 :: (y ++ 47 :: z) := rfl
  have hr : rgbR ([114, 103, 98, 58] ++ (x ++ 47 :: (y ++ 47 :: z))) = y ++ 47 :: z := by unfold rgbR; rw [hd, c1]
  have ha : rgbA ([114, 103, 98, 58] ++ (x ++ 47 :: (y ++ 47 :: z))) = x := by unfold rgbA; rw [hd, c1]
  have hrow : rowsB x y z = true := by unfold rowsB; rw [hx, hy, hz]; rfl
  have hb : rgbB ([114, 103, 98, 58] ++ (x ++ 47 :: (y ++ 47 :: z))) = true := by
    unfold rgbB
    rw [hr, ha, c2, hd, c1, hrow]
    rfl
  refine ⟨by unfold parseB; rw [hb]; rfl, ?_⟩
  unfold parseV rgbV
  rw [if_pos hb, if_pos hb, hr, ha, c2]
  unfold rowsV
  rw [if_pos hrow]

/-- The first k of a number's four digits. -/
def topD (k n : Nat) : List UInt8 := (hex4 n).take k
/-- The last k of them. -/
def lowD (k n : Nat) : List UInt8 := (hex4 n).drop (4 - k)

theorem hexs_ok {l : List Nat} (h : ∀ n ∈ l, n < 16) : allB (l.map hexC) = true := by
  unfold allB
  rw [List.all_eq_true]
  intro c hc
  obtain ⟨n, hn, rfl⟩ := List.mem_map.mp hc
  exact (hexC_ok n (h n hn)).1

theorem acc1 (a : Nat) (ha : a < 16) : acc [hexC a] = a := by simp [acc, (hexC_ok a ha).2.1]
theorem acc2 (a b : Nat) (ha : a < 16) (hb : b < 16) : acc [hexC a, hexC b] = a * 16 + b := by simp [acc, (hexC_ok a ha).2.1, (hexC_ok b hb).2.1]
theorem acc3 (a b c : Nat) (ha : a < 16) (hb : b < 16) (hc : c < 16) : acc [hexC a, hexC b, hexC c] = (a * 16 + b) * 16 + c := by simp [acc, (hexC_ok a ha).2.1, (hexC_ok b hb).2.1, (hexC_ok c hc).2.1]
theorem acc4 (a b c d : Nat) (ha : a < 16) (hb : b < 16) (hc : c < 16) (hd : d < 16) : acc [hexC a, hexC b, hexC c, hexC d] = ((a * 16 + b) * 16 + c) * 16 + d := by simp [acc, (hexC_ok a ha).2.1, (hexC_ok b hb).2.1, (hexC_ok c hc).2.1, (hexC_ok d hd).2.1]

theorem top_ok (k n : Nat) (h1 : 1 ≤ k) (h4 : k ≤ 4) (hn : n < 65536) : partB (topD k n) = true ∧ partV (topD k n) = scale k (n / 16 ^ (4 - k)) := by
  have hl : (topD k n).length = k := by simp [topD, hex4]; omega
  have a1 : n / 4096 < 16 := by omega
  have a2 : n / 256 % 16 < 16 := by omega
  have a3 : n / 16 % 16 < 16 := by omega
  have a4 : n % 16 < 16 := by omega
  have hall : allB (topD k n) = true ∧ acc (topD k n) = n / 16 ^ (4 - k) := by
    obtain rfl | rfl | rfl | rfl : k = 1 ∨ k = 2 ∨ k = 3 ∨ k = 4 := by omega
    · exact ⟨hexs_ok (l := [n / 4096]) (by simp; omega), (acc1 _ a1).trans (by simp)⟩
    · exact ⟨hexs_ok (l := [n / 4096, n / 256 % 16]) (by simp; omega), (acc2 _ _ a1 a2).trans (by simp; omega)⟩
    · exact ⟨hexs_ok (l := [n / 4096, n / 256 % 16, n / 16 % 16]) (by simp; omega), (acc3 _ _ _ a1 a2 a3).trans (by simp; omega)⟩
    · exact ⟨hexs_ok (l := [n / 4096, n / 256 % 16, n / 16 % 16, n % 16]) (by simp; omega), (acc4 _ _ _ _ a1 a2 a3 a4).trans (by simp; omega)⟩
  obtain ⟨h5, h6⟩ := part_ok (topD k n) k hl ⟨h1, h4⟩ hall.1
  exact ⟨h5, by rw [h6, hall.2]⟩

theorem low_ok (k n : Nat) (h1 : 1 ≤ k) (h4 : k ≤ 4) (hn : n < 16 ^ k) : partB (lowD k n) = true ∧ partV (lowD k n) = scale k n := by
  have hl : (lowD k n).length = k := by simp [lowD, hex4]; omega
  have hn4 : n < 65536 := by
    obtain rfl | rfl | rfl | rfl : k = 1 ∨ k = 2 ∨ k = 3 ∨ k = 4 := by omega
    all_goals omega
  have a1 : n / 4096 < 16 := by omega
  have a2 : n / 256 % 16 < 16 := by omega
  have a3 : n / 16 % 16 < 16 := by omega
  have a4 : n % 16 < 16 := by omega
  have hall : allB (lowD k n) = true ∧ acc (lowD k n) = n := by
    obtain rfl | rfl | rfl | rfl : k = 1 ∨ k = 2 ∨ k = 3 ∨ k = 4 := by omega
    · exact ⟨hexs_ok (l := [n % 16]) (by simp; omega), (acc1 _ a4).trans (by omega)⟩
    · exact ⟨hexs_ok (l := [n / 16 % 16, n % 16]) (by simp; omega), (acc2 _ _ a3 a4).trans (by omega)⟩
    · exact ⟨hexs_ok (l := [n / 256 % 16, n / 16 % 16, n % 16]) (by simp; omega), (acc3 _ _ _ a2 a3 a4).trans (by omega)⟩
    · exact ⟨hexs_ok (l := [n / 4096, n / 256 % 16, n / 16 % 16, n % 16]) (by simp; omega), (acc4 _ _ _ _ a1 a2 a3 a4).trans (by omega)⟩
  obtain ⟨h5, h6⟩ := part_ok (lowD k n) k hl ⟨h1, h4⟩ hall.1
  exact ⟨h5, by rw [h6, hall.2]⟩

/-- A part rises with its digits. -/
theorem scale_le (k a b : Nat) (h : a ≤ b) : scale k a ≤ scale k b := by
  unfold scale
  split
  · omega
  · split
    · omega
    · split
      · omega
      · omega
theorem scale_eq (k a b : Nat) : scale k a = scale k b ↔ a = b := by
  unfold scale
  constructor
  · intro h
    split at h
    · omega
    · split at h
      · omega
      · split at h
        · omega
        · omega
  · rintro rfl
    rfl
theorem scale_zero (k a : Nat) : scale k a = 0 ↔ a = 0 := by
  unfold scale
  split
  · omega
  · split
    · omega
    · split
      · omega
      · omega
theorem low_inj (k a b : Nat) (h1 : 1 ≤ k) (h4 : k ≤ 4) (ha : a < 16 ^ k) (hb : b < 16 ^ k) : lowD k a = lowD k b ↔ a = b := by
  constructor
  · intro h
    have e1 := (low_ok k a h1 h4 ha).2
    rw [h, (low_ok k b h1 h4 hb).2] at e1
    exact ((scale_eq k b a).mp e1).symm
  · rintro rfl
    rfl
theorem effs_ok (k : Nat) (h1 : 1 ≤ k) (h4 : k ≤ 4) : partB (List.replicate k 102) = true ∧ partV (List.replicate k 102) = 65535 := by
  obtain rfl | rfl | rfl | rfl : k = 1 ∨ k = 2 ∨ k = 3 ∨ k = 4 := by omega
  all_goals decide
end Go.Proofs.Ythcncghhjlaicaa.Lab
