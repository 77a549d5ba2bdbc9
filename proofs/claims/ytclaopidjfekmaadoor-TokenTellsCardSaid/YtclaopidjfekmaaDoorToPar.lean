/- between, data, params, heads: what a head's parts must be; rows held against each other. -/
import Derived.Test.YtclaopidjfekmaaDoorToEvery
import Derived.WalkSmall
namespace Go.Proofs.YtclaopidjfekmaaDoor.Lab
open Go.RowKit

def intB (s : ByteArray) : Bool := decide (s.size ≤ 2) && (bl s).all int1
def datB (s : ByteArray) : Bool := decide (s.size ≤ 1024) && (bl s).all dat1
def rowB (r : List Int) : Bool := btw 1 8 r.length && r.all num1
def parB (R : Rws) : Bool := !decide (R = [[-1]]) && decide (R.length ≤ 32) && R.all rowB
theorem int_iff {s : ByteArray} : intB s = true ↔ intOk s := by
  rw [intB, Bool.and_eq_true, decide_eq_true_eq, List.all_eq_true]
  simp only [int1, decide_eq_true_eq]
  exact Iff.rfl
theorem dat_iff {s : ByteArray} : datB s = true ↔ datOk s := by
  rw [datB, Bool.and_eq_true, decide_eq_true_eq, List.all_eq_true]
  simp only [dat1, decide_eq_true_eq]
  exact Iff.rfl
theorem row_iff {r : List Int} : rowB r = true ↔ okRow r := by
  rw [rowB, Bool.and_eq_true, btw_iff, List.all_eq_true]
  simp only [num1, btw_iff]
  unfold okRow
  constructor
  · rintro ⟨⟨a, b⟩, c⟩
    exact ⟨by omega, by omega, c⟩
  · rintro ⟨a, b, c⟩
    exact ⟨⟨by omega, by omega⟩, c⟩
theorem par_iff {R : Rws} : parB R = true ↔ parOk R := by
  simp [parB, parOk, row_iff]
  constructor
  · rintro ⟨⟨a, b⟩, c⟩
    exact ⟨b, c, a⟩
  · rintro ⟨b, c, a⟩
    exact ⟨⟨a, b⟩, c⟩

set_option maxHeartbeats 1000000 in
set_option maxRecDepth 100000 in
theorem between_any (s : ByteArray) (hs : s.size ≤ maxLen) (w : World) : Calls Tryd.prog 45 #[.string s] w fun e w' => e = .returned (.bool (intB s)) ∧ Below w.heap.size w w' := by
  have HS := Lib.hid hs
  by_cases h2 : s.size ≤ 2
  · have HE := Lib.hid (show intB s = (bl s).all int1 by rw [intB, decide_eq_true h2]; rfl)
    have kc := run_bytes_of_string (P := Tryd.prog) w 9 39 5 s Tryd.underlying9 Tryd.underlying39 Tryd.underlying5
    generalize grownCap w s.size 0 5 = C at kc
    have BM := Lib.hid (bytes_made w s hs C 5)
    have BB := Lib.hid (show Below w.heap.size w (w.drew.alloc (.cells (bytesRow s C) 5 ((bytesRow s C).size, (bytesRow s C).size + 1))) from (Below.refl _ _).drew.alloc (by simp) _)
    generalize w.drew.alloc (.cells (bytesRow s C) 5 ((bytesRow s C).size, (bytesRow s C).size + 1)) = w1 at kc BM BB
    clear hs
    go_enter Tryd.func45, Tryd.ntmps45
    go_wp2_with fail
    refine (every_int _ _ _ BM.out).mono ?_
    rintro e w2 ⟨rfl, rfl⟩
    rw [← HE.out]
    go_wp2
    go_ret
    exact ⟨rfl, BB.out⟩
  · have HE := Lib.hid (show intB s = false by rw [intB, decide_eq_false h2]; rfl)
    have d2 : decide ((s.size : Int) ≤ 2) = false := by simp; omega
    clear hs
    go_enter Tryd.func45, Tryd.ntmps45
    go_wp2
    go_ret
    exact ⟨by rw [HE.out]; rfl, Below.refl _ _⟩
set_option maxHeartbeats 1000000 in
set_option maxRecDepth 100000 in
theorem data_any (s : ByteArray) (hs : s.size ≤ maxLen) (w : World) : Calls Tryd.prog 50 #[.string s] w fun e w' => e = .returned (.bool (datB s)) ∧ Below w.heap.size w w' := by
  have HS := Lib.hid hs
  by_cases h2 : s.size ≤ 1024
  · have HE := Lib.hid (show datB s = (bl s).all dat1 by rw [datB, decide_eq_true h2]; rfl)
    have kc := run_bytes_of_string (P := Tryd.prog) w 9 39 5 s Tryd.underlying9 Tryd.underlying39 Tryd.underlying5
    generalize grownCap w s.size 0 5 = C at kc
    have BM := Lib.hid (bytes_made w s hs C 5)
    have BB := Lib.hid (show Below w.heap.size w (w.drew.alloc (.cells (bytesRow s C) 5 ((bytesRow s C).size, (bytesRow s C).size + 1))) from (Below.refl _ _).drew.alloc (by simp) _)
    generalize w.drew.alloc (.cells (bytesRow s C) 5 ((bytesRow s C).size, (bytesRow s C).size + 1)) = w1 at kc BM BB
    clear hs
    go_enter Tryd.func50, Tryd.ntmps50
    go_wp2_with fail
    refine (every_dat _ _ _ BM.out).mono ?_
    rintro e w2 ⟨rfl, rfl⟩
    rw [← HE.out]
    go_wp2
    go_ret
    exact ⟨rfl, BB.out⟩
  · have HE := Lib.hid (show datB s = false by rw [datB, decide_eq_false h2]; rfl)
    have d2 : decide ((s.size : Int) ≤ 1024) = false := by simp; omega
    clear hs
    go_enter Tryd.func50, Tryd.ntmps50
    go_wp2
    go_ret
    exact ⟨by rw [HE.out]; rfl, Below.refl _ _⟩

set_option maxHeartbeats 1000000 in
set_option maxRecDepth 100000 in
theorem row1_any (v : Value) (r : List Int) (w : World) (hN : NumsAt w v r) : Calls Tryd.prog 76 #[v] w fun e w' => e = .returned (.bool (rowB r)) ∧ w = w' := by
  have HN := Lib.hid hN
  obtain ⟨a, c, rfl, hm, _⟩ := hN
  unfold maxLen at hm
  obtain ⟨q, hq⟩ : ∃ q, btw 1 8 r.length = q := ⟨_, rfl⟩
  have HQ := Lib.hid hq
  clear hq
  cases q
  · go_enter Tryd.func76, Tryd.ntmps76
    go_wp2_with fail
    refine (within_i64 _ _ _ _).mono ?_
    rintro e w' ⟨rfl, rfl⟩
    rw [HQ.out]
    go_wp2
    go_ret
    exact ⟨by rw [rowB, HQ.out]; rfl, rfl⟩
  · go_enter Tryd.func76, Tryd.ntmps76
    go_wp2_with fail
    refine (within_i64 _ _ _ _).mono ?_
    rintro e w' ⟨rfl, rfl⟩
    rw [HQ.out]
    go_wp2_with fail
    refine (every_num _ _ _ HN.out).mono ?_
    rintro e w' ⟨rfl, rfl⟩
    go_wp2
    go_ret
    exact ⟨by rw [rowB, HQ.out]; rfl, rfl⟩

/-! ### rows held against each other -/
set_option maxHeartbeats 1000000 in
set_option maxRecDepth 100000 in
theorem equal_any (u v : Value) (r s : List Int) (w : World) (hu : NumsAt w u r) (hv : NumsAt w v s) : Calls Tryd.prog 33 #[u, v] w fun e w' => e = .returned (.bool (decide (r = s))) ∧ Below w.heap.size w w' := by
  obtain ⟨a, c, rfl, hm, hc⟩ := hu
  obtain ⟨b, d, rfl, hn, hd⟩ := hv
  unfold maxLen at hm hn
  by_cases h0 : r.length = 0
  · obtain rfl : r = [] := List.length_eq_zero_iff.1 h0
    refine (Tryd.slices_Equal_int_empty a b c s.length d w (by omega)).mono ?_
    rintro e w' ⟨rfl, rfl⟩
    refine ⟨?_, Below.refl _ _⟩
    have : decide (s.length = 0) = decide (([] : List Int) = s) := by
      rw [decide_eq_decide]
      exact ⟨fun h => (List.length_eq_zero_iff.1 h).symm, fun h => by rw [← h]; rfl⟩
    rw [this]
  · by_cases h1 : r.length = s.length
    · obtain ⟨g, o, rfl, h2⟩ := hc (by omega)
      obtain ⟨g', o', rfl, h3⟩ := hd (by omega)
      refine (Tryd.slices_Equal_int g o r.length c g' o' s.length d r s w (Nat.le_refl _) (Nat.le_refl _) (by omega) (by omega) h2 h3).mono ?_
      rintro e w' ⟨rfl, q, rfl⟩
      refine ⟨?_, below_drewN (Below.refl _ _) q⟩
      rw [List.take_of_length_le (Nat.le_refl _), List.take_of_length_le (Nat.le_refl _)]
      have : (r == s) = decide (r = s) := by rw [Bool.eq_iff_iff]; simp
      rw [this]
    · have HE := Lib.hid (show decide (r = s) = false by
        rw [decide_eq_false_iff_not]
        rintro rfl
        exact h1 rfl)
      have e1 : ((r.length : Int) != (s.length : Int)) = true := by simp; omega
      have e2 : (r.length != s.length) = true := by simpa using h1
      have e3 : (r.length == s.length) = false := by simpa using h1
      generalize r.length = n at *
      generalize s.length = m at *
      clear hc hd
      go_enter Tryd.func33, Tryd.ntmps33
      go_wp2
      go_ret
      exact ⟨by rw [HE.out]; rfl, Below.refl _ _⟩
end Go.Proofs.YtclaopidjfekmaaDoor.Lab
