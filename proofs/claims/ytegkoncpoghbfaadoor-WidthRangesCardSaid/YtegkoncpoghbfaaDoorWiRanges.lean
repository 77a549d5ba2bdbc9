/- The Go law WidthRanges: whole ranges of runes are told alike. -/
import Derived.Test.YtegkoncpoghbfaaDoorWiWorks
namespace Go.Proofs.YtegkoncpoghbfaaDoor.Lab
open Go.RowKit Go.Lib

def apartB (l : List (Int × Int)) (a b : Int) : Bool := l.all fun p => decide (p.2 < a) || decide (b < p.1)
def coverB (l : List (Int × Int)) (a b : Int) : Bool := l.any fun p => decide (p.1 ≤ a) && decide (b ≤ p.2)
theorem inB_apart {l : List (Int × Int)} {a b x : Int} (h : apartB l a b = true) (h1 : a ≤ x) (h2 : x ≤ b) : inB l x = false := by
  unfold inB
  refine List.any_eq_false.2 fun p hp => ?_
  have := List.all_eq_true.1 h p hp
  simp only [Bool.or_eq_true, decide_eq_true_eq] at this
  simp only [Bool.and_eq_true, decide_eq_true_eq]
  omega
theorem inB_cover {l : List (Int × Int)} {a b x : Int} (h : coverB l a b = true) (h1 : a ≤ x) (h2 : x ≤ b) : inB l x = true := by
  obtain ⟨p, hp, h3⟩ := List.any_eq_true.1 h
  simp only [Bool.and_eq_true, decide_eq_true_eq] at h3
  refine List.any_eq_true.2 ⟨p, hp, ?_⟩
  simp only [Bool.and_eq_true, decide_eq_true_eq]
  omega

/-- The whole of a range is told alike. -/
def rangeV (a b v : Int) : Bool :=
  if v = -1 then coverB unshownT a b else apartB unshownT a b && (if v = 0 then coverB marksT a b else apartB marksT a b && (if v = 2 then coverB broadT a b else decide (v = 1) && apartB broadT a b))
theorem ofI_range {a b v x : Int} (h : rangeV a b v = true) (h1 : a ≤ x) (h2 : x ≤ b) : ofI x = v := by
  unfold rangeV at h
  unfold ofI
  by_cases e : v = -1
  · rw [if_pos e] at h
    rw [if_pos (inB_cover h h1 h2), e]
  · rw [if_neg e, Bool.and_eq_true] at h
    rw [inB_apart h.1 h1 h2, if_neg (by simp)]
    have h := h.2
    by_cases e : v = 0
    · rw [if_pos e] at h
      rw [if_pos (inB_cover h h1 h2), e]
    · rw [if_neg e, Bool.and_eq_true] at h
      rw [inB_apart h.1 h1 h2, if_neg (by simp)]
      have h := h.2
      by_cases e : v = 2
      · rw [if_pos e] at h
        rw [if_pos (inB_cover h h1 h2), e]
      · rw [if_neg e, Bool.and_eq_true] at h
        rw [inB_apart h.2 h1 h2, if_neg (by simp)]
        exact (of_decide_eq_true h.1).symm

theorem of_rng (x a b v : Int) (h : rangeV a b v = true) (h1 : a ≤ x) (h2 : x ≤ b) {w : World} (hT : Tabs w) :
    Calls Tryd.prog 12 #[.int .i32 x] w fun e w' => e = .returned (.int .i64 v) ∧ Below w.heap.size w w' := of_val x v (ofI_range h h1 h2) hT

set_option maxRecDepth 100000 in
set_option maxHeartbeats 4000000 in
theorem widthRanges_any (n : Int) (n0 : 0 ≤ n) (n1 : n ≤ 4294967295) {w : World} (hT : Tabs w) :
    Calls Tryd.prog 5 #[.int .u32 n] w fun e w' => e = .returned (.bool true) ∧ Below w.heap.size w w' := by
  have H0 := Lib.hid (St.here hT)
  clear hT
  go_enter Tryd.func5, Tryd.ntmps5
  go_wp2_with fail
  refine (works_any H0.out.1).mono ?_
  rintro e w1 ⟨rfl, hb⟩
  have H1 := Lib.hid (H0.out.on hb)
  clear hb H0
  go_wp2_with fail
  refine (of_rng _ (19968) 40959 (2) (by decide +kernel) (by omega) (by omega) H1.out.1).mono ?_
  rintro e w2 ⟨rfl, hb⟩
  have H2 := Lib.hid (H1.out.on hb)
  clear hb H1
  go_wp2_with fail
  refine (of_rng _ (44032) 55203 (2) (by decide +kernel) (by omega) (by omega) H2.out.1).mono ?_
  rintro e w3 ⟨rfl, hb⟩
  have H3 := Lib.hid (H2.out.on hb)
  clear hb H2
  go_wp2_with fail
  refine (of_rng _ (160) 511 (1) (by decide +kernel) (by omega) (by omega) H3.out.1).mono ?_
  rintro e w4 ⟨rfl, hb⟩
  have H4 := Lib.hid (H3.out.on hb)
  clear hb H3
  go_wp2_with fail
  refine (of_rng _ (880) 1135 (1) (by decide +kernel) (by omega) (by omega) H4.out.1).mono ?_
  rintro e w5 ⟨rfl, hb⟩
  have H5 := Lib.hid (H4.out.on hb)
  clear hb H4
  go_wp2_with fail
  refine (of_rng _ (1114112) 269549567 (-1) (by decide +kernel) (by omega) (by omega) H5.out.1).mono ?_
  rintro e w6 ⟨rfl, hb⟩
  have H6 := Lib.hid (H5.out.on hb)
  clear hb H5
  go_wp2_with fail
  refine (of_rng _ (-65536) (-1) (-1) (by decide +kernel) (by omega) (by omega) H6.out.1).mono ?_
  rintro e w7 ⟨rfl, hb⟩
  have H7 := Lib.hid (H6.out.on hb)
  clear hb H6
  go_wp2_with fail
  refine (of_rng _ (55296) 57343 (-1) (by decide +kernel) (by omega) (by omega) H7.out.1).mono ?_
  rintro e w8 ⟨rfl, hb⟩
  have H8 := Lib.hid (H7.out.on hb)
  clear hb H7
  go_wp2_with fail
  refine (of_rng _ (32) 126 (1) (by decide +kernel) (by omega) (by omega) H8.out.1).mono ?_
  rintro e w9 ⟨rfl, hb⟩
  have H9 := Lib.hid (H8.out.on hb)
  clear hb H8
  go_wp2_with fail
  refine (of_rng _ (768) 879 (0) (by decide +kernel) (by omega) (by omega) H9.out.1).mono ?_
  rintro e w10 ⟨rfl, hb⟩
  have H10 := Lib.hid (H9.out.on hb)
  clear hb H9
  go_wp2_with fail
  refine (of_rng _ (131072) 196605 (2) (by decide +kernel) (by omega) (by omega) H10.out.1).mono ?_
  rintro e w11 ⟨rfl, hb⟩
  have H11 := Lib.hid (H10.out.on hb)
  clear hb H10
  go_wp2
  go_ret
  exact ⟨rfl, H11.out.2⟩
end Go.Proofs.YtegkoncpoghbfaaDoor.Lab
