/- The project's isWide, of whole rows. -/
import Derived.Test.YthildghpgajgoaaRpSmall
namespace Go.Proofs.Ythildghpgajgoaa.Lab
open Go Go.RowKit
/-- A pair stands there. -/
def wideB (R : Cls) (i : Int) : Bool := decide (0 ≤ i) && decide ((gc R i.toNat).k = 1)
theorem wide_none {R : Cls} {i : Int} (h : i < 0 ∨ (R.length : Int) ≤ i) : wideB R i = false := by
  unfold wideB
  rcases h with h | h
  · rw [decide_eq_false (by omega)]; rfl
  · rw [gc_out (by omega)]
    simp
theorem wide_nat (R : Cls) (p : Nat) : wideB R (p : Int) = decide ((gc R p).k = 1) := by
  unfold wideB
  rw [decide_eq_true (by omega), Int.toNat_natCast, Bool.true_and]
set_option maxHeartbeats 1000000 in
theorem isWide_any (w : World) (v : Value) (R : Cls) (i : Int) (h : RowIn w v R) (hw : Wh R) (hl : R.length ≤ 10000) (hi : -100000 ≤ i ∧ i ≤ 100000) : Calls Try.prog 50 #[v, .int .i64 i] w fun e w' => e = .returned (.bool (wideB R i)) ∧ w = w' := by
  obtain ⟨a, c, rfl⟩ := h.shape
  have HR := Lib.hid h
  have HW := Lib.hid hw
  obtain ⟨n, hn⟩ : ∃ n, n = R.length := ⟨_, rfl⟩
  have HN := Lib.hid hn
  rw [← hn] at HR hl ⊢
  clear h hw hn
  have s1 : IntKind.i64.wrap ((n : Int) - 1) = (n : Int) - 1 := by rw [IntKind.wrap_i64]; omega
  by_cases h0 : i < 0
  · have HE := Lib.hid (show wideB R i = false from wide_none (.inl h0))
    have d0 : decide (0 ≤ i) = false := decide_eq_false (by omega)
    go_enter Try.func50, Try.ntmps50
    go_wp2
    go_ret
    exact ⟨by rw [HE.out]; rfl, rfl⟩
  obtain ⟨p, rfl⟩ : ∃ p : Nat, i = (p : Int) := ⟨i.toNat, by omega⟩
  have d0 : decide ((0 : Int) ≤ (p : Int)) = true := decide_eq_true (by omega)
  by_cases h1 : p + 1 < n
  rotate_left
  · have HE := Lib.hid (show wideB R (p : Int) = false by
      rw [wide_nat]
      refine decide_eq_false fun hk => ?_
      by_cases hp : p < R.length
      · have := ((HW.out p hp).1 hk).1
        have := HN.out
        omega
      · rw [gc_out (by omega)] at hk
        exact absurd hk (by decide))
    have d1 : ¬ (p : Int) < (n : Int) - 1 := by omega
    have d2 : decide ((p : Int) < (n : Int) - 1) = false := decide_eq_false (by omega)
    go_enter Try.func50, Try.ntmps50
    go_wp2
    go_ret
    exact ⟨by rw [HE.out]; rfl, rfl⟩
  have d1 : (p : Int) < (n : Int) - 1 := by omega
  have d2 : p < n := by omega
  have d3 : p + 1 < n := h1
  obtain ⟨g, o, c', e, _, hg, hC⟩ := HR.out.open (by rw [← HN.out]; omega)
  injection e with e1 e2 e3
  subst e1
  clear e2 e3
  obtain ⟨x, hx⟩ : ∃ x, x = gc R p := ⟨_, rfl⟩
  obtain ⟨y, hy⟩ : ∃ y, y = gc R (p + 1) := ⟨_, rfl⟩
  have Cx := hC p (by rw [← HN.out]; exact d2)
  have Cy := hC (p + 1) (by rw [← HN.out]; exact h1)
  rw [← hx] at Cx
  rw [← hy] at Cy
  obtain ⟨_, _, _, x3, _⟩ := Cx
  obtain ⟨_, _, _, y3, _⟩ := Cy
  have s2 : IntKind.i64.wrap ((p : Int) + 1) = ((p + 1 : Nat) : Int) := by rw [IntKind.wrap_i64]; omega
  by_cases hk : x.k = 1
  · have k1 : (x.k == 1) = true := by simp [hk]
    have k2 : (y.k == 2) = true := by
      have := ((HW.out p (by rw [← HN.out]; exact d2)).1 (by rw [← hx]; exact hk)).2.1
      rw [← hy] at this
      simp [this]
    have HE := Lib.hid (show wideB R (p : Int) = true by rw [wide_nat, ← hx]; exact decide_eq_true hk)
    clear hk hx hy hC h1
    go_enter Try.func50, Try.ntmps50
    go_wp2
    go_ret
    exact ⟨by rw [HE.out]; rfl, rfl⟩
  · have k1 : (x.k == 1) = false := by simp [hk]
    have HE := Lib.hid (show wideB R (p : Int) = false by rw [wide_nat, ← hx]; exact decide_eq_false hk)
    clear hk hx hy hC h1
    go_enter Try.func50, Try.ntmps50
    go_wp2
    go_ret
    exact ⟨by rw [HE.out]; rfl, rfl⟩
end Go.Proofs.Ythildghpgajgoaa.Lab
