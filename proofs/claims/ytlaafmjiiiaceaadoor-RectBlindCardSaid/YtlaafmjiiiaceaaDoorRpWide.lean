/- The project's rightOf, Blank. The reference's Blank. The project's isWide, of whole rows. -/
import Derived.Test.YtlaafmjiiiaceaaDoorRpSmall
import Derived.Test.YtlaafmjiiiaceaaDoorRoDra
namespace Go.Proofs.YtlaafmjiiiaceaaDoor.Lab
open Go Go.RowKit

set_option maxHeartbeats 4000000 in
theorem rightOf_any (w : World) (c : Cel) : Calls Tryd.prog 54 #[celV c] w fun e w' => e = .returned (celV (rightC c)) ∧ Below w.heap.size w w' := by
  obtain ⟨w0, hw0⟩ : ∃ w0, w0 = (w.alloc (.cells #[.int .i32 c.ru, .int .i32 c.m0, .int .i32 c.m1, .int .u8 c.k, .int .u8 c.a.fg.k, .int .u8 c.a.fg.r, .int .u8 c.a.fg.g, .int .u8 c.a.fg.b, .int .u8 c.a.bg.k, .int .u8 c.a.bg.r, .int .u8 c.a.bg.g, .int .u8 c.a.bg.b, .int .u16 (c.a.fl : Nat), .int .u8 c.l] 62)).alloc (.cells #[.int .i32 0, .int .i32 0, .int .i32 0, .int .u8 0, .int .u8 0, .int .u8 0, .int .u8 0, .int .u8 0, .int .u8 0, .int .u8 0, .int .u8 0, .int .u8 0, .int .u16 0, .int .u8 0] 62) := ⟨_, rfl⟩
  have b0 : Below w.heap.size w w0 := by rw [hw0]; exact ((Below.refl _ _).alloc (Nat.le_refl _) _).alloc (by simp) _
  have HA := Lib.hid (show BAt w0 w.heap.size c by rw [hw0]; exact (BAt.newAt w _ rfl c _).past _)
  obtain ⟨z, hz⟩ : ∃ z, z = w.heap.size + 1 := ⟨_, rfl⟩
  obtain ⟨b, hb⟩ : ∃ b, b = w.heap.size := ⟨_, rfl⟩
  have HZ := Lib.hid (show BAt w0 z Cel.z by rw [hw0, hz]; exact BAt.newAt _ _ (by simp) Cel.z _)
  have HNE := Lib.hid (show w.heap.size ≤ b ∧ w.heap.size ≤ z ∧ b ≠ z by omega)
  rw [← hb] at HA
  have HB := Lib.hid b0
  clear b0
  go_enter Tryd.func54, Tryd.ntmps54
  go_upto_region 1 with (fail)
  rw [← hw0, ← hz, ← hb]
  clear hw0 hz hb
  obtain ⟨_, ⟨y0, y1, y2, y3, y4, y5, y6, y7, y8, y9, y10, y11, y12, y13⟩, _⟩ := HA.out
  go_wp2_with fail
  refine (half_any _ c).mono ?_
  rintro e w1 ⟨rfl, bb⟩
  have HA1 := Lib.hid (HA.out.below bb)
  have HZ1 := Lib.hid (HZ.out.below bb)
  have HB1 := Lib.hid (HB.out.trans (bb.mono HB.out.size))
  clear bb HA HZ HB y0 y1 y2 y3 y4 y5 y6 y7 y8 y9 y10 y11 y12 y13
  obtain ⟨d, hd⟩ : ∃ d, d = c.bare := ⟨_, rfl⟩
  have HD := Lib.hid hd
  obtain ⟨w2, hw2⟩ : ∃ w2, w2 = put14 w1 b 0 d := ⟨_, rfl⟩
  have HA2 := Lib.hid (show BAt w2 b d by rw [hw2]; exact HA1.out.put d)
  have HZ2 := Lib.hid (show BAt w2 z Cel.z by rw [hw2]; exact HZ1.out.but (put14_but w1 b 0 d) (fun e => HNE.out.2.2 e.symm))
  have HB2 := Lib.hid (show Below w.heap.size w w2 by rw [hw2]; exact HB1.out.trans ((put14_but w1 b 0 d).below (C := w.heap.size) HNE.out.1 HB1.out.size))
  simp only [put14, Nat.zero_add] at hw2
  obtain ⟨_, ⟨y0, y1, y2, y3, y4, y5, y6, y7, y8, y9, y10, y11, y12, y13⟩, yf⟩ := HA1.out
  rw [← hd]
  clear hd
  go_upto_region 2 with (fail)
  rw [← hw2]
  clear hw2 y0 y1 y2 y3 y4 y5 y6 y7 y8 y9 y10 y11 y12 y13 yf HA1 HZ1 HB1
  obtain ⟨x, hx⟩ : ∃ x, x = rightC c := ⟨_, rfl⟩
  obtain ⟨w3, hw3⟩ : ∃ w3, w3 = w2.setCell ⟨b, 3, none⟩ (.int .u8 2) := ⟨_, rfl⟩
  have bt3 : But b w2 w3 := by rw [hw3]; exact But.set _ _ _ _
  have HA3 := Lib.hid (show BAt w3 b x by
    obtain ⟨h0, ⟨a0, a1, a2, a3, a4, a5, a6, a7, a8, a9, a10, a11, a12, a13⟩, hf⟩ := HA2.out
    rw [HD.out] at a0 a1 a2 a3 a4 a5 a6 a7 a8 a9 a10 a11 a12 a13
    rw [hw3, hx]
    refine ⟨by simpa using h0, ⟨?_, ?_, ?_, ?_, ?_, ?_, ?_, ?_, ?_, ?_, ?_, ?_, ?_, ?_⟩, fun i => by simpa using hf i⟩
    all_goals first | (rw [World.cell?_setCell_other _ _ _ _ (by simp)]; assumption) | exact World.cell?_setCell_same _ _ _ a3)
  have HZ3 := Lib.hid (HZ2.out.but bt3 (fun e => HNE.out.2.2 e.symm))
  have HB3 := Lib.hid (HB2.out.trans (bt3.below (C := w.heap.size) HNE.out.1 HB2.out.size))
  have y3 := HA2.out.2.1.2.2.2.1
  have yf := HA2.out.2.2
  go_upto_region 3 with (fail)
  rw [← hw3]
  clear hw3 bt3 y3 yf HA2 HZ2 HB2
  obtain ⟨_, ⟨y0, y1, y2, y3, y4, y5, y6, y7, y8, y9, y10, y11, y12, y13⟩, _⟩ := HA3.out
  obtain ⟨_, ⟨z0, z1, z2, z3, z4, z5, z6, z7, z8, z9, z10, z11, z12, z13⟩, zf⟩ := HZ3.out
  dsimp only at z0 z1 z2 z3 z4 z5 z6 z7 z8 z9 z10 z11 z12 z13
  have hbz : b ≠ z := HNE.out.2.2
  have hzb : z ≠ b := fun e => hbz e.symm
  obtain ⟨w4, hw4⟩ : ∃ w4, w4 = put14 w3 z 0 x := ⟨_, rfl⟩
  have Z := Lib.hid (show BAt w4 z x by rw [hw4]; exact HZ3.out.put x)
  have HB4 := Lib.hid (show Below w.heap.size w w4 by rw [hw4]; exact HB3.out.trans ((put14_but w3 z 0 x).below (C := w.heap.size) HNE.out.2.1 HB3.out.size))
  simp only [put14, Nat.zero_add] at hw4
  have HX := Lib.hid hx
  clear hx HA3 HZ3 HB3
  go_wp2
  rw [← hw4]
  clear hw4 y0 y1 y2 y3 y4 y5 y6 y7 y8 y9 y10 y11 y12 y13 z0 z1 z2 z3 z4 z5 z6 z7 z8 z9 z10 z11 z12 z13 zf
  obtain ⟨_, ⟨k0, k1, k2, k3, k4, k5, k6, k7, k8, k9, k10, k11, k12, k13⟩, _⟩ := Z.out
  rw [← HX.out]
  exact bodyPost_ret (v := celV x) (by simp [results, Tryd.results54, go_sem, k0, k1, k2, k3, k4, k5, k6, k7, k8, k9, k10, k11, k12, k13]) rfl ⟨rfl, HB4.out⟩

/-- A pair stands there. -/
def wideB (R : Cls) (i : Int) : Bool := decide (0 ≤ i) && decide ((gc R i.toNat).k = 1)
theorem wide_none {R : Cls} {i : Int} (h : i < 0 ∨ (R.length : Int) ≤ i) : wideB R i = false := by
  unfold wideB
  rcases h with h | h
  · rw [decide_eq_false (by omega)]; rfl
  · rw [gc_out (by omega)]
    simp
theorem wide_nat (R : Cls) (p : Nat) : wideB R (p : Int) = decide ((gc R p).k = 1) := by
  unfold wideB
  rw [decide_eq_true (by omega), Int.toNat_natCast, Bool.true_and]
set_option maxHeartbeats 1000000 in
theorem isWide_any (w : World) (v : Value) (R : Cls) (i : Int) (h : RowIn w v R) (hw : Wh R) (hl : R.length ≤ 10000) (hi : -100000 ≤ i ∧ i ≤ 100000) : Calls Tryd.prog 80 #[v, .int .i64 i] w fun e w' => e = .returned (.bool (wideB R i)) ∧ w = w' := by
  obtain ⟨a, c, rfl⟩ := h.shape
  have HR := Lib.hid h
  have HW := Lib.hid hw
  obtain ⟨n, hn⟩ : ∃ n, n = R.length := ⟨_, rfl⟩
  have HN := Lib.hid hn
  rw [← hn] at HR hl ⊢
  clear h hw hn
  have s1 : IntKind.i64.wrap ((n : Int) - 1) = (n : Int) - 1 := by rw [IntKind.wrap_i64]; omega
  by_cases h0 : i < 0
  · have HE := Lib.hid (show wideB R i = false from wide_none (.inl h0))
    have d0 : decide (0 ≤ i) = false := decide_eq_false (by omega)
    go_enter Tryd.func80, Tryd.ntmps80
    go_wp2
    go_ret
    exact ⟨by rw [HE.out]; rfl, rfl⟩
  obtain ⟨p, rfl⟩ : ∃ p : Nat, i = (p : Int) := ⟨i.toNat, by omega⟩
  have d0 : decide ((0 : Int) ≤ (p : Int)) = true := decide_eq_true (by omega)
  by_cases h1 : p + 1 < n
  rotate_left
  · have HE := Lib.hid (show wideB R (p : Int) = false by
      rw [wide_nat]
      refine decide_eq_false fun hk => ?_
      by_cases hp : p < R.length
      · have := ((HW.out p hp).1 hk).1
        have := HN.out
        omega
      · rw [gc_out (by omega)] at hk
        exact absurd hk (by decide))
    have d1 : ¬ (p : Int) < (n : Int) - 1 := by omega
    have d2 : decide ((p : Int) < (n : Int) - 1) = false := decide_eq_false (by omega)
    go_enter Tryd.func80, Tryd.ntmps80
    go_wp2
    go_ret
    exact ⟨by rw [HE.out]; rfl, rfl⟩
  have d1 : (p : Int) < (n : Int) - 1 := by omega
  have d2 : p < n := by omega
  have d3 : p + 1 < n := h1
  obtain ⟨g, o, c', e, _, hg, hC⟩ := HR.out.open (by rw [← HN.out]; omega)
  injection e with e1 e2 e3
  subst e1
  clear e2 e3
  obtain ⟨x, hx⟩ : ∃ x, x = gc R p := ⟨_, rfl⟩
  obtain ⟨y, hy⟩ : ∃ y, y = gc R (p + 1) := ⟨_, rfl⟩
  have Cx := hC p (by rw [← HN.out]; exact d2)
  have Cy := hC (p + 1) (by rw [← HN.out]; exact h1)
  rw [← hx] at Cx
  rw [← hy] at Cy
  obtain ⟨_, _, _, x3, _⟩ := Cx
  obtain ⟨_, _, _, y3, _⟩ := Cy
  have s2 : IntKind.i64.wrap ((p : Int) + 1) = ((p + 1 : Nat) : Int) := by rw [IntKind.wrap_i64]; omega
  by_cases hk : x.k = 1
  · have k1 : (x.k == 1) = true := by simp [hk]
    have k2 : (y.k == 2) = true := by
      have := ((HW.out p (by rw [← HN.out]; exact d2)).1 (by rw [← hx]; exact hk)).2.1
      rw [← hy] at this
      simp [this]
    have HE := Lib.hid (show wideB R (p : Int) = true by rw [wide_nat, ← hx]; exact decide_eq_true hk)
    clear hk hx hy hC h1
    go_enter Tryd.func80, Tryd.ntmps80
    go_wp2
    go_ret
    exact ⟨by rw [HE.out]; rfl, rfl⟩
  · have k1 : (x.k == 1) = false := by simp [hk]
    have HE := Lib.hid (show wideB R (p : Int) = false by rw [wide_nat, ← hx]; exact decide_eq_false hk)
    clear hk hx hy hC h1
    go_enter Tryd.func80, Tryd.ntmps80
    go_wp2
    go_ret
    exact ⟨by rw [HE.out]; rfl, rfl⟩
end Go.Proofs.YtlaafmjiiiaceaaDoor.Lab
