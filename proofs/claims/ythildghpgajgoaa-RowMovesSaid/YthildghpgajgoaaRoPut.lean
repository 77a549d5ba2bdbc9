/- The reference's Put, where the cell fits. -/
import Derived.Test.YthildghpgajgoaaRoBrk
import Derived.Test.YthildghpgajgoaaRoMove
namespace Go.Proofs.Ythildghpgajgoaa.Lab
open Go Go.RowKit

theorem BAt.kind {w : World} {b : Nat} {c : Cel} (h : BAt w b c) (k : Int) : BAt (w.setCell ⟨b, 3, none⟩ (.int .u8 k)) b { c with k := k } := by
  obtain ⟨h0, ⟨a0, a1, a2, a3, a4, a5, a6, a7, a8, a9, a10, a11, a12, a13⟩, hf⟩ := h
  refine ⟨by simpa using h0, ?_, fun i => by simp [hf i]⟩
  refine ⟨?_, ?_, ?_, ?_, ?_, ?_, ?_, ?_, ?_, ?_, ?_, ?_, ?_, ?_⟩ <;> simp [World.cell?_setCell_other, World.cell?_setCell_same', a0, a1, a2, a3, a4, a5, a6, a7, a8, a9, a10, a11, a12, a13]
set_option maxHeartbeats 8000000 in
set_option maxRecDepth 100000 in
theorem rput_in (w : World) (v : Value) (R : Cls) (p : Nat) (c : Cel) (wide : Bool) (h : RowIn w v R) (hw : Wh R) (hp : p + (if wide then 2 else 1) ≤ R.length) (hl : R.length ≤ 10000) : Calls Try.prog 48 #[v, .int .i64 (p : Nat), celV c, .bool wide] w (OwnOut w (putM R (p : Int) c wide)) := by
  obtain ⟨a, vc, rfl⟩ := h.shape
  obtain ⟨n, hn⟩ : ∃ n, n = R.length := ⟨_, rfl⟩
  have HN := Lib.hid hn
  obtain ⟨w0, hw0⟩ : ∃ w0, w0 = w.alloc (.cells #[.int .i32 c.ru, .int .i32 c.m0, .int .i32 c.m1, .int .u8 c.k, .int .u8 c.a.fg.k, .int .u8 c.a.fg.r, .int .u8 c.a.fg.g, .int .u8 c.a.fg.b, .int .u8 c.a.bg.k, .int .u8 c.a.bg.r, .int .u8 c.a.bg.g, .int .u8 c.a.bg.b, .int .u16 (c.a.fl : Nat), .int .u8 c.l] 44) := ⟨_, rfl⟩
  have b0 : Below w.heap.size w w0 := by rw [hw0]; exact (Below.refl _ _).alloc (Nat.le_refl _) _
  have HA := Lib.hid (show BAt w0 w.heap.size c by rw [hw0]; exact BAt.newAt w _ rfl c _)
  have HB := Lib.hid b0
  have HW := Lib.hid hw
  have C1 := Lib.hid (rbreak_any w0 _ R (p : Int) (h.below b0) hw hl)
  rw [← hn] at C1 hp hl ⊢
  clear h hw b0 hn
  cases wide
  · have hfit : p + 1 ≤ n := hp
    have HFIT := Lib.hid hfit
    obtain ⟨p1, hp1⟩ : ∃ p1, p1 = p + 1 := ⟨_, rfl⟩
    have HP1 := Lib.hid hp1
    have s0 : IntKind.i64.wrap ((p : Int) + 1) = (p1 : Int) := by rw [IntKind.wrap_i64]; omega
    have d1 : ¬ n < p1 := by omega
    have d2 : ¬ (p : Int) < 0 := by omega
    have hpn : p < n := by omega
    clear hp hp1 hfit
    go_enter Try.func48, Try.ntmps48
    go_upto_region 1 with (fail)
    rw [← hw0]
    clear hw0
    go_wp2_with fail
    refine C1.out.mono ?_
    rintro e w1 ⟨u1, rfl, R1, _, b1⟩
    rw [show breakM R (p : Int) = brk R p by unfold breakM; rw [inN_nat (by rw [← HN.out]; omega)]] at R1
    obtain ⟨ua1, uc1, rfl⟩ := R1.shape
    rw [len_brk, ← HN.out] at R1 ⊢
    have C2 := Lib.hid (rbreak_any w1 _ (brk R p) (p1 : Int) R1.row (HW.out.brk p) (by rw [len_brk, ← HN.out]; exact hl))
    have HA1 := Lib.hid (HA.out.below b1)
    have HB1 := Lib.hid (HB.out.trans (b1.mono HB.out.size))
    clear b1 C1 HA HB R1
    go_wp2_with fail
    refine C2.out.mono ?_
    rintro e w2 ⟨u2, rfl, R2, hnil, b2⟩
    rw [show breakM (brk R p) (p1 : Int) = brk (brk R p) p1 by unfold breakM; rw [len_brk, inN_nat (by rw [← HN.out]; omega)]] at R2
    obtain ⟨g, uc, rfl, hgl, _⟩ := R2.here (by rw [len_brk, len_brk, ← HN.out]; omega)
    rw [len_brk, len_brk, ← HN.out] at R2 hnil ⊢
    obtain ⟨Q, hQ⟩ : ∃ Q, Q = brk (brk R p) p1 := ⟨_, rfl⟩
    have HQ := Lib.hid hQ
    rw [← hQ] at R2
    have hQl : n = Q.length := by rw [hQ, len_brk, len_brk]; exact HN.out
    have HQL := Lib.hid hQl
    have HO2 := Lib.hid (R2.lower HB1.out.size)
    have HA2 := Lib.hid (HA1.out.below b2)
    have HB2 := Lib.hid (HB1.out.trans (b2.mono HB1.out.size))
    have HGL := Lib.hid (show w.heap.size < g from Nat.lt_of_lt_of_le HA1.out.1 hgl)
    have HV := Lib.hid hnil
    clear b2 C2 HA1 HB1 R2 hnil hgl hQ hQl s0 d1 d2
    obtain ⟨w3, hw3⟩ : ∃ w3, w3 = w2.setCell ⟨w.heap.size, 3, none⟩ (.int .u8 0) := ⟨_, rfl⟩
    have HA3 := Lib.hid (show BAt w3 w.heap.size { c with k := 0 } by rw [hw3]; exact HA2.out.kind 0)
    have HO3 := Lib.hid (show CRow w3 w.heap.size (.slice (some ⟨g, 0, none⟩) n uc) Q by rw [hw3]; exact ownsRow_setCell_other HO2.out (by simp [Value.ownBlock]; have := HGL.out; omega) _)
    have HB3 := Lib.hid (show Below w.heap.size w w3 by rw [hw3]; exact HB2.out.setCell (Nat.le_refl _) _)
    obtain ⟨_, ⟨a0, a1, a2, a3, a4, a5, a6, a7, a8, a9, a10, a11, a12, a13⟩, af⟩ := HA2.out
    go_upto_region 8 with (fail)
    rw [← hw3]
    clear hw3 HA2 HO2 HB2 a0 a1 a2 a3 a4 a5 a6 a7 a8 a9 a10 a11 a12 a13 af
    obtain ⟨cx, hcx⟩ : ∃ cx, cx = ({ c with k := 0 } : Cel) := ⟨_, rfl⟩
    have HCX := Lib.hid hcx
    have HAX := Lib.hid (show BAt w3 w.heap.size cx by rw [hcx]; exact HA3.out)
    clear hcx
    obtain ⟨wq, hwq⟩ : ∃ wq, wq = put14 w3 g (p * 14) cx := ⟨_, rfl⟩
    have hpL : p < (Q).length := by rw [← HQL.out]; exact hpn
    have HOQ := Lib.hid (show CRow wq w.heap.size (.slice (some ⟨g, 0, none⟩) n uc) ((Q).set p cx) by rw [hwq]; exact HO3.out.put HQL.out hpL cx)
    have HBQ := Lib.hid (show Below w.heap.size w wq by rw [hwq]; exact HB3.out.trans ((put14_but w3 g (p * 14) cx).below (C := w.heap.size) (by have := HGL.out; omega) HB3.out.size))
    have HF := fun j => HO3.out.frozen HQL.out j
    have hat := HO3.out.at hpL
    obtain ⟨b0, b1, b2, b3, b4, b5, b6, b7, b8, b9, b10, b11, b12, b13⟩ := hat
    obtain ⟨_, ⟨a0, a1, a2, a3, a4, a5, a6, a7, a8, a9, a10, a11, a12, a13⟩, _⟩ := HAX.out
    simp only [put14] at hwq
    have HE := Lib.hid (show putM R (p : Int) c false = Q.set p cx from by rw [put_one, if_neg (by rw [← HN.out]; omega), Int.toNat_natCast, HQ.out, HCX.out, HP1.out])
    clear hpL
    go_wp2
    rw [← hwq]
    clear hwq HF b0 b1 b2 b3 b4 b5 b6 b7 b8 b9 b10 b11 b12 b13 a0 a1 a2 a3 a4 a5 a6 a7 a8 a9 a10 a11 a12 a13
    go_ret
    exact ⟨_, rfl, by rw [HE.out]; exact HOQ.out, HV.out, HBQ.out⟩
  · have hfit : p + 2 ≤ n := hp
    have HFIT := Lib.hid hfit
    obtain ⟨p1, hp1⟩ : ∃ p1, p1 = p + 2 := ⟨_, rfl⟩
    have HP1 := Lib.hid hp1
    have s0 : IntKind.i64.wrap ((p : Int) + 2) = (p1 : Int) := by rw [IntKind.wrap_i64]; omega
    have d1 : ¬ n < p1 := by omega
    have d2 : ¬ (p : Int) < 0 := by omega
    have hpn : p < n := by omega
    clear hp hp1 hfit
    go_enter Try.func48, Try.ntmps48
    go_upto_region 1 with (fail)
    rw [← hw0]
    clear hw0
    go_wp2_with fail
    refine C1.out.mono ?_
    rintro e w1 ⟨u1, rfl, R1, _, b1⟩
    rw [show breakM R (p : Int) = brk R p by unfold breakM; rw [inN_nat (by rw [← HN.out]; omega)]] at R1
    obtain ⟨ua1, uc1, rfl⟩ := R1.shape
    rw [len_brk, ← HN.out] at R1 ⊢
    have C2 := Lib.hid (rbreak_any w1 _ (brk R p) (p1 : Int) R1.row (HW.out.brk p) (by rw [len_brk, ← HN.out]; exact hl))
    have HA1 := Lib.hid (HA.out.below b1)
    have HB1 := Lib.hid (HB.out.trans (b1.mono HB.out.size))
    clear b1 C1 HA HB R1
    go_wp2_with fail
    refine C2.out.mono ?_
    rintro e w2 ⟨u2, rfl, R2, hnil, b2⟩
    rw [show breakM (brk R p) (p1 : Int) = brk (brk R p) p1 by unfold breakM; rw [len_brk, inN_nat (by rw [← HN.out]; omega)]] at R2
    obtain ⟨g, uc, rfl, hgl, _⟩ := R2.here (by rw [len_brk, len_brk, ← HN.out]; omega)
    rw [len_brk, len_brk, ← HN.out] at R2 hnil ⊢
    obtain ⟨Q, hQ⟩ : ∃ Q, Q = brk (brk R p) p1 := ⟨_, rfl⟩
    have HQ := Lib.hid hQ
    rw [← hQ] at R2
    have hQl : n = Q.length := by rw [hQ, len_brk, len_brk]; exact HN.out
    have HQL := Lib.hid hQl
    have HO2 := Lib.hid (R2.lower HB1.out.size)
    have HA2 := Lib.hid (HA1.out.below b2)
    have HB2 := Lib.hid (HB1.out.trans (b2.mono HB1.out.size))
    have HGL := Lib.hid (show w.heap.size < g from Nat.lt_of_lt_of_le HA1.out.1 hgl)
    have HV := Lib.hid hnil
    clear b2 C2 HA1 HB1 R2 hnil hgl hQ hQl s0 d1 d2
    obtain ⟨w3, hw3⟩ : ∃ w3, w3 = w2.setCell ⟨w.heap.size, 3, none⟩ (.int .u8 0) := ⟨_, rfl⟩
    have HA3 := Lib.hid (show BAt w3 w.heap.size { c with k := 0 } by rw [hw3]; exact HA2.out.kind 0)
    have HO3 := Lib.hid (show CRow w3 w.heap.size (.slice (some ⟨g, 0, none⟩) n uc) Q by rw [hw3]; exact ownsRow_setCell_other HO2.out (by simp [Value.ownBlock]; have := HGL.out; omega) _)
    have HB3 := Lib.hid (show Below w.heap.size w w3 by rw [hw3]; exact HB2.out.setCell (Nat.le_refl _) _)
    obtain ⟨_, ⟨a0, a1, a2, a3, a4, a5, a6, a7, a8, a9, a10, a11, a12, a13⟩, af⟩ := HA2.out
    go_upto_region 8 with (fail)
    rw [← hw3]
    clear hw3 HA2 HO2 HB2 a0 a1 a2 a3 a4 a5 a6 a7 a8 a9 a10 a11 a12 a13 af
    obtain ⟨w4, hw4⟩ : ∃ w4, w4 = w3.setCell ⟨w.heap.size, 3, none⟩ (.int .u8 1) := ⟨_, rfl⟩
    have HA4 := Lib.hid (show BAt w4 w.heap.size { c with k := 1 } by rw [hw4]; exact HA3.out.kind 1)
    have HO4 := Lib.hid (show CRow w4 w.heap.size (.slice (some ⟨g, 0, none⟩) n uc) Q by rw [hw4]; exact ownsRow_setCell_other HO3.out (by simp [Value.ownBlock]; have := HGL.out; omega) _)
    have HB4 := Lib.hid (show Below w.heap.size w w4 by rw [hw4]; exact HB3.out.setCell (Nat.le_refl _) _)
    obtain ⟨_, ⟨a0, a1, a2, a3, a4, a5, a6, a7, a8, a9, a10, a11, a12, a13⟩, af⟩ := HA3.out
    try dsimp only at a0 a1 a2 a3 a4 a5 a6 a7 a8 a9 a10 a11 a12 a13
    go_upto_region 10 with (fail)
    rw [← hw4]
    clear hw4 HA3 HO3 HB3 a0 a1 a2 a3 a4 a5 a6 a7 a8 a9 a10 a11 a12 a13 af
    obtain ⟨q, hq⟩ : ∃ q, q = p + 1 := ⟨_, rfl⟩
    have HQ1 := Lib.hid hq
    have s0 : IntKind.i64.wrap ((p : Int) + 1) = (q : Int) := by rw [IntKind.wrap_i64]; omega
    have hqn : q < n := by have := HFIT.out; omega
    obtain ⟨w5, hw5⟩ : ∃ w5, w5 = put14 w4 g (q * 14) (rightC c) := ⟨_, rfl⟩
    have hqL : q < Q.length := by rw [← HQL.out]; exact hqn
    have HO5 := Lib.hid (show CRow w5 w.heap.size (.slice (some ⟨g, 0, none⟩) n uc) (Q.set q (rightC c)) by rw [hw5]; exact HO4.out.put HQL.out hqL _)
    have HB5 := Lib.hid (show Below w.heap.size w w5 by rw [hw5]; exact HB4.out.trans ((put14_but w4 g (q * 14) (rightC c)).below (C := w.heap.size) (by have := HGL.out; omega) HB4.out.size))
    have HA5 := Lib.hid (show BAt w5 w.heap.size { c with k := 1 } by rw [hw5]; exact HA4.out.but (put14_but w4 g (q * 14) (rightC c)) (by have := HGL.out; omega))
    have HF := fun j => HO4.out.frozen HQL.out j
    have hat := HO4.out.at hqL
    obtain ⟨b0, b1, b2, b3, b4, b5, b6, b7, b8, b9, b10, b11, b12, b13⟩ := hat
    obtain ⟨_, ⟨a0, a1, a2, a3, a4, a5, a6, a7, a8, a9, a10, a11, a12, a13⟩, _⟩ := HA4.out
    dsimp only at a0 a1 a2 a3 a4 a5 a6 a7 a8 a9 a10 a11 a12 a13
    dsimp only [put14, rightC] at hw5
    clear hqL hq
    go_upto_region 11 with (fail)
    rw [← hw5]
    clear hw5 HF b0 b1 b2 b3 b4 b5 b6 b7 b8 b9 b10 b11 b12 b13 a0 a1 a2 a3 a4 a5 a6 a7 a8 a9 a10 a11 a12 a13 HA4 HO4 HB4 s0
    have hQ5 : n = (Q.set q (rightC c)).length := by rw [List.length_set]; exact HQL.out
    obtain ⟨cx, hcx⟩ : ∃ cx, cx = ({ c with k := 1 } : Cel) := ⟨_, rfl⟩
    have HCX := Lib.hid hcx
    have HAX := Lib.hid (show BAt w5 w.heap.size cx by rw [hcx]; exact HA5.out)
    clear hcx
    obtain ⟨wq, hwq⟩ : ∃ wq, wq = put14 w5 g (p * 14) cx := ⟨_, rfl⟩
    have hpL : p < (Q.set q (rightC c)).length := by rw [← hQ5]; exact hpn
    have HOQ := Lib.hid (show CRow wq w.heap.size (.slice (some ⟨g, 0, none⟩) n uc) ((Q.set q (rightC c)).set p cx) by rw [hwq]; exact HO5.out.put hQ5 hpL cx)
    have HBQ := Lib.hid (show Below w.heap.size w wq by rw [hwq]; exact HB5.out.trans ((put14_but w5 g (p * 14) cx).below (C := w.heap.size) (by have := HGL.out; omega) HB5.out.size))
    have HF := fun j => HO5.out.frozen hQ5 j
    have hat := HO5.out.at hpL
    obtain ⟨b0, b1, b2, b3, b4, b5, b6, b7, b8, b9, b10, b11, b12, b13⟩ := hat
    obtain ⟨_, ⟨a0, a1, a2, a3, a4, a5, a6, a7, a8, a9, a10, a11, a12, a13⟩, _⟩ := HAX.out
    simp only [put14] at hwq
    have HE := Lib.hid (show putM R (p : Int) c true = (Q.set q (rightC c)).set p cx from by rw [put_wide, if_neg (by rw [← HN.out]; have := HFIT.out; omega), Int.toNat_natCast, HQ.out, HCX.out, HP1.out, HQ1.out])
    clear hpL hQ5
    go_wp2
    rw [← hwq]
    clear hwq HF b0 b1 b2 b3 b4 b5 b6 b7 b8 b9 b10 b11 b12 b13 a0 a1 a2 a3 a4 a5 a6 a7 a8 a9 a10 a11 a12 a13
    go_ret
    exact ⟨_, rfl, by rw [HE.out]; exact HOQ.out, HV.out, HBQ.out⟩
end Go.Proofs.Ythildghpgajgoaa.Lab
