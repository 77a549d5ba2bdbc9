/- The project's Put. -/
import Derived.Test.YthildghpgajgoaaRpCel
import Derived.Test.YthildghpgajgoaaRpOut
namespace Go.Proofs.Ythildghpgajgoaa.Lab
open Go Go.RowKit

/-- Put, its place brought within. -/
def putP (R : Cls) (i : Int) (c : Cel) (wide : Bool) : Cls := putM R (inN i R.length : Nat) c wide
theorem takes_len (c : Cel) (wide : Bool) : (takesM c wide).length = if wide = true then 2 else 1 := by cases wide <;> rfl
theorem put_place {R : Cls} {p : Nat} (c : Cel) (wide : Bool) (h : p + (takesM c wide).length ≤ R.length) : putM R (p : Nat) c wide = place (brk (brk R p) (p + (takesM c wide).length)) p (takesM c wide) := by
  have hl : p + (takesM c wide).length ≤ (brk (brk R p) (p + (takesM c wide).length)).length := by rw [len_brk, len_brk]; exact h
  refine ext_gc (by rw [len_put, len_place hl, len_brk, len_brk]) fun i hi => ?_
  rw [len_put] at hi
  rw [gc_place hl, gc_put wide rfl c (by rw [takes_len] at h; exact h) hi]
  cases wide
  · simp only [takesM, Bool.false_eq_true, if_false, List.length_cons, List.length_nil, Nat.zero_add]
    by_cases e : i = p
    · rw [if_pos e, if_pos (by omega), e, Nat.sub_self]
      rfl
    · rw [if_neg e, if_neg (by simp), if_neg (by omega), gc_brk (by rw [len_brk]; exact hi), gc_brk hi]
  · simp only [takesM, if_true, List.length_cons, List.length_nil, Nat.zero_add]
    by_cases e : i = p
    · rw [if_pos e, if_pos (by omega), e, Nat.sub_self]
      rfl
    · rw [if_neg e]
      by_cases e2 : i = p + 1
      · rw [if_pos ⟨trivial, e2⟩, if_pos (by omega), e2, Nat.add_sub_cancel_left]
        rfl
      · rw [if_neg (by simp; omega), if_neg (by omega), gc_brk (by rw [len_brk]; exact hi), gc_brk hi]
theorem put_not {R : Cls} {p : Nat} (c : Cel) (wide : Bool) (h : ¬ p + (takesM c wide).length ≤ R.length) : putM R (p : Nat) c wide = R := by
  rw [takes_len] at h
  cases wide
  · rw [put_one, if_pos (.inr (by simp at h; omega))]
  · rw [put_wide, if_pos (.inr (by simp at h; omega))]
set_option maxHeartbeats 8000000 in
set_option maxRecDepth 100000 in
theorem put_any (w : World) (v : Value) (R : Cls) (i : Int) (c : Cel) (wide : Bool) (h : RowIn w v R) (hw : Wh R) (hl : R.length ≤ 1000) : Calls Try.prog 26 #[v, .int .i64 i, celV c, .bool wide] w (OwnRes w (putP R i c wide)) := by
  obtain ⟨a, cp, rfl⟩ := h.shape
  have HW := Lib.hid hw
  obtain ⟨N, hN⟩ : ∃ N, N = R.length := ⟨_, rfl⟩
  have HN := Lib.hid hN
  obtain ⟨w0, hw0⟩ : ∃ x, x = w.alloc (.cells #[.int .i32 c.ru, .int .i32 c.m0, .int .i32 c.m1, .int .u8 c.k, .int .u8 c.a.fg.k, .int .u8 c.a.fg.r, .int .u8 c.a.fg.g, .int .u8 c.a.fg.b, .int .u8 c.a.bg.k, .int .u8 c.a.bg.r, .int .u8 c.a.bg.g, .int .u8 c.a.bg.b, .int .u16 (c.a.fl : Nat), .int .u8 c.l] 44) := ⟨_, rfl⟩
  obtain ⟨z, hz⟩ : ∃ x, x = w.heap.size := ⟨_, rfl⟩
  have b0 : Below w.heap.size w w0 := by rw [hw0]; exact (Below.refl _ _).alloc (Nat.le_refl _) _
  have HA0 := Lib.hid (show BAt w0 z c by rw [hw0, hz]; exact BAt.newAt w _ rfl c _)
  have HB0 := Lib.hid b0
  have HR0 := Lib.hid (h.below b0)
  rw [← hN] at HR0 hl ⊢
  obtain ⟨p, hp⟩ : ∃ p, p = inN i N := ⟨_, rfl⟩
  have hpN : p ≤ N := by rw [hp]; exact inN_le _ _
  have HPM := Lib.hid (show putP R i c wide = putM R (p : Nat) c wide by unfold putP; rw [← hN, ← hp])
  have CW1 := Lib.hid (show ∀ W, Calls Try.prog 33 #[.int .i64 i, .int .i64 (N : Nat)] W fun e w' => e = .returned (.int .i64 (p : Nat)) ∧ W = w' from fun W => by rw [hp]; exact within_any W i N)
  obtain ⟨T, hT⟩ : ∃ T, T = takesM c wide := ⟨_, rfl⟩
  have HT := Lib.hid hT
  have CC := Lib.hid (show ∀ W, Calls Try.prog 46 #[celV c, .bool wide] W (NewRow W T) from fun W => by rw [hT]; exact cells_any W c wide)
  obtain ⟨m, hm⟩ : ∃ m, m = T.length := ⟨_, rfl⟩
  have HM := Lib.hid hm
  have hm2 : m ≤ 2 := by rw [hm, hT, takes_len]; split <;> omega
  obtain ⟨d, hd⟩ : ∃ d, d = N - p := ⟨_, rfl⟩
  have s1 : IntKind.i64.wrap ((N : Int) - (p : Int)) = (d : Int) := by rw [IntKind.wrap_i64]; omega
  have HD := Lib.hid hd
  clear h hw hN b0 hp hT hm hd
  go_enter Try.func26, Try.ntmps26
  go_upto_region 1 with (fail)
  rw [← hw0, ← hz]
  clear hw0 hz
  obtain ⟨_, ⟨y0, y1, y2, y3, y4, y5, y6, y7, y8, y9, y10, y11, y12, y13⟩, _⟩ := HA0.out
  go_wp2_with fail
  refine (CC.out _).mono ?_
  rintro e0 w1 ⟨h, c3, rfl, hc3, own1, hg1, hg2, b1⟩
  rw [← HM.out] at own1 hc3 ⊢
  have HO1 := Lib.hid own1.row
  have HR1 := Lib.hid (HR0.out.below b1)
  have HB1 := Lib.hid (HB0.out.trans (b1.mono HB0.out.size))
  clear own1 hg1 hg2 hc3 b1 HA0 HB0 HR0 CC y0 y1 y2 y3 y4 y5 y6 y7 y8 y9 y10 y11 y12 y13
  go_wp2_with fail
  refine (CW1.out _).mono ?_
  rintro e0 wx ⟨rfl, rfl⟩
  clear CW1
  by_cases hfit : d < m
  · have d1 : (d : Int) < (m : Int) := by omega
    have HE := Lib.hid (show putP R i c wide = R by rw [HPM.out]; exact put_not c wide (by rw [← HT.out, ← HM.out, ← HN.out]; have := HD.out; omega))
    have CN := Lib.hid (anew_any w1 (.slice a N cp) R HR1.out (by rw [← HN.out]; omega))
    go_wp2_with fail
    refine CN.out.mono ?_
    rintro e0 w2 ⟨g, c4, rfl, _, own2, _, _, b2⟩
    rw [← HN.out] at own2 ⊢
    have HO2 := Lib.hid own2
    have HB2 := Lib.hid (HB1.out.trans (b2.mono HB1.out.size))
    have HS1 := Lib.hid HB1.out.size
    clear own2 b2 CN HO1 HR1 HB1
    go_wp2
    go_ret
    exact ⟨_, rfl, by rw [HE.out]; exact HO2.out.lower HS1.out, HB2.out⟩
  have d1 : ¬ (d : Int) < (m : Int) := by omega
  obtain ⟨e, he⟩ : ∃ e, e = p + m := ⟨_, rfl⟩
  have heN : e ≤ N := by have := HD.out; omega
  have s2 : IntKind.i64.wrap ((p : Int) + (m : Int)) = (e : Int) := by rw [IntKind.wrap_i64]; omega
  have HEM := Lib.hid he
  have HPL := Lib.hid (show putP R i c wide = place (brk (brk R p) e) p T by
    rw [HPM.out, put_place c wide (by rw [← HT.out, ← HM.out, ← HN.out, ← he]; exact heN), ← HT.out, ← HM.out, ← he])
  obtain ⟨w2, hw2⟩ : ∃ x, x = w1.alloc (.cells #[.int .i64 (p : Nat), .int .i64 (e : Nat)] 3) := ⟨_, rfl⟩
  obtain ⟨s, hs⟩ : ∃ x, x = w1.heap.size := ⟨_, rfl⟩
  have bb : Below w1.heap.size w1 w2 := by rw [hw2]; exact (Below.refl _ _).alloc (Nat.le_refl _) _
  have HPS := Lib.hid (show PsAt w2 (.slice (some ⟨s, 0, none⟩) 2 2) [((p : Nat) : Int), ((e : Nat) : Int)] from ⟨s, 0, 2, rfl, by simp, by rw [hw2, hs]; simp, fun j hj => by
    rcases (show j = 0 ∨ j = 1 by simp at hj; omega) with rfl | rfl
    · rw [hw2, hs]; simp
    · rw [hw2, hs]; simp, fun j hj => by
    rcases (show j = 0 ∨ j = 1 by simp at hj; omega) with rfl | rfl
    · show (-100000 : Int) < ((p : Nat) : Int) ∧ ((p : Nat) : Int) < 100000
      omega
    · show (-100000 : Int) < ((e : Nat) : Int) ∧ ((e : Nat) : Int) < 100000
      omega⟩)
  have HBL := Lib.hid (show (([(p : Int), (e : Int)]).foldl breakM R).length = N by rw [len_breaks]; exact HN.out.symm)
  have HBE := Lib.hid (show ([(p : Int), (e : Int)]).foldl breakM R = brk (brk R p) e from breaks_two R (by rw [← HN.out]; exact hpN) (by rw [← HN.out]; exact heN))
  have HR2 := Lib.hid (HR1.out.below bb)
  have HO2 := Lib.hid (HO1.out.below bb)
  have HB2 := Lib.hid (HB1.out.trans (bb.mono HB1.out.size))
  have HBK := Lib.hid (break_any w2 (.slice a N cp) R _ [((p : Nat) : Int), ((e : Nat) : Int)] HR2.out HW.out (by rw [← HN.out]; omega) HPS.out)
  clear bb HR1 HO1 HB1 HPS he hfit
  go_wp2_with fail
  rw [← hw2, ← hs]
  clear hw2 hs
  refine HBK.out.mono ?_
  rintro e0 w3 ⟨g, c4, rfl, hc4, own3, hg3, _, b3⟩
  rw [HBL.out] at own3 hc4 ⊢
  have HO3 := Lib.hid own3
  have HT3 := Lib.hid (HO2.out.below b3)
  have HB3 := Lib.hid (HB2.out.trans (b3.mono HB2.out.size))
  have HG := Lib.hid (show w.heap.size ≤ g from Nat.le_trans HB2.out.size hg3)
  have HS2 := Lib.hid HB2.out.size
  obtain ⟨B, hB⟩ : ∃ B, B = ([(p : Int), (e : Int)]).foldl breakM R := ⟨_, rfl⟩
  rw [← hB] at HO3 HBL HBE
  obtain ⟨ad, q, cm, hq, hcm, k2, k2a, _⟩ := cut_from g N c4 p hpN hc4
  have HQ := Lib.hid (show T.length ≤ q by rw [← HM.out]; have := HEM.out; omega)
  have HAD := Lib.hid k2a
  have HFT := Lib.hid (show p + T.length ≤ B.length by rw [HBL.out, ← HM.out]; have := HEM.out; omega)
  clear own3 hc4 hg3 b3 HBK HO2 HB2 HR2 hB hq hcm k2a s1 s2 d1 hpN heN hl
  go_wp2_with (refine wpList_copy_cells rfl (.tmp 36) (.tmp 37) rfl w2.heap.size g N c4 B HO3.out HBL.out.symm (.slice (some ⟨h, 0, none⟩) m c3) T rfl HT3.out p q cm ad rfl HFT.out HQ.out HAD.out ?_)
  intro w4 own4 but4
  have HO4 := Lib.hid (show CRow w4 w.heap.size (.slice (some ⟨g, 0, none⟩) N c4) (putP R i c wide) by rw [HPL.out, ← HBE.out]; exact own4.lower HS2.out)
  have HB4 := Lib.hid (HB3.out.trans (but4.below HG.out HB3.out.size))
  clear own4 but4 HO3 HT3 HB3 k2
  go_wp2
  go_ret
  exact ⟨_, rfl, HO4.out, HB4.out⟩
end Go.Proofs.Ythildghpgajgoaa.Lab
