/- The reference's Break, of whole rows. -/
import Derived.Test.YtnefamgjlhdffaaRoRef
namespace Go.Proofs.Ytnefamgjlhdffaa.Lab
open Go Go.RowKit

theorem brk_two {R : Cls} {q : Nat} (hq : q + 1 < R.length) (h1 : (gc R q).k = 1) (h2 : (gc R (q + 1)).k = 2) : (R.set q (gc R q).bare).set (q + 1) (gc R (q + 1)).bare = brk R (q + 1) := by
  refine ext_gc (by simp [len_brk]) fun i hi => ?_
  have hi' : i < R.length := by simpa using hi
  rw [gc_set (by rw [List.length_set]; exact hi'), gc_set hi', gc_brk hi']
  by_cases e1 : i = q + 1
  · subst e1
    unfold brkC
    rw [if_pos rfl, if_pos (.inr ⟨rfl, h2⟩)]
  · rw [if_neg e1]
    by_cases e2 : i = q
    · subst e2
      unfold brkC
      rw [if_pos rfl, if_pos (.inl ⟨rfl, h1⟩)]
    · rw [if_neg e2, brkC_off (by omega) e1]
set_option maxHeartbeats 8000000 in
set_option maxRecDepth 100000 in
theorem rbreak_any (w : World) (v : Value) (R : Cls) (at1 : Int) (h : RowIn w v R) (hw : Wh R) (hl : R.length ≤ 10000) : Calls Try.prog 66 #[v, .int .i64 at1] w (OwnOut w (breakM R at1)) := by
  obtain ⟨a, c, rfl⟩ := h.shape
  have HR := Lib.hid h
  have HW := Lib.hid hw
  obtain ⟨n, hn⟩ : ∃ n, n = R.length := ⟨_, rfl⟩
  have HN := Lib.hid hn
  obtain ⟨p, hp⟩ : ∃ p, p = inN at1 R.length := ⟨_, rfl⟩
  have hpn : p ≤ n := by rw [hp, hn]; exact inN_le _ _
  have HM := Lib.hid (show breakM R at1 = brk R p by rw [hp]; rfl)
  have C1 := Lib.hid (rown_any w _ R h hl)
  have C2 := Lib.hid (show ∀ W, Calls Try.prog 73 #[.int .i64 at1, .int .i64 0, .int .i64 (n : Nat)] W fun e w' => e = .returned (.int .i64 (p : Nat)) ∧ W = w' from fun W => by have := rwithin_any W at1 R.length; rw [← hp, ← hn] at this; exact this)
  rw [← hn] at C1 HR hl ⊢
  clear h hw hn hp
  go_enter Try.func66, Try.ntmps66
  go_wp2_with fail
  refine C1.out.mono ?_
  rintro e w1 ⟨u, rfl, R1, hnil, b1⟩
  obtain ⟨ua, uc, rfl⟩ := R1.shape
  rw [← HN.out] at R1 hnil ⊢
  have HO := Lib.hid R1
  have HV := Lib.hid hnil
  have HB := Lib.hid b1
  clear R1 hnil b1 C1
  go_wp2_with fail
  refine (C2.out _).mono ?_
  rintro e w2 ⟨rfl, rfl⟩
  clear C2
  by_cases h0 : p = 0
  · subst h0
    have d1 : ¬ (0 : Int) < 0 := by decide
    have HE := Lib.hid (show breakM R at1 = R by rw [HM.out]; exact brk_clean HW.out (Cln.zero R))
    go_wp2
    go_ret
    exact ⟨_, rfl, by rw [HE.out]; exact HO.out, HV.out, HB.out⟩
  have d0 : (0 : Int) < (p : Int) := by omega
  by_cases h1 : p = n
  · subst h1
    have d1 : ¬ p < p := Nat.lt_irrefl p
    have HE := Lib.hid (show breakM R at1 = R by rw [HM.out]; exact brk_clean HW.out (HW.out.end (by rw [← HN.out]; exact Nat.le_refl _)))
    go_wp2
    go_ret
    exact ⟨_, rfl, by rw [HE.out]; exact HO.out, HV.out, HB.out⟩
  have d1 : p < n := by omega
  obtain ⟨q, hq⟩ : ∃ q, p = q + 1 := ⟨p - 1, by omega⟩
  have HQ := Lib.hid hq
  have s1 : IntKind.i64.wrap ((p : Int) - 1) = (q : Int) := by rw [IntKind.wrap_i64]; omega
  have hqn : q < n := by omega
  obtain ⟨g, o, c', e, _, hg, hC⟩ := HR.out.open (by rw [← HN.out]; omega)
  injection e with e1 e2 e3
  subst e1
  clear e2 e3 hq h0 h1
  have HCq := Lib.hid ((hC q (by rw [← HN.out]; exact hqn)).same (HB.out.block g hg))
  have HCp := Lib.hid ((hC p (by rw [← HN.out]; exact d1)).same (HB.out.block g hg))
  have HG := Lib.hid hg
  obtain ⟨cq, hcq⟩ : ∃ c, c = gc R q := ⟨_, rfl⟩
  obtain ⟨cp, hcp⟩ : ∃ c, c = gc R p := ⟨_, rfl⟩
  have HEq := Lib.hid hcq
  have HEp := Lib.hid hcp
  rw [← hcq] at HCq
  rw [← hcp] at HCp
  clear hC hg hcq hcp HR
  by_cases hk : cq.k = 1
  rotate_left
  · have k1 : (cq.k == 1) = false := by simp [hk]
    have HCL := Lib.hid (show Cln R p from fun i hi hk' => hk (by rw [HEq.out, ← hk']; congr 2; have := HQ.out; omega))
    have a3 := HCq.out.2.2.2.1
    clear hk
    have HE := Lib.hid (show breakM R at1 = R by rw [HM.out]; exact brk_clean HW.out (HCL.out))
    go_wp2
    go_ret
    exact ⟨_, rfl, by rw [HE.out]; exact HO.out, HV.out, HB.out⟩
  have HK := Lib.hid hk
  have k1 : (cq.k == 1) = true := by simp [hk]
  have hk2 : cp.k = 2 := by
    have hu := ((HW.out q (by rw [← HN.out]; exact hqn)).1 (by rw [← HEq.out]; exact hk)).2.1
    rw [HEp.out, HQ.out]
    exact hu
  have k2 : (cp.k == 2) = true := by simp [hk2]
  have HK2 := Lib.hid hk2
  clear hk hk2
  obtain ⟨g2, c2, e, hgl, hg2⟩ := HO.out.here (by rw [← HN.out]; omega)
  injection e with e1 e2 e3
  subst e1
  clear e2 e3
  obtain ⟨bq, hbq⟩ : ∃ b, b = cq.bare := ⟨_, rfl⟩
  obtain ⟨bp, hbp⟩ : ∃ b, b = cp.bare := ⟨_, rfl⟩
  have CB := Lib.hid (show ∀ W, Calls Try.prog 74 #[celV cq] W fun e w' => e = .returned (celV bq) ∧ Below W.heap.size W w' from fun W => by rw [hbq]; exact rbare_any W cq)
  have CP := Lib.hid (show ∀ W, Calls Try.prog 74 #[celV cp] W fun e w' => e = .returned (celV bp) ∧ Below W.heap.size W w' from fun W => by rw [hbp]; exact rbare_any W cp)
  have HBQ := Lib.hid hbq
  have HBP := Lib.hid hbp
  have HGL := Lib.hid (show w.heap.size ≤ g2 from hgl)
  have HGW := Lib.hid (show g < w1.heap.size from Nat.lt_of_lt_of_le HG.out HB.out.size)
  clear hbq hbp hgl hg2
  have hqa := HCq.out
  obtain ⟨a0, a1, a2, a3, a4, a5, a6, a7, a8, a9, a10, a11, a12, a13⟩ := hqa
  have p3 := HCp.out.2.2.2.1
  go_wp2_with fail
  refine (CB.out _).mono ?_
  rintro e w3 ⟨rfl, bb⟩
  have HO3 := Lib.hid (HO.out.below bb)
  have HB3 := Lib.hid (HB.out.trans (bb.mono HB.out.size))
  have HP3 := Lib.hid (HCp.out.same (bb.block g HGW.out))
  have HG3 := Lib.hid (Nat.lt_of_lt_of_le HGW.out bb.size)
  clear bb CB HO HB HCp HCq HGW a0 a1 a2 a3 a4 a5 a6 a7 a8 a9 a10 a11 a12 a13 p3
  obtain ⟨w4, hw4⟩ : ∃ w4, w4 = put14 w3 g2 (q * 14) bq := ⟨_, rfl⟩
  have hqL : q < R.length := by rw [← HN.out]; exact hqn
  have HO4 := Lib.hid (show CRow w4 w.heap.size (.slice (some ⟨g2, 0, none⟩) n uc) (R.set q bq) by rw [hw4]; exact HO3.out.put HN.out hqL bq)
  have HB4 := Lib.hid (show Below w.heap.size w w4 by rw [hw4]; exact HB3.out.trans ((put14_but w3 g2 (q * 14) bq).below (C := w.heap.size) HGL.out HB3.out.size))
  have HF := fun j => HO3.out.frozen HN.out j
  have hat := HO3.out.at hqL
  obtain ⟨b0, b1, b2, b3, b4, b5, b6, b7, b8, b9, b10, b11, b12, b13⟩ := hat
  have HWE := Lib.hid hw4
  simp only [put14] at hw4
  have HP4 := Lib.hid (show C14 w4 g (o + p * 14) cp from HP3.out.same (by rw [HWE.out]; exact (put14_but w3 g2 (q * 14) bq).block g HG3.out (by simp; have := HG.out; have := HGL.out; omega)))
  go_upto_region 5 with (fail)
  rw [← hw4]
  clear hw4 HF b0 b1 b2 b3 b4 b5 b6 b7 b8 b9 b10 b11 b12 b13 HO3 HB3 HP3 HG3 s1
  have hpa := HP4.out
  obtain ⟨a0, a1, a2, a3, a4, a5, a6, a7, a8, a9, a10, a11, a12, a13⟩ := hpa
  go_wp2_with fail
  refine (CP.out _).mono ?_
  rintro e w5 ⟨rfl, bb⟩
  have HO5 := Lib.hid (HO4.out.below bb)
  have HB5 := Lib.hid (HB4.out.trans (bb.mono HB4.out.size))
  clear bb CP HO4 HB4 HP4 a0 a1 a2 a3 a4 a5 a6 a7 a8 a9 a10 a11 a12 a13
  obtain ⟨w6, hw6⟩ : ∃ w6, w6 = put14 w5 g2 (p * 14) bp := ⟨_, rfl⟩
  have hpL : p < (R.set q bq).length := by rw [List.length_set, ← HN.out]; exact d1
  have hnS : n = (R.set q bq).length := by rw [List.length_set]; exact HN.out
  have HO6 := Lib.hid (show CRow w6 w.heap.size (.slice (some ⟨g2, 0, none⟩) n uc) ((R.set q bq).set p bp) by rw [hw6]; exact HO5.out.put hnS hpL bp)
  have HB6 := Lib.hid (show Below w.heap.size w w6 by rw [hw6]; exact HB5.out.trans ((put14_but w5 g2 (p * 14) bp).below (C := w.heap.size) HGL.out HB5.out.size))
  have HF := fun j => HO5.out.frozen hnS j
  have hat := HO5.out.at hpL
  obtain ⟨b0, b1, b2, b3, b4, b5, b6, b7, b8, b9, b10, b11, b12, b13⟩ := hat
  simp only [put14] at hw6
  have HE := Lib.hid (show breakM R at1 = (R.set q bq).set p bp by
    rw [HM.out, HBQ.out, HBP.out, HEq.out, HEp.out, HQ.out]
    exact (brk_two (by rw [← HN.out, ← HQ.out]; exact d1) (by rw [← HEq.out]; exact HK.out) (by rw [← HQ.out, ← HEp.out]; exact HK2.out)).symm)
  clear hpL hnS hqL
  go_wp2
  rw [← hw6]
  clear hw6 HF b0 b1 b2 b3 b4 b5 b6 b7 b8 b9 b10 b11 b12 b13
  go_ret
  exact ⟨_, rfl, by rw [HE.out]; exact HO6.out, HV.out, HB6.out⟩
end Go.Proofs.Ytnefamgjlhdffaa.Lab
