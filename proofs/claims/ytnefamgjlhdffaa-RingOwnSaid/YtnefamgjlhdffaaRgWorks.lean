/- The chapter's examples: works. -/
import Derived.Test.YtnefamgjlhdffaaRgMany
set_option linter.unusedVariables false
namespace Go.Proofs.Ytnefamgjlhdffaa.Lab
open Go Go.RowKit

set_option maxHeartbeats 8000000 in
set_option maxRecDepth 100000 in
theorem works_any (w : World) : Calls Try.prog 29 #[] w fun e w' => e = .returned (.bool true) ∧ Below w.heap.size w w' := by
  have HR := Lib.hid (show RsAt w w.heap.size w.heap.size (fun _ => False) [] from RsAt.nil _ _ _ _)
  have HB := Lib.hid (show Below w.heap.size w w from Below.refl _ _)
  have HH := Lib.hid (show w.heap.size ≤ w.heap.size from Nat.le_refl _)
  go_enter Try.func29, Try.ntmps29
  go_wp2_with fail
  refine (rs_new 2 0 HR.out (by decide) HH.out HB.out.size (fun j h => h.elim)).mono ?_
  rintro e w1 ⟨p, rfl, hr, b1⟩
  replace HR := Lib.hid hr
  replace HB := Lib.hid (HB.out.trans (b1.mono HB.out.size))
  replace HH := Lib.hid (Nat.le_refl w1.heap.size)
  replace HR := Lib.hid (HR.out.cast (show _ = ([⟨p, 2, [], 0⟩] : List Rr) from rfl))
  clear hr b1
  go_wp2_with fail
  refine (rs_new 0 0 HR.out (by decide) HH.out HB.out.size (fun j h => h.elim)).mono ?_
  rintro e w2 ⟨q, rfl, hr, b1⟩
  replace HR := Lib.hid hr
  replace HB := Lib.hid (HB.out.trans (b1.mono HB.out.size))
  replace HH := Lib.hid (Nat.le_refl w2.heap.size)
  replace HR := Lib.hid (HR.out.cast (show _ = ([⟨p, 2, [], 0⟩, ⟨q, 0, [], 0⟩] : List Rr) from rfl))
  clear hr b1
  go_wp2_with fail
  refine (line_any w2 97).mono ?_
  rintro e w3 ⟨g2_0, rfl, ow, b1⟩
  have Hg2_0 := Lib.hid (ow.lower HH.out)
  replace HR := Lib.hid (HR.out.below b1)
  replace HB := Lib.hid (HB.out.trans (b1.mono HB.out.size))
  replace HH := Lib.hid (Nat.le_trans HH.out b1.size)
  clear ow b1
  go_wp2_with fail
  refine (line_any w3 98).mono ?_
  rintro e w4 ⟨g3_1, rfl, ow, b1⟩
  have Hg3_1 := Lib.hid (ow.lower HH.out)
  replace HR := Lib.hid (HR.out.below b1)
  replace HB := Lib.hid (HB.out.trans (b1.mono HB.out.size))
  replace HH := Lib.hid (Nat.le_trans HH.out b1.size)
  replace Hg2_0 := Lib.hid (CRow.below Hg2_0.out b1)
  clear ow b1
  go_wp2_with fail
  refine (line_any w4 99).mono ?_
  rintro e w5 ⟨g4_2, rfl, ow, b1⟩
  have Hg4_2 := Lib.hid (ow.lower HH.out)
  replace HR := Lib.hid (HR.out.below b1)
  replace HB := Lib.hid (HB.out.trans (b1.mono HB.out.size))
  replace HH := Lib.hid (Nat.le_trans HH.out b1.size)
  replace Hg2_0 := Lib.hid (CRow.below Hg2_0.out b1)
  replace Hg3_1 := Lib.hid (CRow.below Hg3_1.out b1)
  clear ow b1
  obtain ⟨A, hA⟩ : ∃ A : List Ln, A = [⟨.slice (some ⟨g2_0, 0, none⟩) 1 1, leR 97⟩, ⟨.slice (some ⟨g3_1, 0, none⟩) 1 1, leR 98⟩, ⟨.slice (some ⟨g4_2, 0, none⟩) 1 1, leR 99⟩] := ⟨_, rfl⟩
  obtain ⟨q6, hq⟩ : ∃ q, q = w5.heap.size := ⟨_, rfl⟩
  obtain ⟨w6, hw⟩ : ∃ x, x = w5.alloc (.cells #[.slice (some ⟨g2_0, 0, none⟩) 1 1, .slice (some ⟨g3_1, 0, none⟩) 1 1, .slice (some ⟨g4_2, 0, none⟩) 1 1] 38) := ⟨_, rfl⟩
  have b1 : Below w5.heap.size w5 w6 := by rw [hw]; exact (Below.refl _ _).alloc (Nat.le_refl _) _
  have HI := Lib.hid (show LIn (fun j => _ ≤ j) w6 (.slice (some ⟨q6, 0, none⟩) 3 3) A from by
    have := LIn.lit w5 A (fun j => _ ≤ j) q6 hq (by rw [hq]; exact HH.out) (fun x hx => by
      rw [hA] at hx
      simp only [List.mem_cons, List.not_mem_nil, or_false] at hx
      rcases hx with rfl | rfl | rfl
      · exact Hg2_0.out.row
      · exact Hg3_1.out.row
      · exact Hg4_2.out.row
    ) (fun x hx b hb => by
      rw [hA] at hx
      simp only [List.mem_cons, List.not_mem_nil, or_false] at hx
      rcases hx with rfl | rfl | rfl
      · exact (Hg2_0.out.lt b hb).1
      · exact (Hg3_1.out.lt b hb).1
      · exact (Hg4_2.out.lt b hb).1
    ) (by rw [hA]; exact (show 3 ≤ 1000 by decide))
    rw [hA] at this ⊢
    rw [hw]
    exact this)
  have HA := Lib.hid hA
  replace HR := Lib.hid (HR.out.below b1)
  replace HB := Lib.hid (HB.out.trans (b1.mono HB.out.size))
  replace HH := Lib.hid (Nat.le_trans HH.out b1.size)
  replace Hg2_0 := Lib.hid (CRow.below Hg2_0.out b1)
  replace Hg3_1 := Lib.hid (CRow.below Hg3_1.out b1)
  replace Hg4_2 := Lib.hid (CRow.below Hg4_2.out b1)
  clear hA b1
  go_wp2_with fail
  rw [← hw, ← hq]
  clear hw hq
  refine (rs_push (i := 0) (S := fun j => _ ≤ j) HR.out rfl HB.out.size (fun j h => h.elim) HI.out (fun j h => .inr (.inl h)) (fun x hx => by
    rw [HA.out] at hx
    simp only [List.mem_cons, List.not_mem_nil, or_false] at hx
    rcases hx with rfl | rfl | rfl
    · exact (show 1 ≤ 1000 by decide)
    · exact (show 1 ≤ 1000 by decide)
    · exact (show 1 ≤ 1000 by decide)
    ) (by rw [HA.out]; exact (show 3 ≤ 100000 by decide))).mono ?_
  rintro e w7 ⟨rfl, hr, b2⟩
  rw [HA.out] at hr
  replace HR := Lib.hid (hr.cast (show _ = ([⟨p, 2, [leR 98, leR 99], 0⟩, ⟨q, 0, [], 0⟩] : List Rr) from rfl))
  replace HB := Lib.hid (HB.out.trans (b2.below (C := w.heap.size) (fun j hj => hj.1) HB.out.size))
  replace HH := Lib.hid (Nat.le_refl w7.heap.size)
  clear hr b2 HI HA Hg2_0 Hg3_1 Hg4_2
  go_wp2_with fail
  refine (has_yes (i := 0) ⟨#[98, 32, 99]⟩ HR.out rfl (fun R hR => by
    simp only [List.mem_cons, List.not_mem_nil, or_false] at hR
    rcases hR with rfl | rfl
    · exact (leR_all (by decide)).txt
    · exact (leR_all (by decide)).txt
    ) (show 0 < 2 by decide) (show Lib.join (List.map textM [leR 98, leR 99]) [32] = [98, 32, 99] by decide +kernel) (by decide)).mono ?_
  rintro e w8 ⟨rfl, b1⟩
  replace HR := Lib.hid (HR.out.below b1)
  replace HB := Lib.hid (HB.out.trans (b1.mono HB.out.size))
  replace HH := Lib.hid (Nat.le_trans HH.out b1.size)
  clear b1
  obtain ⟨X, hg, _⟩ := HR.out.get (i := 0) rfl
  have HL := Lib.hid (line_yes X w8 p 2 0 [leR 98, leR 99] 0 hg (by decide))
  clear hg
  go_wp2_with fail
  refine HL.out.mono ?_
  rintro e w9 ⟨u, rfl, ow, b1⟩
  obtain ⟨gf, cf, hu, hge, hglt⟩ := (show CRow w9 w8.heap.size u (leR 98) from ow).here (show 0 < 1 by decide)
  replace hu : u = .slice (some ⟨gf, 0, none⟩) 1 cf := hu
  subst hu
  have HFL := Lib.hid (show CRow w9 w8.heap.size (.slice (some ⟨gf, 0, none⟩) 1 cf) (leR 98) from ow)
  have HFG := Lib.hid hge
  have HHF := Lib.hid HH.out
  have HZF := Lib.hid hglt
  replace HR := Lib.hid (HR.out.below b1)
  replace HB := Lib.hid (HB.out.trans (b1.mono HB.out.size))
  replace HH := Lib.hid (Nat.le_trans HH.out b1.size)
  clear ow b1 HL hge hglt
  replace HR := Lib.hid (HR.out.mono (Z' := fun j => j = gf) (Nat.le_refl _) (fun j hj _ e => by have h1 := HHF.out; have h2 := HFG.out; have h3 : j = gf := e; omega))
  clear HHF HFG
  go_wp2_with fail
  refine (line_any w9 100).mono ?_
  rintro e w10 ⟨g9_0, rfl, ow, b1⟩
  have Hg9_0 := Lib.hid (ow.lower HH.out)
  replace HR := Lib.hid (HR.out.below b1)
  replace HB := Lib.hid (HB.out.trans (b1.mono HB.out.size))
  replace HH := Lib.hid (Nat.le_trans HH.out b1.size)
  replace HFL := Lib.hid (CRow.below HFL.out b1)
  replace HZF := Lib.hid (Nat.lt_of_lt_of_le HZF.out b1.size)
  clear ow b1
  obtain ⟨A, hA⟩ : ∃ A : List Ln, A = [⟨.slice (some ⟨g9_0, 0, none⟩) 1 1, leR 100⟩] := ⟨_, rfl⟩
  obtain ⟨q11, hq⟩ : ∃ q, q = w10.heap.size := ⟨_, rfl⟩
  obtain ⟨w11, hw⟩ : ∃ x, x = w10.alloc (.cells #[.slice (some ⟨g9_0, 0, none⟩) 1 1] 38) := ⟨_, rfl⟩
  have b1 : Below w10.heap.size w10 w11 := by rw [hw]; exact (Below.refl _ _).alloc (Nat.le_refl _) _
  have HI := Lib.hid (show LIn (fun j => _ ≤ j) w11 (.slice (some ⟨q11, 0, none⟩) 1 1) A from by
    have := LIn.lit w10 A (fun j => _ ≤ j) q11 hq (by rw [hq]; exact HH.out) (fun x hx => by
      rw [hA] at hx
      simp only [List.mem_cons, List.not_mem_nil, or_false] at hx
      rcases hx with rfl
      · exact Hg9_0.out.row
    ) (fun x hx b hb => by
      rw [hA] at hx
      simp only [List.mem_cons, List.not_mem_nil, or_false] at hx
      rcases hx with rfl
      · exact (Hg9_0.out.lt b hb).1
    ) (by rw [hA]; exact (show 1 ≤ 1000 by decide))
    rw [hA] at this ⊢
    rw [hw]
    exact this)
  have HA := Lib.hid hA
  replace HR := Lib.hid (HR.out.below b1)
  replace HB := Lib.hid (HB.out.trans (b1.mono HB.out.size))
  replace HH := Lib.hid (Nat.le_trans HH.out b1.size)
  replace HFL := Lib.hid (CRow.below HFL.out b1)
  replace Hg9_0 := Lib.hid (CRow.below Hg9_0.out b1)
  replace HZF := Lib.hid (Nat.lt_of_lt_of_le HZF.out b1.size)
  clear hA b1
  go_wp2_with fail
  rw [← hw, ← hq]
  clear hw hq
  refine (rs_push (i := 0) (S := fun j => _ ≤ j) HR.out rfl HB.out.size (fun j h => by rw [show j = gf from h]; exact HZF.out) HI.out (fun j h => .inr (.inl h)) (fun x hx => by
    rw [HA.out] at hx
    simp only [List.mem_cons, List.not_mem_nil, or_false] at hx
    rcases hx with rfl
    · exact (show 1 ≤ 1000 by decide)
    ) (by rw [HA.out]; exact (show 1 ≤ 100000 by decide))).mono ?_
  rintro e w12 ⟨rfl, hr, b2⟩
  rw [HA.out] at hr
  replace HR := Lib.hid (hr.cast (show _ = ([⟨p, 2, [leR 99, leR 100], 0⟩, ⟨q, 0, [], 0⟩] : List Rr) from rfl))
  replace HB := Lib.hid (HB.out.trans (b2.below (C := w.heap.size) (fun j hj => hj.1) HB.out.size))
  replace HH := Lib.hid (Nat.le_refl w12.heap.size)
  replace HFL := Lib.hid (show CRow _ _ _ (leR 98) from own_buts HFL.out b2 (fun b hb e => e.2.2 (by injection hb with hb; exact hb.symm)))
  replace HZF := Lib.hid (Nat.lt_of_lt_of_le HZF.out b2.size)
  clear hr b2 HI HA Hg9_0
  go_wp2_with fail
  refine (has_yes (i := 0) ⟨#[99, 32, 100]⟩ HR.out rfl (fun R hR => by
    simp only [List.mem_cons, List.not_mem_nil, or_false] at hR
    rcases hR with rfl | rfl
    · exact (leR_all (by decide)).txt
    · exact (leR_all (by decide)).txt
    ) (show 0 < 2 by decide) (show Lib.join (List.map textM [leR 99, leR 100]) [32] = [99, 32, 100] by decide +kernel) (by decide)).mono ?_
  rintro e w13 ⟨rfl, b1⟩
  replace HR := Lib.hid (HR.out.below b1)
  replace HB := Lib.hid (HB.out.trans (b1.mono HB.out.size))
  replace HH := Lib.hid (Nat.le_trans HH.out b1.size)
  replace HFL := Lib.hid (CRow.below HFL.out b1)
  replace HZF := Lib.hid (Nat.lt_of_lt_of_le HZF.out b1.size)
  clear b1
  obtain ⟨X, hg, _⟩ := HR.out.get (i := 0) rfl
  have HL := Lib.hid (line_high X w13 p 2 2 [leR 99, leR 100] 0 hg (by decide))
  clear hg
  go_wp2_with fail
  refine HL.out.mono ?_
  rintro e w' ⟨rfl, rfl⟩
  clear HL
  obtain ⟨X, hg, _⟩ := HR.out.get (i := 0) rfl
  have HL := Lib.hid (line_low w13 (pV p) (-1) (by decide))
  clear hg
  go_wp2_with fail
  refine HL.out.mono ?_
  rintro e w' ⟨rfl, rfl⟩
  clear HL
  go_wp2_with fail
  refine (rs_clear (i := 0) 0 HR.out rfl HB.out.size (fun j h => by rw [show j = gf from h]; exact HZF.out)).mono ?_
  rintro e w14 ⟨rfl, hr, b2⟩
  replace HR := Lib.hid (hr.cast (show _ = ([⟨p, 2, [], 0⟩, ⟨q, 0, [], 0⟩] : List Rr) from rfl))
  replace HB := Lib.hid (HB.out.trans (b2.below (C := w.heap.size) (fun j hj => hj.1) HB.out.size))
  replace HH := Lib.hid (Nat.le_refl w14.heap.size)
  replace HFL := Lib.hid (show CRow _ _ _ (leR 98) from own_buts HFL.out b2 (fun b hb e => e.2.2 (by injection hb with hb; exact hb.symm)))
  replace HZF := Lib.hid (Nat.lt_of_lt_of_le HZF.out b2.size)
  clear hr b2
  go_wp2_with fail
  refine (rs_len (i := 0) HR.out rfl).mono ?_
  rintro e w' ⟨rfl, rfl⟩
  go_wp2_with fail
  refine (line_any w14 101).mono ?_
  rintro e w15 ⟨g14_0, rfl, ow, b1⟩
  have Hg14_0 := Lib.hid (ow.lower HH.out)
  replace HR := Lib.hid (HR.out.below b1)
  replace HB := Lib.hid (HB.out.trans (b1.mono HB.out.size))
  replace HH := Lib.hid (Nat.le_trans HH.out b1.size)
  replace HFL := Lib.hid (CRow.below HFL.out b1)
  replace HZF := Lib.hid (Nat.lt_of_lt_of_le HZF.out b1.size)
  clear ow b1
  obtain ⟨A, hA⟩ : ∃ A : List Ln, A = [⟨.slice (some ⟨g14_0, 0, none⟩) 1 1, leR 101⟩] := ⟨_, rfl⟩
  obtain ⟨q16, hq⟩ : ∃ q, q = w15.heap.size := ⟨_, rfl⟩
  obtain ⟨w16, hw⟩ : ∃ x, x = w15.alloc (.cells #[.slice (some ⟨g14_0, 0, none⟩) 1 1] 38) := ⟨_, rfl⟩
  have b1 : Below w15.heap.size w15 w16 := by rw [hw]; exact (Below.refl _ _).alloc (Nat.le_refl _) _
  have HI := Lib.hid (show LIn (fun j => _ ≤ j) w16 (.slice (some ⟨q16, 0, none⟩) 1 1) A from by
    have := LIn.lit w15 A (fun j => _ ≤ j) q16 hq (by rw [hq]; exact HH.out) (fun x hx => by
      rw [hA] at hx
      simp only [List.mem_cons, List.not_mem_nil, or_false] at hx
      rcases hx with rfl
      · exact Hg14_0.out.row
    ) (fun x hx b hb => by
      rw [hA] at hx
      simp only [List.mem_cons, List.not_mem_nil, or_false] at hx
      rcases hx with rfl
      · exact (Hg14_0.out.lt b hb).1
    ) (by rw [hA]; exact (show 1 ≤ 1000 by decide))
    rw [hA] at this ⊢
    rw [hw]
    exact this)
  have HA := Lib.hid hA
  replace HR := Lib.hid (HR.out.below b1)
  replace HB := Lib.hid (HB.out.trans (b1.mono HB.out.size))
  replace HH := Lib.hid (Nat.le_trans HH.out b1.size)
  replace HFL := Lib.hid (CRow.below HFL.out b1)
  replace Hg14_0 := Lib.hid (CRow.below Hg14_0.out b1)
  replace HZF := Lib.hid (Nat.lt_of_lt_of_le HZF.out b1.size)
  clear hA b1
  go_wp2_with fail
  rw [← hw, ← hq]
  clear hw hq
  refine (rs_push (i := 0) (S := fun j => _ ≤ j) HR.out rfl HB.out.size (fun j h => by rw [show j = gf from h]; exact HZF.out) HI.out (fun j h => .inr (.inl h)) (fun x hx => by
    rw [HA.out] at hx
    simp only [List.mem_cons, List.not_mem_nil, or_false] at hx
    rcases hx with rfl
    · exact (show 1 ≤ 1000 by decide)
    ) (by rw [HA.out]; exact (show 1 ≤ 100000 by decide))).mono ?_
  rintro e w17 ⟨rfl, hr, b2⟩
  rw [HA.out] at hr
  replace HR := Lib.hid (hr.cast (show _ = ([⟨p, 2, [leR 101], 0⟩, ⟨q, 0, [], 0⟩] : List Rr) from rfl))
  replace HB := Lib.hid (HB.out.trans (b2.below (C := w.heap.size) (fun j hj => hj.1) HB.out.size))
  replace HH := Lib.hid (Nat.le_refl w17.heap.size)
  replace HFL := Lib.hid (show CRow _ _ _ (leR 98) from own_buts HFL.out b2 (fun b hb e => e.2.2 (by injection hb with hb; exact hb.symm)))
  replace HZF := Lib.hid (Nat.lt_of_lt_of_le HZF.out b2.size)
  clear hr b2 HI HA Hg14_0
  go_wp2_with fail
  refine (line_any w17 97).mono ?_
  rintro e w18 ⟨g17_0, rfl, ow, b1⟩
  have Hg17_0 := Lib.hid (ow.lower HH.out)
  replace HR := Lib.hid (HR.out.below b1)
  replace HB := Lib.hid (HB.out.trans (b1.mono HB.out.size))
  replace HH := Lib.hid (Nat.le_trans HH.out b1.size)
  replace HFL := Lib.hid (CRow.below HFL.out b1)
  replace HZF := Lib.hid (Nat.lt_of_lt_of_le HZF.out b1.size)
  clear ow b1
  obtain ⟨A, hA⟩ : ∃ A : List Ln, A = [⟨.slice (some ⟨g17_0, 0, none⟩) 1 1, leR 97⟩] := ⟨_, rfl⟩
  obtain ⟨q19, hq⟩ : ∃ q, q = w18.heap.size := ⟨_, rfl⟩
  obtain ⟨w19, hw⟩ : ∃ x, x = w18.alloc (.cells #[.slice (some ⟨g17_0, 0, none⟩) 1 1] 38) := ⟨_, rfl⟩
  have b1 : Below w18.heap.size w18 w19 := by rw [hw]; exact (Below.refl _ _).alloc (Nat.le_refl _) _
  have HI := Lib.hid (show LIn (fun j => _ ≤ j) w19 (.slice (some ⟨q19, 0, none⟩) 1 1) A from by
    have := LIn.lit w18 A (fun j => _ ≤ j) q19 hq (by rw [hq]; exact HH.out) (fun x hx => by
      rw [hA] at hx
      simp only [List.mem_cons, List.not_mem_nil, or_false] at hx
      rcases hx with rfl
      · exact Hg17_0.out.row
    ) (fun x hx b hb => by
      rw [hA] at hx
      simp only [List.mem_cons, List.not_mem_nil, or_false] at hx
      rcases hx with rfl
      · exact (Hg17_0.out.lt b hb).1
    ) (by rw [hA]; exact (show 1 ≤ 1000 by decide))
    rw [hA] at this ⊢
    rw [hw]
    exact this)
  have HA := Lib.hid hA
  replace HR := Lib.hid (HR.out.below b1)
  replace HB := Lib.hid (HB.out.trans (b1.mono HB.out.size))
  replace HH := Lib.hid (Nat.le_trans HH.out b1.size)
  replace HFL := Lib.hid (CRow.below HFL.out b1)
  replace Hg17_0 := Lib.hid (CRow.below Hg17_0.out b1)
  replace HZF := Lib.hid (Nat.lt_of_lt_of_le HZF.out b1.size)
  clear hA b1
  go_wp2_with fail
  rw [← hw, ← hq]
  clear hw hq
  refine (rs_push (i := 1) (S := fun j => _ ≤ j) HR.out rfl HB.out.size (fun j h => by rw [show j = gf from h]; exact HZF.out) HI.out (fun j h => .inr (.inl h)) (fun x hx => by
    rw [HA.out] at hx
    simp only [List.mem_cons, List.not_mem_nil, or_false] at hx
    rcases hx with rfl
    · exact (show 1 ≤ 1000 by decide)
    ) (by rw [HA.out]; exact (show 1 ≤ 100000 by decide))).mono ?_
  rintro e w20 ⟨rfl, hr, b2⟩
  rw [HA.out] at hr
  replace HR := Lib.hid (hr.cast (show _ = ([⟨p, 2, [leR 101], 0⟩, ⟨q, 0, [], 0⟩] : List Rr) from rfl))
  replace HB := Lib.hid (HB.out.trans (b2.below (C := w.heap.size) (fun j hj => hj.1) HB.out.size))
  replace HH := Lib.hid (Nat.le_refl w20.heap.size)
  replace HFL := Lib.hid (show CRow _ _ _ (leR 98) from own_buts HFL.out b2 (fun b hb e => e.2.2 (by injection hb with hb; exact hb.symm)))
  replace HZF := Lib.hid (Nat.lt_of_lt_of_le HZF.out b2.size)
  clear hr b2 HI HA Hg17_0
  have y0 : w20.cell? ⟨gf, 0, none⟩ = some (.int .i32 98) := (CRow.at (R := leR 98) HFL.out (i := 0) (show 0 < (leR 98).length by decide)).1
  go_wp2_with fail
  refine (has_yes (i := 0) ⟨#[101]⟩ HR.out rfl (fun R hR => by
    simp only [List.mem_cons, List.not_mem_nil, or_false] at hR
    rcases hR with rfl
    · exact (leR_all (by decide)).txt
    ) (show 0 < 1 by decide) (show Lib.join (List.map textM [leR 101]) [32] = [101] by decide +kernel) (by decide)).mono ?_
  rintro e w21 ⟨rfl, b1⟩
  replace HR := Lib.hid (HR.out.below b1)
  replace HB := Lib.hid (HB.out.trans (b1.mono HB.out.size))
  replace HH := Lib.hid (Nat.le_trans HH.out b1.size)
  replace HFL := Lib.hid (CRow.below HFL.out b1)
  replace HZF := Lib.hid (Nat.lt_of_lt_of_le HZF.out b1.size)
  clear b1
  clear y0
  go_wp2_with fail
  refine (rs_len (i := 1) HR.out rfl).mono ?_
  rintro e w' ⟨rfl, rfl⟩
  go_wp2
  go_ret

  exact ⟨rfl, HB.out⟩
end Go.Proofs.Ytnefamgjlhdffaa.Lab
