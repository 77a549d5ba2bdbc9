/- RingKnown. -/
import Derived.Test.YtnefamgjlhdffaaRgWorks
set_option linter.unusedVariables false
namespace Go.Proofs.Ytnefamgjlhdffaa.Lab
open Go Go.RowKit

/-- The rows of k letters, a to z over and over. -/
def chs (k : Nat) : List Cls := (List.range k).map (fun j => leR (97 + ((j % 26 : Nat) : Int)))
theorem chs_len (k : Nat) : (chs k).length = k := by unfold chs; simp
theorem chs_succ (k : Nat) : chs (k + 1) = chs k ++ [leR (97 + ((k % 26 : Nat) : Int))] := by unfold chs; rw [List.range_succ, List.map_append]; rfl
theorem row_first : rowG (lastN 1000 (chs 1005)) 0 = leR 102 := by decide +kernel
theorem row_last : rowG (lastN 1000 (chs 1005)) 999 = leR 113 := by decide +kernel
theorem push_nil (w : World) (v : Value) : Calls Try.prog 16 #[.pointer none, v] w fun e w' => e = .returned (.tuple #[]) ∧ w = w' := by
  go_enter Try.func16, Try.ntmps16
  go_wp2
  refine bodyPost_ret (results_none rfl _ _ _) rfl ?_
  exact ⟨rfl, rfl⟩
set_option maxHeartbeats 8000000 in
set_option maxRecDepth 100000 in
theorem ringKnown_walk (w : World) : Calls Try.prog 7 #[] w fun e w' => e = .returned (.bool true) ∧ Below w.heap.size w w' := by
  have HWK := Lib.hid works_any
  have HR := Lib.hid (show RsAt w w.heap.size w.heap.size (fun _ => False) [] from RsAt.nil _ _ _ _)
  have HB := Lib.hid (show Below w.heap.size w w from Below.refl _ _)
  have HH := Lib.hid (show w.heap.size ≤ w.heap.size from Nat.le_refl _)
  go_enter Try.func7, Try.ntmps7
  go_wp2_with fail
  refine (rs_new 1000 1 HR.out (by decide) HH.out HB.out.size (fun j h => h.elim)).mono ?_
  rintro e w1 ⟨r, rfl, hr, b1⟩
  replace HR := Lib.hid hr
  replace HB := Lib.hid (HB.out.trans (b1.mono HB.out.size))
  replace HH := Lib.hid (Nat.le_refl w1.heap.size)
  replace HR := Lib.hid (HR.out.cast (show _ = ([⟨r, 1000, [], 1⟩] : List Rr) from rfl))
  clear hr b1
  go_wp2
  go_loopg [3, 14, 15, 16, 17, 18, 19, 20, 21, 22, 23, 24, 25] 1005 (fun gl b3 b14 b15 b16 b17 b18 b19 b20 b21 b22 b23 b24 b25 wr => ∃ k : Nat, b3 = .int .i64 k ∧ k ≤ 1005 ∧ 1005 - k ≤ gl ∧ Hid (RsAt wr w.heap.size wr.heap.size (fun _ => False) [⟨r, 1000, lastN 1000 (chs k), 1⟩]) ∧ Hid (Below w.heap.size w wr))
  case atStart =>
    exact ⟨0, rfl, Nat.zero_le _, Nat.le_refl _, Lib.hid (HR.out.cast rfl), HB⟩
  case round =>
    obtain ⟨k, rfl, hks, hgk, HR1, HB1⟩ := hrel
    clear HR HB HH
    have HR := HR1
    have HB := HB1
    have HH := Lib.hid (Nat.le_refl wr.heap.size)
    clear HR1 HB1
    by_cases hlt : k < 1005
    · skip
      have u1 : ((k : Nat) : Int) < 1005 := by omega
      have u2 : Int.tmod (k : Int) 26 = ((k % 26 : Nat) : Int) := by rw [Int.tmod_eq_emod_of_nonneg (by omega)]; omega
      have u3 : IntKind.i64.wrap (97 + ((k % 26 : Nat) : Int)) = 97 + ((k % 26 : Nat) : Int) := by rw [IntKind.wrap_i64]; omega
      have u4 : IntKind.i32.wrap (97 + ((k % 26 : Nat) : Int)) = 97 + ((k % 26 : Nat) : Int) := by rw [IntKind.wrap_i32]; omega
      go_wp2_with fail
      refine (line_any wr (97 + ((k % 26 : Nat) : Int))).mono ?_
      rintro e w2 ⟨g1_0, rfl, ow, b1⟩
      have Hg1_0 := Lib.hid (ow.lower HH.out)
      replace HR := Lib.hid (HR.out.below b1)
      replace HB := Lib.hid (HB.out.trans (b1.mono HB.out.size))
      replace HH := Lib.hid (Nat.le_trans HH.out b1.size)
      clear ow b1
      obtain ⟨A, hA⟩ : ∃ A : List Ln, A = [⟨.slice (some ⟨g1_0, 0, none⟩) 1 1, leR (97 + ((k % 26 : Nat) : Int))⟩] := ⟨_, rfl⟩
      obtain ⟨q3, hq⟩ : ∃ q, q = w2.heap.size := ⟨_, rfl⟩
      obtain ⟨w3, hw⟩ : ∃ x, x = w2.alloc (.cells #[.slice (some ⟨g1_0, 0, none⟩) 1 1] 38) := ⟨_, rfl⟩
      have b1 : Below w2.heap.size w2 w3 := by rw [hw]; exact (Below.refl _ _).alloc (Nat.le_refl _) _
      have HI := Lib.hid (show LIn (fun j => _ ≤ j) w3 (.slice (some ⟨q3, 0, none⟩) 1 1) A from by
        have := LIn.lit w2 A (fun j => _ ≤ j) q3 hq (by rw [hq]; exact HH.out) (fun x hx => by
          rw [hA] at hx
          simp only [List.mem_cons, List.not_mem_nil, or_false] at hx
          rcases hx with rfl
          · exact Hg1_0.out.row
        ) (fun x hx b hb => by
          rw [hA] at hx
          simp only [List.mem_cons, List.not_mem_nil, or_false] at hx
          rcases hx with rfl
          · exact (Hg1_0.out.lt b hb).1
        ) (by rw [hA]; exact (show 1 ≤ 1000 by decide))
        rw [hA] at this ⊢
        rw [hw]
        exact this)
      have HA := Lib.hid hA
      replace HR := Lib.hid (HR.out.below b1)
      replace HB := Lib.hid (HB.out.trans (b1.mono HB.out.size))
      replace HH := Lib.hid (Nat.le_trans HH.out b1.size)
      replace Hg1_0 := Lib.hid (CRow.below Hg1_0.out b1)
      clear hA b1
      go_wp2_with fail
      rw [← hw, ← hq]
      clear hw hq
      refine (rs_push (i := 0) (S := fun j => _ ≤ j) HR.out rfl HB.out.size (fun j h => h.elim) HI.out (fun j h => .inr (.inl h)) (fun x hx => by
        rw [HA.out] at hx
        simp only [List.mem_cons, List.not_mem_nil, or_false] at hx
        rcases hx with rfl
        · exact (show 1 ≤ 1000 by decide)
        ) (by rw [HA.out]; exact (show 1 ≤ 100000 by decide))).mono ?_
      rintro e w4 ⟨rfl, hr, b2⟩
      rw [HA.out] at hr
      replace HR := Lib.hid (hr.cast (show _ = ([⟨r, 1000, lastN 1000 (chs (k + 1)), 1⟩] : List Rr) from congrArg (fun G => ([⟨r, 1000, G, 1⟩] : List Rr)) (show lastN 1000 (lastN 1000 (chs k) ++ [leR (97 + ((k % 26 : Nat) : Int))]) = lastN 1000 (chs (k + 1)) from by rw [chs_succ]; exact lastN_app _ _ _)))
      replace HB := Lib.hid (HB.out.trans (b2.below (C := w.heap.size) (fun j hj => hj.1) HB.out.size))
      replace HH := Lib.hid (Nat.le_refl w4.heap.size)
      clear hr b2 HI HA Hg1_0
      clear u1 u2 u3 u4
      go_wp2
      go_roundg (1005 - (k + 1))
      case rel => exact ⟨k + 1, by (first | go_num | (refine congrArg _ ?_; unfold wrap64; omega)), hlt, Nat.le_refl _, HR, HB⟩
      case measure => omega
    · skip
      obtain rfl : k = 1005 := by omega
      clear hlt hgk hks
      obtain ⟨X, hg, _⟩ := HR.out.get (i := 0) rfl
      have HL := Lib.hid (line_yes X wr r 1000 0 (lastN 1000 (chs 1005)) 1 hg (by rw [lastN_len, chs_len]; decide))
      clear hg
      go_wp2_with fail
      refine HL.out.mono ?_
      rintro e w5 ⟨u, rfl, ow, b1⟩
      rw [row_first] at ow
      obtain ⟨gf, cf, hu, hge, hglt⟩ := CRow.here (R := (leR 102)) ow (show 0 < 1 by decide)
      replace hu : u = .slice (some ⟨gf, 0, none⟩) 1 cf := hu
      subst hu
      have HFL := Lib.hid (show CRow w5 wr.heap.size (.slice (some ⟨gf, 0, none⟩) 1 cf) (leR 102) from ow)
      have HFLG := Lib.hid (show _ ∧ _ from ⟨Nat.le_trans HH.out hge, hglt⟩)
      replace HR := Lib.hid (HR.out.below b1)
      replace HB := Lib.hid (HB.out.trans (b1.mono HB.out.size))
      replace HH := Lib.hid (Nat.le_trans HH.out b1.size)
      clear ow b1 HL hge hglt
      replace HFLG := HFLG
      obtain ⟨X, hg, _⟩ := HR.out.get (i := 0) rfl
      have HL := Lib.hid (line_yes X w5 r 1000 999 (lastN 1000 (chs 1005)) 1 hg (by rw [lastN_len, chs_len]; decide))
      clear hg
      go_wp2_with fail
      refine HL.out.mono ?_
      rintro e w6 ⟨u, rfl, ow, b1⟩
      rw [row_last] at ow
      obtain ⟨gl, cl, hu, hge, hglt⟩ := CRow.here (R := (leR 113)) ow (show 0 < 1 by decide)
      replace hu : u = .slice (some ⟨gl, 0, none⟩) 1 cl := hu
      subst hu
      have HLL := Lib.hid (show CRow w6 w5.heap.size (.slice (some ⟨gl, 0, none⟩) 1 cl) (leR 113) from ow)
      have HLLG := Lib.hid (show _ ∧ _ from ⟨Nat.le_trans HH.out hge, hglt⟩)
      replace HR := Lib.hid (HR.out.below b1)
      replace HB := Lib.hid (HB.out.trans (b1.mono HB.out.size))
      replace HH := Lib.hid (Nat.le_trans HH.out b1.size)
      replace HFL := Lib.hid (CRow.below HFL.out b1)
      clear ow b1 HL hge hglt
      replace HR := Lib.hid (HR.out.mono (Z' := fun j => j = gf ∨ j = gl) (Nat.le_refl _) (fun j hj _ e => by have h1 := HFLG.out.1; have h2 := HLLG.out.1; rcases e with e | e <;> omega))
      have HZF := Lib.hid (show gf < w6.heap.size ∧ gl < w6.heap.size from ⟨(HFL.out.lt gf rfl).2, (HLL.out.lt gl rfl).2⟩)
      clear HFLG HLLG
      go_wp2_with fail
      refine (rs_new 3 0 HR.out (by decide) HH.out HB.out.size (fun j h => h.elim (fun h => by rw [h]; exact HZF.out.1) (fun h => by rw [h]; exact HZF.out.2))).mono ?_
      rintro e w7 ⟨a, rfl, hr, b1⟩
      replace HR := Lib.hid hr
      replace HB := Lib.hid (HB.out.trans (b1.mono HB.out.size))
      replace HH := Lib.hid (Nat.le_refl w7.heap.size)
      replace HFL := Lib.hid (CRow.below HFL.out b1)
      replace HLL := Lib.hid (CRow.below HLL.out b1)
      replace HZF := Lib.hid (show _ ∧ _ from ⟨Nat.lt_of_lt_of_le HZF.out.1 b1.size, Nat.lt_of_lt_of_le HZF.out.2 b1.size⟩)
      replace HR := Lib.hid (HR.out.cast (show _ = ([⟨r, 1000, lastN 1000 (chs 1005), 1⟩, ⟨a, 3, [], 0⟩] : List Rr) from rfl))
      clear hr b1
      go_wp2_with fail
      refine (rs_new 4 0 HR.out (by decide) HH.out HB.out.size (fun j h => h.elim (fun h => by rw [h]; exact HZF.out.1) (fun h => by rw [h]; exact HZF.out.2))).mono ?_
      rintro e w8 ⟨b, rfl, hr, b1⟩
      replace HR := Lib.hid hr
      replace HB := Lib.hid (HB.out.trans (b1.mono HB.out.size))
      replace HH := Lib.hid (Nat.le_refl w8.heap.size)
      replace HFL := Lib.hid (CRow.below HFL.out b1)
      replace HLL := Lib.hid (CRow.below HLL.out b1)
      replace HZF := Lib.hid (show _ ∧ _ from ⟨Nat.lt_of_lt_of_le HZF.out.1 b1.size, Nat.lt_of_lt_of_le HZF.out.2 b1.size⟩)
      replace HR := Lib.hid (HR.out.cast (show _ = ([⟨r, 1000, lastN 1000 (chs 1005), 1⟩, ⟨a, 3, [], 0⟩, ⟨b, 4, [], 0⟩] : List Rr) from rfl))
      clear hr b1
      go_wp2_with fail
      refine (line_any w8 120).mono ?_
      rintro e w9 ⟨g8_0, rfl, ow, b1⟩
      have Hg8_0 := Lib.hid (ow.lower HH.out)
      replace HR := Lib.hid (HR.out.below b1)
      replace HB := Lib.hid (HB.out.trans (b1.mono HB.out.size))
      replace HH := Lib.hid (Nat.le_trans HH.out b1.size)
      replace HFL := Lib.hid (CRow.below HFL.out b1)
      replace HLL := Lib.hid (CRow.below HLL.out b1)
      replace HZF := Lib.hid (show _ ∧ _ from ⟨Nat.lt_of_lt_of_le HZF.out.1 b1.size, Nat.lt_of_lt_of_le HZF.out.2 b1.size⟩)
      clear ow b1
      obtain ⟨A, hA⟩ : ∃ A : List Ln, A = [⟨.slice (some ⟨g8_0, 0, none⟩) 1 1, leR 120⟩] := ⟨_, rfl⟩
      obtain ⟨q10, hq⟩ : ∃ q, q = w9.heap.size := ⟨_, rfl⟩
      obtain ⟨w10, hw⟩ : ∃ x, x = w9.alloc (.cells #[.slice (some ⟨g8_0, 0, none⟩) 1 1] 38) := ⟨_, rfl⟩
      have b1 : Below w9.heap.size w9 w10 := by rw [hw]; exact (Below.refl _ _).alloc (Nat.le_refl _) _
      have HI := Lib.hid (show LIn (fun j => _ ≤ j) w10 (.slice (some ⟨q10, 0, none⟩) 1 1) A from by
        have := LIn.lit w9 A (fun j => _ ≤ j) q10 hq (by rw [hq]; exact HH.out) (fun x hx => by
          rw [hA] at hx
          simp only [List.mem_cons, List.not_mem_nil, or_false] at hx
          rcases hx with rfl
          · exact Hg8_0.out.row
        ) (fun x hx b hb => by
          rw [hA] at hx
          simp only [List.mem_cons, List.not_mem_nil, or_false] at hx
          rcases hx with rfl
          · exact (Hg8_0.out.lt b hb).1
        ) (by rw [hA]; exact (show 1 ≤ 1000 by decide))
        rw [hA] at this ⊢
        rw [hw]
        exact this)
      have HA := Lib.hid hA
      replace HR := Lib.hid (HR.out.below b1)
      replace HB := Lib.hid (HB.out.trans (b1.mono HB.out.size))
      replace HH := Lib.hid (Nat.le_trans HH.out b1.size)
      replace HFL := Lib.hid (CRow.below HFL.out b1)
      replace HLL := Lib.hid (CRow.below HLL.out b1)
      replace Hg8_0 := Lib.hid (CRow.below Hg8_0.out b1)
      replace HZF := Lib.hid (show _ ∧ _ from ⟨Nat.lt_of_lt_of_le HZF.out.1 b1.size, Nat.lt_of_lt_of_le HZF.out.2 b1.size⟩)
      clear hA b1
      go_wp2_with fail
      rw [← hw, ← hq]
      clear hw hq
      refine (rs_push (i := 1) (S := fun j => _ ≤ j) HR.out rfl HB.out.size (fun j h => h.elim (fun h => by rw [h]; exact HZF.out.1) (fun h => by rw [h]; exact HZF.out.2)) HI.out (fun j h => .inr (.inl h)) (fun x hx => by
        rw [HA.out] at hx
        simp only [List.mem_cons, List.not_mem_nil, or_false] at hx
        rcases hx with rfl
        · exact (show 1 ≤ 1000 by decide)
        ) (by rw [HA.out]; exact (show 1 ≤ 100000 by decide))).mono ?_
      rintro e w11 ⟨rfl, hr, b2⟩
      rw [HA.out] at hr
      replace HR := Lib.hid (hr.cast (show _ = ([⟨r, 1000, lastN 1000 (chs 1005), 1⟩, ⟨a, 3, [leR 120], 0⟩, ⟨b, 4, [], 0⟩] : List Rr) from rfl))
      replace HB := Lib.hid (HB.out.trans (b2.below (C := w.heap.size) (fun j hj => hj.1) HB.out.size))
      replace HH := Lib.hid (Nat.le_refl w11.heap.size)
      replace HFL := Lib.hid (show CRow _ _ _ (leR 102) from own_buts HFL.out b2 (fun b hb e => e.2.2 (.inl (by injection hb with hb; exact hb.symm))))
      replace HLL := Lib.hid (show CRow _ _ _ (leR 113) from own_buts HLL.out b2 (fun b hb e => e.2.2 (.inr (by injection hb with hb; exact hb.symm))))
      replace HZF := Lib.hid (show _ ∧ _ from ⟨Nat.lt_of_lt_of_le HZF.out.1 b2.size, Nat.lt_of_lt_of_le HZF.out.2 b2.size⟩)
      clear hr b2 HI HA Hg8_0
      go_wp2_with fail
      refine (rs_copy (i := 1) HR.out rfl HH.out HB.out.size (fun j h => h.elim (fun h => by rw [h]; exact HZF.out.1) (fun h => by rw [h]; exact HZF.out.2))).mono ?_
      rintro e w12 ⟨c, rfl, hr, b1⟩
      replace HR := Lib.hid hr
      replace HB := Lib.hid (HB.out.trans (b1.mono HB.out.size))
      replace HH := Lib.hid (Nat.le_refl w12.heap.size)
      replace HFL := Lib.hid (CRow.below HFL.out b1)
      replace HLL := Lib.hid (CRow.below HLL.out b1)
      replace HZF := Lib.hid (show _ ∧ _ from ⟨Nat.lt_of_lt_of_le HZF.out.1 b1.size, Nat.lt_of_lt_of_le HZF.out.2 b1.size⟩)
      replace HR := Lib.hid (HR.out.cast (show _ = ([⟨r, 1000, lastN 1000 (chs 1005), 1⟩, ⟨a, 3, [leR 120], 0⟩, ⟨b, 4, [], 0⟩, ⟨c, 3, [leR 120], 0⟩] : List Rr) from rfl))
      clear hr b1
      obtain ⟨q0, hq0⟩ : ∃ q, q = w12.heap.size := ⟨_, rfl⟩
      obtain ⟨A, hA⟩ : ∃ A : List Ln, A = [⟨.slice (some ⟨q0, 0, none⟩) 0 0, []⟩] := ⟨_, rfl⟩
      obtain ⟨w13, hw0⟩ : ∃ x, x = w12.alloc (.cells #[] 47) := ⟨_, rfl⟩
      have b0 : Below w12.heap.size w12 w13 := by rw [hw0]; exact (Below.refl _ _).alloc (Nat.le_refl _) _
      have HQ0 := Lib.hid (show w12.heap.size ≤ q0 by rw [hq0]; exact Nat.le_refl _)
      have HH0 := Lib.hid HH.out
      replace HR := Lib.hid (HR.out.below b0)
      replace HB := Lib.hid (HB.out.trans (b0.mono HB.out.size))
      replace HH := Lib.hid (Nat.le_trans HH.out b0.size)
      replace HFL := Lib.hid (CRow.below HFL.out b0)
      replace HLL := Lib.hid (CRow.below HLL.out b0)
      replace HZF := Lib.hid (show _ ∧ _ from ⟨Nat.lt_of_lt_of_le HZF.out.1 b0.size, Nat.lt_of_lt_of_le HZF.out.2 b0.size⟩)
      have hq1 : q0 + 1 = w13.heap.size := by rw [hw0, hq0]; simp
      obtain ⟨w14, hw1⟩ : ∃ x, x = w13.alloc (.cells #[.slice (some ⟨q0, 0, none⟩) 0 0] 38) := ⟨_, rfl⟩
      have b1 : Below w13.heap.size w13 w14 := by rw [hw1]; exact (Below.refl _ _).alloc (Nat.le_refl _) _
      have HI := Lib.hid (show LIn (fun j => w12.heap.size ≤ j) w14 (.slice (some ⟨q0 + 1, 0, none⟩) 1 1) A from by
        have := LIn.lit w13 A (fun j => w12.heap.size ≤ j) (q0 + 1) hq1 (by rw [hq0]; exact Nat.le_succ _) (fun x hx => by
          rw [hA] at hx
          simp only [List.mem_cons, List.not_mem_nil, or_false] at hx
          subst hx
          exact ⟨_, _, rfl, Nat.le_refl _, (show 0 ≤ maxLen by decide), fun h0 => absurd h0 (show ¬ 0 < 0 by decide)⟩) (fun x hx b hb => by
          rw [hA] at hx
          simp only [List.mem_cons, List.not_mem_nil, or_false] at hx
          subst hx
          have e : q0 = b := by injection hb
          rw [← e]
          exact HQ0.out) (by rw [hA]; exact (show 1 ≤ 1000 by decide))
        rw [hA] at this ⊢
        rw [hw1]
        exact this)
      have HA := Lib.hid hA
      replace HR := Lib.hid (HR.out.below b1)
      replace HB := Lib.hid (HB.out.trans (b1.mono HB.out.size))
      replace HH := Lib.hid (Nat.le_trans HH.out b1.size)
      replace HFL := Lib.hid (CRow.below HFL.out b1)
      replace HLL := Lib.hid (CRow.below HLL.out b1)
      replace HZF := Lib.hid (show _ ∧ _ from ⟨Nat.lt_of_lt_of_le HZF.out.1 b1.size, Nat.lt_of_lt_of_le HZF.out.2 b1.size⟩)
      clear hA b0 b1
      go_wp2_with fail
      rw [← hw0, ← hq0, ← hw1]
      clear hw0 hq0 hw1 hq1
      refine (rs_push (i := 3) (S := fun j => w12.heap.size ≤ j) HR.out rfl HB.out.size (fun j h => h.elim (fun h => by rw [h]; exact HZF.out.1) (fun h => by rw [h]; exact HZF.out.2)) HI.out (fun j h => .inr (.inl (Nat.le_trans HH0.out h))) (fun x hx => by
        rw [HA.out] at hx
        simp only [List.mem_cons, List.not_mem_nil, or_false] at hx
        subst hx
        exact (show 0 ≤ 1000 by decide)) (by rw [HA.out]; exact (show 1 ≤ 100000 by decide))).mono ?_
      rintro e w15 ⟨rfl, hr, b2⟩
      rw [HA.out] at hr
      replace HR := Lib.hid (hr.cast (show _ = ([⟨r, 1000, lastN 1000 (chs 1005), 1⟩, ⟨a, 3, [leR 120], 0⟩, ⟨b, 4, [], 0⟩, ⟨c, 3, [leR 120, []], 0⟩] : List Rr) from rfl))
      replace HB := Lib.hid (HB.out.trans (b2.below (C := w.heap.size) (fun j hj => hj.1) HB.out.size))
      replace HH := Lib.hid (Nat.le_refl w15.heap.size)
      replace HFL := Lib.hid (show CRow _ _ _ (leR 102) from own_buts HFL.out b2 (fun b hb e => e.2.2 (.inl (by injection hb with hb; exact hb.symm))))
      replace HLL := Lib.hid (show CRow _ _ _ (leR 113) from own_buts HLL.out b2 (fun b hb e => e.2.2 (.inr (by injection hb with hb; exact hb.symm))))
      replace HZF := Lib.hid (show _ ∧ _ from ⟨Nat.lt_of_lt_of_le HZF.out.1 b2.size, Nat.lt_of_lt_of_le HZF.out.2 b2.size⟩)
      clear hr b2 HI HA HQ0 HH0
      go_wp2_with fail
      refine (line_any w15 113).mono ?_
      rintro e w16 ⟨gq, rfl, ow, b1⟩
      have Hgq := Lib.hid (ow.lower HH.out)
      replace HR := Lib.hid (HR.out.below b1)
      replace HB := Lib.hid (HB.out.trans (b1.mono HB.out.size))
      replace HH := Lib.hid (Nat.le_trans HH.out b1.size)
      replace HFL := Lib.hid (CRow.below HFL.out b1)
      replace HLL := Lib.hid (CRow.below HLL.out b1)
      replace HZF := Lib.hid (show _ ∧ _ from ⟨Nat.lt_of_lt_of_le HZF.out.1 b1.size, Nat.lt_of_lt_of_le HZF.out.2 b1.size⟩)
      clear ow b1
      obtain ⟨w17, hw⟩ : ∃ x, x = w16.alloc (.cells #[.slice (some ⟨gq, 0, none⟩) 1 1] 38) := ⟨_, rfl⟩
      have b1 : Below w16.heap.size w16 w17 := by rw [hw]; exact (Below.refl _ _).alloc (Nat.le_refl _) _
      replace HR := Lib.hid (HR.out.below b1)
      replace HB := Lib.hid (HB.out.trans (b1.mono HB.out.size))
      replace HH := Lib.hid (Nat.le_trans HH.out b1.size)
      replace HFL := Lib.hid (CRow.below HFL.out b1)
      replace HLL := Lib.hid (CRow.below HLL.out b1)
      replace HZF := Lib.hid (show _ ∧ _ from ⟨Nat.lt_of_lt_of_le HZF.out.1 b1.size, Nat.lt_of_lt_of_le HZF.out.2 b1.size⟩)
      clear b1 Hgq
      go_wp2_with fail
      rw [← hw]
      clear hw
      refine (push_nil _ _).mono ?_
      rintro e w' ⟨rfl, rfl⟩
      go_wp2_with fail
      refine (raise_nil w17 1).mono ?_
      rintro e w18 ⟨rfl, b1⟩
      replace HR := Lib.hid (HR.out.below b1)
      replace HB := Lib.hid (HB.out.trans (b1.mono HB.out.size))
      replace HH := Lib.hid (Nat.le_trans HH.out b1.size)
      replace HFL := Lib.hid (CRow.below HFL.out b1)
      replace HLL := Lib.hid (CRow.below HLL.out b1)
      replace HZF := Lib.hid (show _ ∧ _ from ⟨Nat.lt_of_lt_of_le HZF.out.1 b1.size, Nat.lt_of_lt_of_le HZF.out.2 b1.size⟩)
      clear b1
      go_wp2_with fail
      refine (lower_nil w18 1).mono ?_
      rintro e w19 ⟨rfl, b1⟩
      replace HR := Lib.hid (HR.out.below b1)
      replace HB := Lib.hid (HB.out.trans (b1.mono HB.out.size))
      replace HH := Lib.hid (Nat.le_trans HH.out b1.size)
      replace HFL := Lib.hid (CRow.below HFL.out b1)
      replace HLL := Lib.hid (CRow.below HLL.out b1)
      replace HZF := Lib.hid (show _ ∧ _ from ⟨Nat.lt_of_lt_of_le HZF.out.1 b1.size, Nat.lt_of_lt_of_le HZF.out.2 b1.size⟩)
      clear b1
      go_wp2_with fail
      refine (clear_nil w19 1).mono ?_
      rintro e w' ⟨rfl, rfl⟩
      go_wp2_with fail
      refine (line_nil w19 0).mono ?_
      rintro e w' ⟨rfl, rfl⟩
      go_wp2_with fail
      refine (HWK.out w19).mono ?_
      rintro e w20 ⟨rfl, b1⟩
      replace HR := Lib.hid (HR.out.below b1)
      replace HB := Lib.hid (HB.out.trans (b1.mono HB.out.size))
      replace HH := Lib.hid (Nat.le_trans HH.out b1.size)
      replace HFL := Lib.hid (CRow.below HFL.out b1)
      replace HLL := Lib.hid (CRow.below HLL.out b1)
      replace HZF := Lib.hid (show _ ∧ _ from ⟨Nat.lt_of_lt_of_le HZF.out.1 b1.size, Nat.lt_of_lt_of_le HZF.out.2 b1.size⟩)
      clear b1
      clear HWK
      have hl0 : (lastN 1000 (chs 1005)).length = 1000 := by rw [lastN_len, chs_len]; rfl
      have y0 : w20.cell? ⟨gf, 0, none⟩ = some (.int .i32 102) := (CRow.at (R := leR 102) HFL.out (i := 0) (show 0 < (leR 102).length by decide)).1
      have y1 : w20.cell? ⟨gl, 0, none⟩ = some (.int .i32 113) := (CRow.at (R := leR 113) HLL.out (i := 0) (show 0 < (leR 113).length by decide)).1
      go_wp2_with fail
      refine (rs_len (i := 0) HR.out rfl).mono ?_
      rintro e w' ⟨rfl, rfl⟩
      rw [hl0]
      clear hl0
      go_wp2_with fail
      refine (rs_label (i := 0) HR.out rfl).mono ?_
      rintro e w' ⟨rfl, rfl⟩
      clear y0 y1
      go_wp2_with fail
      refine (new_no w20 1001 0 (.inr (by decide))).mono ?_
      rintro e w' ⟨rfl, rfl⟩
      go_wp2_with fail
      refine (new_no w20 (-1) 0 (.inl (by decide))).mono ?_
      rintro e w' ⟨rfl, rfl⟩
      go_wp2_with fail
      refine (rs_new 3 0 HR.out (by decide) HH.out HB.out.size (fun j h => h.elim (fun h => by rw [h]; exact HZF.out.1) (fun h => by rw [h]; exact HZF.out.2))).mono ?_
      rintro e w21 ⟨d, rfl, hr, b1⟩
      replace HR := Lib.hid hr
      replace HB := Lib.hid (HB.out.trans (b1.mono HB.out.size))
      replace HH := Lib.hid (Nat.le_refl w21.heap.size)
      replace HFL := Lib.hid (CRow.below HFL.out b1)
      replace HLL := Lib.hid (CRow.below HLL.out b1)
      replace HZF := Lib.hid (show _ ∧ _ from ⟨Nat.lt_of_lt_of_le HZF.out.1 b1.size, Nat.lt_of_lt_of_le HZF.out.2 b1.size⟩)
      replace HR := Lib.hid (HR.out.cast (show _ = ([⟨r, 1000, lastN 1000 (chs 1005), 1⟩, ⟨a, 3, [leR 120], 0⟩, ⟨b, 4, [], 0⟩, ⟨c, 3, [leR 120, []], 0⟩, ⟨d, 3, [], 0⟩] : List Rr) from rfl))
      clear hr b1
      go_wp2_with fail
      refine (rs_same (i := 4) (j := 2) HR.out rfl rfl).mono ?_
      rintro e w22 ⟨rfl, b1⟩
      rw [show decide ((3 : Nat) = 4 ∧ (0 : Int) = 0 ∧ ([] : List Cls) = []) = false by decide +kernel]
      replace HR := Lib.hid (HR.out.below b1)
      replace HB := Lib.hid (HB.out.trans (b1.mono HB.out.size))
      replace HH := Lib.hid (Nat.le_trans HH.out b1.size)
      replace HFL := Lib.hid (CRow.below HFL.out b1)
      replace HLL := Lib.hid (CRow.below HLL.out b1)
      replace HZF := Lib.hid (show _ ∧ _ from ⟨Nat.lt_of_lt_of_le HZF.out.1 b1.size, Nat.lt_of_lt_of_le HZF.out.2 b1.size⟩)
      clear b1
      go_wp2_with fail
      refine (rs_same (i := 1) (j := 3) HR.out rfl rfl).mono ?_
      rintro e w23 ⟨rfl, b1⟩
      rw [show decide ((3 : Nat) = 3 ∧ (0 : Int) = 0 ∧ ([leR 120] : List Cls) = [leR 120, []]) = false by decide +kernel]
      replace HR := Lib.hid (HR.out.below b1)
      replace HB := Lib.hid (HB.out.trans (b1.mono HB.out.size))
      replace HH := Lib.hid (Nat.le_trans HH.out b1.size)
      replace HFL := Lib.hid (CRow.below HFL.out b1)
      replace HLL := Lib.hid (CRow.below HLL.out b1)
      replace HZF := Lib.hid (show _ ∧ _ from ⟨Nat.lt_of_lt_of_le HZF.out.1 b1.size, Nat.lt_of_lt_of_le HZF.out.2 b1.size⟩)
      clear b1
      have htx : TxtOk ([] : Cls) := fun i h => absurd h (by simp)
      go_wp2_with fail
      refine (has_yes (i := 3) ⟨#[120, 32]⟩ HR.out rfl (fun R hR => by
        simp only [List.mem_cons, List.not_mem_nil, or_false] at hR
        rcases hR with rfl | rfl
        · exact (leR_all (by decide)).txt
        · exact htx) (show 0 < 2 by decide) (show Lib.join (List.map textM [leR 120, []]) [32] = [120, 32] by decide +kernel) (by decide)).mono ?_
      rintro e w24 ⟨rfl, b1⟩
      replace HR := Lib.hid (HR.out.below b1)
      replace HB := Lib.hid (HB.out.trans (b1.mono HB.out.size))
      replace HH := Lib.hid (Nat.le_trans HH.out b1.size)
      replace HFL := Lib.hid (CRow.below HFL.out b1)
      replace HLL := Lib.hid (CRow.below HLL.out b1)
      replace HZF := Lib.hid (show _ ∧ _ from ⟨Nat.lt_of_lt_of_le HZF.out.1 b1.size, Nat.lt_of_lt_of_le HZF.out.2 b1.size⟩)
      clear b1 htx
      go_wp2_with fail
      refine (len_nil w24).mono ?_
      rintro e w' ⟨rfl, rfl⟩
      go_wp2_with fail
      refine (label_nil w24).mono ?_
      rintro e w' ⟨rfl, rfl⟩
      go_wp2_with fail
      refine (copy_nil w24).mono ?_
      rintro e w' ⟨rfl, rfl⟩
      go_wp2_with fail
      refine (all_nil w24).mono ?_
      rintro e w25 ⟨v, rfl, r1, b1⟩
      obtain ⟨na, nc, rfl⟩ : ∃ a c, v = .slice a 0 c := by
        rcases r1.1.2 with ⟨e, _⟩ | ⟨g, cap, cur, e, _⟩
        · exact ⟨_, _, e⟩
        · exact ⟨_, _, e⟩
      clear r1
      replace HR := Lib.hid (HR.out.below b1)
      replace HB := Lib.hid (HB.out.trans (b1.mono HB.out.size))
      replace HH := Lib.hid (Nat.le_trans HH.out b1.size)
      replace HFL := Lib.hid (CRow.below HFL.out b1)
      replace HLL := Lib.hid (CRow.below HLL.out b1)
      replace HZF := Lib.hid (show _ ∧ _ from ⟨Nat.lt_of_lt_of_le HZF.out.1 b1.size, Nat.lt_of_lt_of_le HZF.out.2 b1.size⟩)
      clear b1
      go_wp2_with fail
      refine (texts_nil w25).mono ?_
      rintro e w26 ⟨v, rfl, r1, b1⟩
      obtain ⟨ta, tc, rfl⟩ : ∃ a c, v = .slice a 0 c := by
        rcases r1.2 with ⟨e, _⟩ | ⟨g, cap, cur, e, _⟩
        · exact ⟨_, _, e⟩
        · exact ⟨_, _, e⟩
      clear r1
      replace HR := Lib.hid (HR.out.below b1)
      replace HB := Lib.hid (HB.out.trans (b1.mono HB.out.size))
      replace HH := Lib.hid (Nat.le_trans HH.out b1.size)
      replace HFL := Lib.hid (CRow.below HFL.out b1)
      replace HLL := Lib.hid (CRow.below HLL.out b1)
      replace HZF := Lib.hid (show _ ∧ _ from ⟨Nat.lt_of_lt_of_le HZF.out.1 b1.size, Nat.lt_of_lt_of_le HZF.out.2 b1.size⟩)
      clear b1
      go_wp2_with fail
      refine (same_nn w26).mono ?_
      rintro e w' ⟨rfl, rfl⟩
      go_wp2_with fail
      refine (same_nr w26 a).mono ?_
      rintro e w' ⟨rfl, rfl⟩
      go_wp2_with fail
      refine (rs_new 3 0 HR.out (by decide) HH.out HB.out.size (fun j h => h.elim (fun h => by rw [h]; exact HZF.out.1) (fun h => by rw [h]; exact HZF.out.2))).mono ?_
      rintro e w27 ⟨m, rfl, hr, b1⟩
      replace HR := Lib.hid hr
      replace HB := Lib.hid (HB.out.trans (b1.mono HB.out.size))
      replace HH := Lib.hid (Nat.le_refl w27.heap.size)
      replace HFL := Lib.hid (CRow.below HFL.out b1)
      replace HLL := Lib.hid (CRow.below HLL.out b1)
      replace HZF := Lib.hid (show _ ∧ _ from ⟨Nat.lt_of_lt_of_le HZF.out.1 b1.size, Nat.lt_of_lt_of_le HZF.out.2 b1.size⟩)
      replace HR := Lib.hid (HR.out.cast (show _ = ([⟨r, 1000, lastN 1000 (chs 1005), 1⟩, ⟨a, 3, [leR 120], 0⟩, ⟨b, 4, [], 0⟩, ⟨c, 3, [leR 120, []], 0⟩, ⟨d, 3, [], 0⟩, ⟨m, 3, [], 0⟩] : List Rr) from rfl))
      clear hr b1
      go_wp2_with fail
      refine (rs_new 3 1 HR.out (by decide) HH.out HB.out.size (fun j h => h.elim (fun h => by rw [h]; exact HZF.out.1) (fun h => by rw [h]; exact HZF.out.2))).mono ?_
      rintro e w28 ⟨n, rfl, hr, b1⟩
      replace HR := Lib.hid hr
      replace HB := Lib.hid (HB.out.trans (b1.mono HB.out.size))
      replace HH := Lib.hid (Nat.le_refl w28.heap.size)
      replace HFL := Lib.hid (CRow.below HFL.out b1)
      replace HLL := Lib.hid (CRow.below HLL.out b1)
      replace HZF := Lib.hid (show _ ∧ _ from ⟨Nat.lt_of_lt_of_le HZF.out.1 b1.size, Nat.lt_of_lt_of_le HZF.out.2 b1.size⟩)
      replace HR := Lib.hid (HR.out.cast (show _ = ([⟨r, 1000, lastN 1000 (chs 1005), 1⟩, ⟨a, 3, [leR 120], 0⟩, ⟨b, 4, [], 0⟩, ⟨c, 3, [leR 120, []], 0⟩, ⟨d, 3, [], 0⟩, ⟨m, 3, [], 0⟩, ⟨n, 3, [], 1⟩] : List Rr) from rfl))
      clear hr b1
      go_wp2_with fail
      refine (rs_same (i := 5) (j := 6) HR.out rfl rfl).mono ?_
      rintro e w29 ⟨rfl, b1⟩
      rw [show decide ((3 : Nat) = 3 ∧ (0 : Int) = 1 ∧ ([] : List Cls) = []) = false by decide +kernel]
      replace HR := Lib.hid (HR.out.below b1)
      replace HB := Lib.hid (HB.out.trans (b1.mono HB.out.size))
      replace HH := Lib.hid (Nat.le_trans HH.out b1.size)
      replace HFL := Lib.hid (CRow.below HFL.out b1)
      replace HLL := Lib.hid (CRow.below HLL.out b1)
      replace HZF := Lib.hid (show _ ∧ _ from ⟨Nat.lt_of_lt_of_le HZF.out.1 b1.size, Nat.lt_of_lt_of_le HZF.out.2 b1.size⟩)
      clear b1
      go_wp2
      go_ret
      exact ⟨rfl, HB.out⟩
end Go.Proofs.Ytnefamgjlhdffaa.Lab
