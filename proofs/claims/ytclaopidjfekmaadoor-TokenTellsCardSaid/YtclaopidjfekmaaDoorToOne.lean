/- The reference's heading and one: the bytes of a right token. -/
import Derived.Test.YtclaopidjfekmaaDoorToEnc
namespace Go.Proofs.YtclaopidjfekmaaDoor.Lab
open Go Go.RowKit

theorem byte_conv (w : World) (b n : Nat) (u : UInt8) (hn : n = b) (h : w.cell? ⟨b, 0, none⟩ = some (.int .u8 ((u.toNat : Nat) : Int))) : (convert 39 9 (.slice (some ⟨n, 0, none⟩) 1 1)).run Tryd.prog w = .ok (.string ⟨#[u]⟩) w := by
  subst hn
  exact run_convert_bytes_back (P := Tryd.prog) w 39 9 5 ⟨n, 0, none⟩ 1 [u] Tryd.underlying39 Tryd.underlying5 Tryd.underlying9 (by
    intro j hj
    have hj' : j < 1 := hj
    obtain rfl : j = 0 := by omega
    simpa [Addr.add] using h)

set_option maxHeartbeats 8000000 in
set_option maxRecDepth 100000 in
theorem rheading_any (k r p f : Int) (va : Option Addr) (vn vc : Nat) (P : Rws) (i d : ByteArray) (w : World) (hM : MatAt w (.slice va vn vc) P) (hh : hdOk ⟨k, r, p, P, i, f, d⟩) :
    Calls Tryd.prog 57 #[tok7 k r p (.slice va vn vc) i f d] w fun e w' => e = .returned (.string (strL (headL ⟨k, r, p, P, i, f, d⟩))) ∧ Below w.heap.size w w' := by
  obtain ⟨hp, hP, hi, hf0, hf1⟩ := hh
  simp only at hp hP hi hf0 hf1
  obtain ⟨u, eu, hu⟩ := oneL_nat (c := p) (by omega) (by omega)
  obtain ⟨y, ey, hy⟩ := oneL_nat (c := f) (by omega) (by omega)
  have HHL := Lib.hid (show headL ⟨k, r, p, P, i, f, d⟩ = (if p = 0 then [] else [u]) ++ allT P ++ bl i ++ [y] by rw [headL]; simp only; rw [eu, ey])
  have HF := Lib.hid hy.symm
  have HU := Lib.hid hu.symm
  obtain ⟨w1, hw1⟩ : ∃ w1, w1 = w.alloc (.cells #[.int .i64 k, .int .i32 r, .int .u8 p, .slice va vn vc, .string i, .int .u8 f, .string d] 27) := ⟨_, rfl⟩
  have b1 : Below w.heap.size w w1 := by rw [hw1]; exact (Below.refl _ _).alloc (Nat.le_refl _) _
  have HB1 := Lib.hid b1
  have HM1 := Lib.hid (hM.below b1)
  have HT := Lib.hid (show T7 w1 w.heap.size (.int .i64 k) (.int .i32 r) (.int .u8 p) (.slice va vn vc) (.string i) (.int .u8 f) (.string d) by rw [hw1]; exact T7.newAt w w.heap.size rfl _ _ _ _ _ _ _ _)
  have HPP := Lib.hid (And.intro hP.1 hP.2.1)
  have hi2 := hi.1
  have HHP := Lib.hid hp
  clear hM b1 hP hi eu ey hu hy hp
  go_enter Tryd.func57, Tryd.ntmps57
  go_upto_region 2 with (fail)
  rw [← hw1]
  clear hw1
  obtain ⟨_, ⟨c0, c1, c2, c3, c4, c5, c6⟩, _⟩ := HT.out
  go_upto_if 6 with (fail)
  go_cut [3] (fun x wc => ∃ X, x = .string X ∧ Hid (bl X = if p = 0 then [] else [u]) ∧ Hid (Below w1.heap.size w1 wc))
  case first =>
    by_cases h0 : p = 0
    · have HX := Lib.hid (show bl (⟨#[]⟩ : ByteArray) = if p = 0 then [] else [u] by rw [if_pos h0])
      have e0 : (p != 0) = false := by simp [h0]
      have e1 : (p == 0) = true := by simp [h0]
      clear h0
      go_wp2
      go_meet
      case rel => exact ⟨_, rfl, HX, Lib.hid (Below.refl _ _)⟩
    · have HX := Lib.hid (show bl (⟨#[u]⟩ : ByteArray) = if p = 0 then [] else [u] by rw [if_neg h0])
      have e0 : (p != 0) = true := by simpa using h0
      have e1 : (p == 0) = false := by simpa using h0
      have hcv := byte_conv (w1.alloc (.cells #[.int .u8 p] 5)) w1.heap.size w1.heap.size u rfl (by rw [← HU.out]; simp)
      clear h0
      go_wp2
      go_meet
      case rel => exact ⟨_, rfl, HX, Lib.hid ((Below.refl _ _).alloc (Nat.le_refl _) _)⟩
  case rest =>
    obtain ⟨X, rfl, HX, HB2⟩ := hcut
    obtain ⟨w2, hw2⟩ : ∃ w2 : World, w2 = wc := ⟨_, rfl⟩
    rw [← hw2] at HB2 ⊢
    clear hw2 c0 c1 c2 c3 c4 c5 c6
    have HT2 := Lib.hid (HT.out.below HB2.out)
    have HM2 := Lib.hid (HM1.out.below HB2.out)
    have hsX : X.size ≤ 1 := by rw [← bl_len, HX.out]; split <;> simp
    obtain ⟨PS, hPS⟩ : ∃ PS, PS = strL (allT P) := ⟨_, rfl⟩
    have hsP : PS.size ≤ 1568 := by rw [hPS, size_str]; exact all_len HPP.out.1 HPP.out.2
    have n1 : ¬ 9223372036854775807 < X.size + PS.size := by omega
    have n2 : ¬ 9223372036854775807 < X.size + PS.size + i.size := by omega
    have n3 : ¬ 9223372036854775807 < X.size + PS.size + i.size + 1 := by omega
    have HPS := Lib.hid hPS
    have C1 := Lib.hid (show ∀ W, Below w2.heap.size w2 W → Calls Tryd.prog 72 #[.slice va vn vc] W fun e w' => e = .returned (.string PS) ∧ Below W.heap.size W w' from fun W hb => by
      rw [HPS.out]
      exact rparams_any _ P W (HM2.out.below hb) HPP.out.1 HPP.out.2)
    have HFIN := Lib.hid (show bl (X ++ PS ++ i ++ ⟨#[y]⟩) = bl (strL (headL ⟨k, r, p, P, i, f, d⟩)) by rw [bl_cat, bl_cat, bl_cat, HX.out, HPS.out, bl_str, bl_str, HHL.out])
    clear hPS hsX hsP
    go_upto_region 4 with (fail)
    have BB : Below w2.heap.size w2 w2.drew := ⟨rfl, rfl, rfl, Nat.le_refl _, fun _ _ => rfl⟩
    refine wp_region_held_drew (S := fun w' => w'.cell? ⟨w.heap.size, 0, none⟩ = some (.int .i64 k) ∧ w'.cell? ⟨w.heap.size, 1, none⟩ = some (.int .i32 r) ∧ w'.cell? ⟨w.heap.size, 2, none⟩ = some (.int .u8 p) ∧ w'.cell? ⟨w.heap.size, 3, none⟩ = some (.slice va vn vc) ∧ w'.cell? ⟨w.heap.size, 4, none⟩ = some (.string i) ∧ w'.cell? ⟨w.heap.size, 5, none⟩ = some (.int .u8 f) ∧ w'.cell? ⟨w.heap.size, 6, none⟩ = some (.string d)) (by kernel_rfl) ?_ (fun hHeld => ?_)
    · exact (HT2.out.below (Below.refl _ _)).2.1
    obtain ⟨u0, hu0⟩ : ∃ u0, u0 = w2.drew := ⟨_, rfl⟩
    rw [← hu0] at BB hHeld ⊢
    clear hu0
    refine take_at (i := 0) (v := ?_) rfl (by kernel_rfl) (by kernel_rfl) (by kernel_rfl) (fun _ _ _ h => h) (by kernel_rfl) (by assumption) ?_ ?_
    rotate_left
    · (intro w hSw; (try dsimp only at hSw); go_simp; try with_reducible rfl)
    simp only [Act.put, List.setIfInBounds_toArray, List.set_cons_zero, List.set_cons_succ]
    refine take_at (i := 1) (v := ?_) rfl (by kernel_rfl) (by kernel_rfl) (by kernel_rfl) (fun _ _ _ h => h) (by kernel_rfl) (by assumption) ?_ ?_
    rotate_left
    · (intro w hSw; (try dsimp only at hSw); go_simp; try with_reducible rfl)
    simp only [Act.put, List.setIfInBounds_toArray, List.set_cons_zero, List.set_cons_succ]
    refine take_at (i := 2) (v := ?_) rfl (by kernel_rfl) (by kernel_rfl) (by kernel_rfl) (fun _ _ _ h => h) (by kernel_rfl) (by assumption) ?_ ?_
    rotate_left
    · (intro w hSw; (try dsimp only at hSw); go_simp; try with_reducible rfl)
    simp only [Act.put, List.setIfInBounds_toArray, List.set_cons_zero, List.set_cons_succ]
    refine take_at (i := 5) (v := ?_) rfl (by kernel_rfl) (by kernel_rfl) (by kernel_rfl) (fun _ _ _ h => h) (by kernel_rfl) (by assumption) ?_ ?_
    rotate_left
    · (intro w hSw; (try dsimp only at hSw); go_simp; try with_reducible rfl)
    simp only [Act.put, List.setIfInBounds_toArray, List.set_cons_zero, List.set_cons_succ]
    refine take_at (i := 6) (v := ?_) rfl (by kernel_rfl) (by kernel_rfl) (by kernel_rfl) (fun _ _ _ h => h) (by kernel_rfl) (by assumption) ?_ ?_
    rotate_left
    · (intro w hSw; (try dsimp only at hSw); go_simp; try with_reducible rfl)
    simp only [Act.put, List.setIfInBounds_toArray, List.set_cons_zero, List.set_cons_succ]
    refine take_at (i := 8) (v := ?_) rfl (by kernel_rfl) (by kernel_rfl) (by kernel_rfl) (fun _ _ _ h => h) (by kernel_rfl) (by assumption) ?_ ?_
    rotate_left
    · (intro w hSw; (try dsimp only at hSw); go_simp; try with_reducible rfl)
    simp only [Act.put, List.setIfInBounds_toArray, List.set_cons_zero, List.set_cons_succ]
    refine take_at (i := 9) (v := ?_) rfl (by kernel_rfl) (by kernel_rfl) (by kernel_rfl) (fun _ _ _ h => h) (by kernel_rfl) (by assumption) ?_ ?_
    rotate_left
    · (intro w hSw; (try dsimp only at hSw); go_simp; try with_reducible rfl)
    simp only [Act.put, List.setIfInBounds_toArray, List.set_cons_zero, List.set_cons_succ]
    refine two_at (i := 3) (j := 10) rfl rfl (by kernel_rfl) (by kernel_rfl) (by kernel_rfl) (fun K hK => ?_) (fun K hK => ?_)
    · go_simp
      refine (C1.out _ BB).mono ?_
      rintro e y1 ⟨rfl, bb⟩
      replace BB := BB.trans (bb.mono BB.size)
      clear bb hHeld
      go_wp2_with fail
      refine hK.out _ _ ?_ (fun hHeld => ?_)
      · exact (HT2.out.below BB).2.1
      clear hK K
      try simp only [Act.put, List.setIfInBounds_toArray, List.set_cons_zero, List.set_cons_succ]
      refine take_at (i := 4) (v := ?_) rfl (by kernel_rfl) (by kernel_rfl) (by kernel_rfl) (fun _ _ _ h => h) (by kernel_rfl) (by assumption) ?_ ?_
      rotate_left
      · (intro w hSw; (try dsimp only at hSw); go_simp; try with_reducible rfl)
      simp only [Act.put, List.setIfInBounds_toArray, List.set_cons_zero, List.set_cons_succ]
      refine take_at (i := 7) (v := ?_) rfl (by kernel_rfl) (by kernel_rfl) (by kernel_rfl) (fun _ _ _ h => h) (by kernel_rfl) (by assumption) ?_ ?_
      rotate_left
      · (intro w hSw; (try dsimp only at hSw); go_simp; try with_reducible rfl)
      simp only [Act.put, List.setIfInBounds_toArray, List.set_cons_zero, List.set_cons_succ]
      refine do_at (i := 10) rfl (by kernel_rfl) (by kernel_rfl) (fun K hK => ?_)
      go_simp
      obtain ⟨y2, hy2⟩ : ∃ y, y = y1.alloc (.cells #[.int .u8 f] 5) := ⟨_, rfl⟩
      have bb : Below y1.heap.size y1 y2 := by rw [hy2]; exact (Below.refl _ _).alloc (Nat.le_refl _) _
      obtain ⟨b9, hb9⟩ : ∃ b, y1.heap.size = b := ⟨_, rfl⟩
      have c9 : y2.cell? ⟨b9, 0, none⟩ = some (.int .u8 f) := by rw [hy2, ← hb9]; simp
      have l9 : b9 < y2.heap.size := by rw [hy2, ← hb9]; simp
      replace BB := BB.trans (bb.mono BB.size)
      rw [← hy2, hb9]
      clear hy2 bb hb9 hHeld
      refine hK.out _ _ ?_ (fun hHeld => ?_)
      · exact (HT2.out.below BB).2.1
      clear hK K
      try simp only [Act.put, List.setIfInBounds_toArray, List.set_cons_zero, List.set_cons_succ]
      refine do_at (i := 11) rfl (by kernel_rfl) (by kernel_rfl) (fun K hK => ?_)
      have hcv := byte_conv y2 b9 b9 y rfl (by rw [← HF.out]; exact c9)
      go_simp
      clear hHeld hcv
      refine hK.out _ _ ?_ (fun hHeld => ?_)
      · exact (HT2.out.below BB).2.1
      clear hK K
      try simp only [Act.put, List.setIfInBounds_toArray, List.set_cons_zero, List.set_cons_succ]
      refine take_at (i := 12) (v := ?_) rfl (by kernel_rfl) (by kernel_rfl) (by kernel_rfl) (fun _ _ _ h => h) (by kernel_rfl) (by assumption) ?_ ?_
      rotate_left
      · (intro w hSw; (try dsimp only at hSw); go_simp; try with_reducible rfl)
      simp only [Act.put, List.setIfInBounds_toArray, List.set_cons_zero, List.set_cons_succ]
      refine take_at (i := 13) (v := ?_) rfl (by kernel_rfl) (by kernel_rfl) (by kernel_rfl) (fun _ _ _ h => h) (by kernel_rfl) (by assumption) ?_ ?_
      rotate_left
      · (intro w hSw; (try dsimp only at hSw); go_simp; try with_reducible rfl)
      simp only [Act.put, List.setIfInBounds_toArray, List.set_cons_zero, List.set_cons_succ]
      refine wpAnyH_done (by kernel_rfl) ?_ _
      have HBF := Lib.hid (HB1.out.trans ((HB2.out.trans (BB.mono HB2.out.size)).mono HB1.out.size))
      clear BB hHeld
      go_wp2
      go_ret
      exact ⟨ret_str HFIN.out, HBF.out⟩
    · go_simp
      obtain ⟨y4, hy4⟩ : ∃ y, y = u0.alloc (.cells #[.int .u8 f] 5) := ⟨_, rfl⟩
      have bb : Below u0.heap.size u0 y4 := by rw [hy4]; exact (Below.refl _ _).alloc (Nat.le_refl _) _
      obtain ⟨b9, hb9⟩ : ∃ b, u0.heap.size = b := ⟨_, rfl⟩
      have c9 : y4.cell? ⟨b9, 0, none⟩ = some (.int .u8 f) := by rw [hy4, ← hb9]; simp
      have l9 : b9 < y4.heap.size := by rw [hy4, ← hb9]; simp
      replace BB := BB.trans (bb.mono BB.size)
      rw [← hy4, hb9]
      clear hy4 bb hb9 hHeld
      refine hK.out _ _ ?_ (fun hHeld => ?_)
      · exact (HT2.out.below BB).2.1
      clear hK K
      try simp only [Act.put, List.setIfInBounds_toArray, List.set_cons_zero, List.set_cons_succ]
      refine two_at (i := 3) (j := 11) rfl rfl (by kernel_rfl) (by kernel_rfl) (by kernel_rfl) (fun K hK => ?_) (fun K hK => ?_)
      · go_simp
        refine (C1.out _ BB).mono ?_
        rintro e y5 ⟨rfl, bb⟩
        replace c9 := (bb.cell (p := ⟨b9, 0, none⟩) l9).trans c9
        replace l9 : b9 < y5.heap.size := Nat.lt_of_lt_of_le l9 bb.size
        replace BB := BB.trans (bb.mono BB.size)
        clear bb hHeld
        go_wp2_with fail
        refine hK.out _ _ ?_ (fun hHeld => ?_)
        · exact (HT2.out.below BB).2.1
        clear hK K
        try simp only [Act.put, List.setIfInBounds_toArray, List.set_cons_zero, List.set_cons_succ]
        refine take_at (i := 4) (v := ?_) rfl (by kernel_rfl) (by kernel_rfl) (by kernel_rfl) (fun _ _ _ h => h) (by kernel_rfl) (by assumption) ?_ ?_
        rotate_left
        · (intro w hSw; (try dsimp only at hSw); go_simp; try with_reducible rfl)
        simp only [Act.put, List.setIfInBounds_toArray, List.set_cons_zero, List.set_cons_succ]
        refine take_at (i := 7) (v := ?_) rfl (by kernel_rfl) (by kernel_rfl) (by kernel_rfl) (fun _ _ _ h => h) (by kernel_rfl) (by assumption) ?_ ?_
        rotate_left
        · (intro w hSw; (try dsimp only at hSw); go_simp; try with_reducible rfl)
        simp only [Act.put, List.setIfInBounds_toArray, List.set_cons_zero, List.set_cons_succ]
        refine do_at (i := 11) rfl (by kernel_rfl) (by kernel_rfl) (fun K hK => ?_)
        have hcv := byte_conv y5 b9 b9 y rfl (by rw [← HF.out]; exact c9)
        go_simp
        clear hHeld hcv
        refine hK.out _ _ ?_ (fun hHeld => ?_)
        · exact (HT2.out.below BB).2.1
        clear hK K
        try simp only [Act.put, List.setIfInBounds_toArray, List.set_cons_zero, List.set_cons_succ]
        refine take_at (i := 12) (v := ?_) rfl (by kernel_rfl) (by kernel_rfl) (by kernel_rfl) (fun _ _ _ h => h) (by kernel_rfl) (by assumption) ?_ ?_
        rotate_left
        · (intro w hSw; (try dsimp only at hSw); go_simp; try with_reducible rfl)
        simp only [Act.put, List.setIfInBounds_toArray, List.set_cons_zero, List.set_cons_succ]
        refine take_at (i := 13) (v := ?_) rfl (by kernel_rfl) (by kernel_rfl) (by kernel_rfl) (fun _ _ _ h => h) (by kernel_rfl) (by assumption) ?_ ?_
        rotate_left
        · (intro w hSw; (try dsimp only at hSw); go_simp; try with_reducible rfl)
        simp only [Act.put, List.setIfInBounds_toArray, List.set_cons_zero, List.set_cons_succ]
        refine wpAnyH_done (by kernel_rfl) ?_ _
        have HBF := Lib.hid (HB1.out.trans ((HB2.out.trans (BB.mono HB2.out.size)).mono HB1.out.size))
        clear BB hHeld
        go_wp2
        go_ret
        exact ⟨ret_str HFIN.out, HBF.out⟩
      · have hcv := byte_conv y4 b9 b9 y rfl (by rw [← HF.out]; exact c9)
        go_simp
        clear hHeld hcv
        refine hK.out _ _ ?_ (fun hHeld => ?_)
        · exact (HT2.out.below BB).2.1
        clear hK K
        try simp only [Act.put, List.setIfInBounds_toArray, List.set_cons_zero, List.set_cons_succ]
        refine do_at (i := 3) rfl (by kernel_rfl) (by kernel_rfl) (fun K hK => ?_)
        go_simp
        refine (C1.out _ BB).mono ?_
        rintro e y8 ⟨rfl, bb⟩
        replace c9 := (bb.cell (p := ⟨b9, 0, none⟩) l9).trans c9
        replace l9 : b9 < y8.heap.size := Nat.lt_of_lt_of_le l9 bb.size
        replace BB := BB.trans (bb.mono BB.size)
        clear bb hHeld
        go_wp2_with fail
        refine hK.out _ _ ?_ (fun hHeld => ?_)
        · exact (HT2.out.below BB).2.1
        clear hK K
        try simp only [Act.put, List.setIfInBounds_toArray, List.set_cons_zero, List.set_cons_succ]
        refine take_at (i := 4) (v := ?_) rfl (by kernel_rfl) (by kernel_rfl) (by kernel_rfl) (fun _ _ _ h => h) (by kernel_rfl) (by assumption) ?_ ?_
        rotate_left
        · (intro w hSw; (try dsimp only at hSw); go_simp; try with_reducible rfl)
        simp only [Act.put, List.setIfInBounds_toArray, List.set_cons_zero, List.set_cons_succ]
        refine take_at (i := 7) (v := ?_) rfl (by kernel_rfl) (by kernel_rfl) (by kernel_rfl) (fun _ _ _ h => h) (by kernel_rfl) (by assumption) ?_ ?_
        rotate_left
        · (intro w hSw; (try dsimp only at hSw); go_simp; try with_reducible rfl)
        simp only [Act.put, List.setIfInBounds_toArray, List.set_cons_zero, List.set_cons_succ]
        refine take_at (i := 12) (v := ?_) rfl (by kernel_rfl) (by kernel_rfl) (by kernel_rfl) (fun _ _ _ h => h) (by kernel_rfl) (by assumption) ?_ ?_
        rotate_left
        · (intro w hSw; (try dsimp only at hSw); go_simp; try with_reducible rfl)
        simp only [Act.put, List.setIfInBounds_toArray, List.set_cons_zero, List.set_cons_succ]
        refine take_at (i := 13) (v := ?_) rfl (by kernel_rfl) (by kernel_rfl) (by kernel_rfl) (fun _ _ _ h => h) (by kernel_rfl) (by assumption) ?_ ?_
        rotate_left
        · (intro w hSw; (try dsimp only at hSw); go_simp; try with_reducible rfl)
        simp only [Act.put, List.setIfInBounds_toArray, List.set_cons_zero, List.set_cons_succ]
        refine wpAnyH_done (by kernel_rfl) ?_ _
        have HBF := Lib.hid (HB1.out.trans ((HB2.out.trans (BB.mono HB2.out.size)).mono HB1.out.size))
        clear BB hHeld
        go_wp2
        go_ret
        exact ⟨ret_str HFIN.out, HBF.out⟩

set_option maxHeartbeats 8000000 in
set_option maxRecDepth 100000 in
theorem rone0_any (r p f : Int) (va : Option Addr) (vn vc : Nat) (P : Rws) (i d : ByteArray) (w : World) (hp : prnOk r) :
    Calls Tryd.prog 26 #[tok7 0 r p (.slice va vn vc) i f d] w fun e w' => e = .returned (.string (strL (tokL ⟨0, r, p, P, i, f, d⟩))) ∧ Below w.heap.size w w' := by
  obtain ⟨w1, hw1⟩ : ∃ w1, w1 = w.alloc (.cells #[.int .i64 0, .int .i32 r, .int .u8 p, .slice va vn vc, .string i, .int .u8 f, .string d] 27) := ⟨_, rfl⟩
  have b1 : Below w.heap.size w w1 := by rw [hw1]; exact (Below.refl _ _).alloc (Nat.le_refl _) _
  have HB1 := Lib.hid b1
  have HT := Lib.hid (show T7 w1 w.heap.size (.int .i64 0) (.int .i32 r) (.int .u8 p) (.slice va vn vc) (.string i) (.int .u8 f) (.string d) by rw [hw1]; exact T7.newAt w w.heap.size rfl _ _ _ _ _ _ _ _)
  obtain ⟨c, rfl⟩ : ∃ c : Nat, r = c := ⟨r.toNat, by have := hp.2.1; omega⟩
  have HV := Lib.hid hp.1
  go_enter Tryd.func26, Tryd.ntmps26
  go_upto_region 1 with (fail)
  rw [← hw1]
  clear hw1 b1
  obtain ⟨_, ⟨c0, c1, c2, c3, c4, c5, c6⟩, _⟩ := HT.out
  go_wp2_with fail
  refine (rencode_any w1.heap.size 1 c _ rfl HV.out _ (by simp)).mono ?_
  rintro e w3 ⟨rfl, b3⟩
  have HB3 := Lib.hid (HB1.out.trans (((Below.refl w1.heap.size w1).alloc (Nat.le_refl _) (.cells #[.int .i32 (c : Int)] 21)).trans (b3.mono (by simp)) |>.mono HB1.out.size))
  clear b3
  go_wp2
  go_ret
  exact ⟨ret_str (by rw [bl_str, bl_str]; simp [tokL]), HB3.out⟩

set_option maxHeartbeats 8000000 in
set_option maxRecDepth 100000 in
theorem rone1_any (r p f : Int) (va : Option Addr) (vn vc : Nat) (P : Rws) (i d : ByteArray) (w : World) (hf : 0 ≤ f ∧ f ≤ 255) :
    Calls Tryd.prog 26 #[tok7 1 r p (.slice va vn vc) i f d] w fun e w' => e = .returned (.string (strL (tokL ⟨1, r, p, P, i, f, d⟩))) ∧ Below w.heap.size w w' := by
  obtain ⟨w1, hw1⟩ : ∃ w1, w1 = w.alloc (.cells #[.int .i64 1, .int .i32 r, .int .u8 p, .slice va vn vc, .string i, .int .u8 f, .string d] 27) := ⟨_, rfl⟩
  have b1 : Below w.heap.size w w1 := by rw [hw1]; exact (Below.refl _ _).alloc (Nat.le_refl _) _
  have HB1 := Lib.hid b1
  have HT := Lib.hid (show T7 w1 w.heap.size (.int .i64 1) (.int .i32 r) (.int .u8 p) (.slice va vn vc) (.string i) (.int .u8 f) (.string d) by rw [hw1]; exact T7.newAt w w.heap.size rfl _ _ _ _ _ _ _ _)
  obtain ⟨u, eu, hu⟩ := oneL_nat hf.1 hf.2
  have HHL := Lib.hid (show tokL ⟨1, r, p, P, i, f, d⟩ = [u] by rw [← eu]; simp [tokL])
  have hcv := byte_conv (w1.alloc (.cells #[.int .u8 f] 5)) w1.heap.size w1.heap.size u rfl (by rw [hu]; simp)
  clear eu hu hf
  go_enter Tryd.func26, Tryd.ntmps26
  go_upto_region 1 with (fail)
  rw [← hw1]
  clear hw1 b1
  obtain ⟨_, ⟨c0, c1, c2, c3, c4, c5, c6⟩, _⟩ := HT.out
  go_wp2
  go_ret
  exact ⟨ret_str (by rw [bl_str, HHL.out]), HB1.out.trans (((Below.refl w1.heap.size w1).alloc (Nat.le_refl _) _).mono HB1.out.size)⟩

set_option maxHeartbeats 8000000 in
set_option maxRecDepth 100000 in
theorem rone2_any (r p f : Int) (va : Option Addr) (vn vc : Nat) (P : Rws) (i d : ByteArray) (w : World) (hf : 0 ≤ f ∧ f ≤ 255) (hi : i.size ≤ 2) :
    Calls Tryd.prog 26 #[tok7 2 r p (.slice va vn vc) i f d] w fun e w' => e = .returned (.string (strL (tokL ⟨2, r, p, P, i, f, d⟩))) ∧ Below w.heap.size w w' := by
  obtain ⟨w1, hw1⟩ : ∃ w1, w1 = w.alloc (.cells #[.int .i64 2, .int .i32 r, .int .u8 p, .slice va vn vc, .string i, .int .u8 f, .string d] 27) := ⟨_, rfl⟩
  have b1 : Below w.heap.size w w1 := by rw [hw1]; exact (Below.refl _ _).alloc (Nat.le_refl _) _
  have HB1 := Lib.hid b1
  have HT := Lib.hid (show T7 w1 w.heap.size (.int .i64 2) (.int .i32 r) (.int .u8 p) (.slice va vn vc) (.string i) (.int .u8 f) (.string d) by rw [hw1]; exact T7.newAt w w.heap.size rfl _ _ _ _ _ _ _ _)
  obtain ⟨u, eu, hu⟩ := oneL_nat hf.1 hf.2
  have HHL := Lib.hid (show tokL ⟨2, r, p, P, i, f, d⟩ = 27 :: (bl i ++ [u]) by rw [← eu]; simp [tokL])
  have hcv := byte_conv (w1.alloc (.cells #[.int .u8 f] 5)) w1.heap.size w1.heap.size u rfl (by rw [hu]; simp)
  have n1 : ¬ 9223372036854775807 < 1 + i.size := by omega
  have n2 : ¬ 9223372036854775807 < 1 + i.size + 1 := by omega
  clear eu hu hf
  go_enter Tryd.func26, Tryd.ntmps26
  go_upto_region 1 with (fail)
  rw [← hw1]
  clear hw1 b1
  obtain ⟨_, ⟨c0, c1, c2, c3, c4, c5, c6⟩, _⟩ := HT.out
  go_wp2
  go_ret
  exact ⟨ret_str (by rw [bl_str, HHL.out, bl_cat, bl_cat]; simp [bl]), HB1.out.trans (((Below.refl w1.heap.size w1).alloc (Nat.le_refl _) _).mono HB1.out.size)⟩

set_option maxHeartbeats 8000000 in
set_option maxRecDepth 100000 in
theorem rone3_any (r p f : Int) (va : Option Addr) (vn vc : Nat) (P : Rws) (i d : ByteArray) (w : World) (hM : MatAt w (.slice va vn vc) P) (hh : hdOk ⟨3, r, p, P, i, f, d⟩) :
    Calls Tryd.prog 26 #[tok7 3 r p (.slice va vn vc) i f d] w fun e w' => e = .returned (.string (strL (tokL ⟨3, r, p, P, i, f, d⟩))) ∧ Below w.heap.size w w' := by
  obtain ⟨w1, hw1⟩ : ∃ w1, w1 = w.alloc (.cells #[.int .i64 3, .int .i32 r, .int .u8 p, .slice va vn vc, .string i, .int .u8 f, .string d] 27) := ⟨_, rfl⟩
  have b1 : Below w.heap.size w w1 := by rw [hw1]; exact (Below.refl _ _).alloc (Nat.le_refl _) _
  have HB1 := Lib.hid b1
  have HT := Lib.hid (show T7 w1 w.heap.size (.int .i64 3) (.int .i32 r) (.int .u8 p) (.slice va vn vc) (.string i) (.int .u8 f) (.string d) by rw [hw1]; exact T7.newAt w w.heap.size rfl _ _ _ _ _ _ _ _)
  have HH := Lib.hid (rheading_any 3 r p f va vn vc P i d w1 (hM.below b1) hh)
  have HL := Lib.hid (head_len hh)
  have HTL := Lib.hid (tokL_3 (t := ⟨3, r, p, P, i, f, d⟩) rfl)
  clear hM hh
  go_enter Tryd.func26, Tryd.ntmps26
  go_upto_region 1 with (fail)
  rw [← hw1]
  clear hw1 b1
  obtain ⟨_, ⟨c0, c1, c2, c3, c4, c5, c6⟩, _⟩ := HT.out
  go_wp2_with fail
  refine HH.out.mono ?_
  rintro e w3 ⟨rfl, b3⟩
  have HB3 := Lib.hid (HB1.out.trans (b3.mono HB1.out.size))
  obtain ⟨X, hX⟩ : ∃ X, X = strL (headL ⟨3, r, p, P, i, f, d⟩) := ⟨_, rfl⟩
  rw [← hX]
  have hsX : X.size ≤ 1572 := by rw [hX, size_str]; exact HL.out
  have HX := Lib.hid hX
  have n1 : ¬ 9223372036854775807 < 2 + X.size := by omega
  clear b3 hX
  go_wp2
  go_ret
  exact ⟨ret_str (by rw [bl_str, HTL.out, bl_cat, HX.out, bl_str]; simp [bl]), HB3.out⟩

set_option maxHeartbeats 8000000 in
set_option maxRecDepth 100000 in
theorem rone4_any (r p f : Int) (va : Option Addr) (vn vc : Nat) (P : Rws) (i d : ByteArray) (w : World) (hd : d.size ≤ 1024) :
    Calls Tryd.prog 26 #[tok7 4 r p (.slice va vn vc) i f d] w fun e w' => e = .returned (.string (strL (tokL ⟨4, r, p, P, i, f, d⟩))) ∧ Below w.heap.size w w' := by
  obtain ⟨w1, hw1⟩ : ∃ w1, w1 = w.alloc (.cells #[.int .i64 4, .int .i32 r, .int .u8 p, .slice va vn vc, .string i, .int .u8 f, .string d] 27) := ⟨_, rfl⟩
  have b1 : Below w.heap.size w w1 := by rw [hw1]; exact (Below.refl _ _).alloc (Nat.le_refl _) _
  have HB1 := Lib.hid b1
  have HT := Lib.hid (show T7 w1 w.heap.size (.int .i64 4) (.int .i32 r) (.int .u8 p) (.slice va vn vc) (.string i) (.int .u8 f) (.string d) by rw [hw1]; exact T7.newAt w w.heap.size rfl _ _ _ _ _ _ _ _)
  have HTL := Lib.hid (tokL_4 (t := ⟨4, r, p, P, i, f, d⟩) rfl)
  have n1 : ¬ 9223372036854775807 < 2 + d.size := by omega
  have n2 : ¬ 9223372036854775807 < 2 + d.size + 1 := by omega
  go_enter Tryd.func26, Tryd.ntmps26
  go_upto_region 1 with (fail)
  rw [← hw1]
  clear hw1 b1
  obtain ⟨_, ⟨c0, c1, c2, c3, c4, c5, c6⟩, _⟩ := HT.out
  go_wp2
  go_ret
  exact ⟨ret_str (by rw [bl_str, HTL.out, bl_cat, bl_cat]; simp [bl]), HB1.out⟩

set_option maxHeartbeats 8000000 in
set_option maxRecDepth 100000 in
theorem rone5_any (r p f : Int) (va : Option Addr) (vn vc : Nat) (P : Rws) (i d : ByteArray) (w : World) (hM : MatAt w (.slice va vn vc) P) (hh : hdOk ⟨5, r, p, P, i, f, d⟩) (hd : d.size ≤ 1024) :
    Calls Tryd.prog 26 #[tok7 5 r p (.slice va vn vc) i f d] w fun e w' => e = .returned (.string (strL (tokL ⟨5, r, p, P, i, f, d⟩))) ∧ Below w.heap.size w w' := by
  obtain ⟨w1, hw1⟩ : ∃ w1, w1 = w.alloc (.cells #[.int .i64 5, .int .i32 r, .int .u8 p, .slice va vn vc, .string i, .int .u8 f, .string d] 27) := ⟨_, rfl⟩
  have b1 : Below w.heap.size w w1 := by rw [hw1]; exact (Below.refl _ _).alloc (Nat.le_refl _) _
  have HB1 := Lib.hid b1
  have HT := Lib.hid (show T7 w1 w.heap.size (.int .i64 5) (.int .i32 r) (.int .u8 p) (.slice va vn vc) (.string i) (.int .u8 f) (.string d) by rw [hw1]; exact T7.newAt w w.heap.size rfl _ _ _ _ _ _ _ _)
  obtain ⟨X, hX⟩ : ∃ X, X = strL (headL ⟨5, r, p, P, i, f, d⟩) := ⟨_, rfl⟩
  have HX := Lib.hid hX
  have HH := Lib.hid (show ∀ W, Below w1.heap.size w1 W → Calls Tryd.prog 57 #[tok7 5 r p (.slice va vn vc) i f d] W fun e w' => e = .returned (.string X) ∧ Below W.heap.size W w' from fun W hb => by
    rw [HX.out]
    exact rheading_any 5 r p f va vn vc P i d W ((hM.below b1).below hb) hh)
  have HL := Lib.hid (head_len hh)
  have HTL := Lib.hid (tokL_5 (t := ⟨5, r, p, P, i, f, d⟩) rfl)
  have hsX : X.size ≤ 1572 := by rw [hX, size_str]; exact HL.out
  have n1 : ¬ 9223372036854775807 < 2 + X.size := by omega
  have n2 : ¬ 9223372036854775807 < 2 + X.size + d.size := by omega
  have n3 : ¬ 9223372036854775807 < 2 + X.size + d.size + 2 := by omega
  clear hM hh hX hsX
  go_enter Tryd.func26, Tryd.ntmps26
  go_upto_region 1 with (fail)
  rw [← hw1]
  clear hw1 b1
  obtain ⟨_, ⟨c0, c1, c2, c3, c4, c5, c6⟩, _⟩ := HT.out
  go_upto_region 11 with (fail)
  clear c0 c1 c2 c3 c4 c5 c6
  have BB : Below w1.heap.size w1 w1.drew := ⟨rfl, rfl, rfl, Nat.le_refl _, fun _ _ => rfl⟩
  refine wp_region_held_drew (S := fun w' => w'.cell? ⟨w.heap.size, 0, none⟩ = some (.int .i64 5) ∧ w'.cell? ⟨w.heap.size, 1, none⟩ = some (.int .i32 r) ∧ w'.cell? ⟨w.heap.size, 2, none⟩ = some (.int .u8 p) ∧ w'.cell? ⟨w.heap.size, 3, none⟩ = some (.slice va vn vc) ∧ w'.cell? ⟨w.heap.size, 4, none⟩ = some (.string i) ∧ w'.cell? ⟨w.heap.size, 5, none⟩ = some (.int .u8 f) ∧ w'.cell? ⟨w.heap.size, 6, none⟩ = some (.string d)) (by kernel_rfl) ?_ (fun hHeld => ?_)
  · exact (HT.out.below (Below.refl _ _)).2.1
  obtain ⟨u0, hu0⟩ : ∃ u0, u0 = w1.drew := ⟨_, rfl⟩
  rw [← hu0] at BB hHeld ⊢
  clear hu0
  refine take_at (i := 0) (v := ?_) rfl (by kernel_rfl) (by kernel_rfl) (by kernel_rfl) (fun _ _ _ h => h) (by kernel_rfl) (by assumption) ?_ ?_
  rotate_left
  · (intro w hSw; (try dsimp only at hSw); go_simp; try with_reducible rfl)
  simp only [Act.put, List.setIfInBounds_toArray, List.set_cons_zero, List.set_cons_succ]
  refine take_at (i := 3) (v := ?_) rfl (by kernel_rfl) (by kernel_rfl) (by kernel_rfl) (fun _ _ _ h => h) (by kernel_rfl) (by assumption) ?_ ?_
  rotate_left
  · (intro w hSw; (try dsimp only at hSw); go_simp; try with_reducible rfl)
  simp only [Act.put, List.setIfInBounds_toArray, List.set_cons_zero, List.set_cons_succ]
  refine take_at (i := 4) (v := ?_) rfl (by kernel_rfl) (by kernel_rfl) (by kernel_rfl) (fun _ _ _ h => h) (by kernel_rfl) (by assumption) ?_ ?_
  rotate_left
  · (intro w hSw; (try dsimp only at hSw); go_simp; try with_reducible rfl)
  simp only [Act.put, List.setIfInBounds_toArray, List.set_cons_zero, List.set_cons_succ]
  refine do_at (i := 1) rfl (by kernel_rfl) (by kernel_rfl) (fun K hK => ?_)
  go_simp
  refine (HH.out _ BB).mono ?_
  rintro e y0 ⟨rfl, bb⟩
  replace BB := BB.trans (bb.mono BB.size)
  clear bb hHeld
  go_wp2_with fail
  refine hK.out _ _ ?_ (fun hHeld => ?_)
  · exact (HT.out.below BB).2.1
  clear hK K
  try simp only [Act.put, List.setIfInBounds_toArray, List.set_cons_zero, List.set_cons_succ]
  refine take_at (i := 2) (v := ?_) rfl (by kernel_rfl) (by kernel_rfl) (by kernel_rfl) (fun _ _ _ h => h) (by kernel_rfl) (by assumption) ?_ ?_
  rotate_left
  · (intro w hSw; (try dsimp only at hSw); go_simp; try with_reducible rfl)
  simp only [Act.put, List.setIfInBounds_toArray, List.set_cons_zero, List.set_cons_succ]
  refine take_at (i := 5) (v := ?_) rfl (by kernel_rfl) (by kernel_rfl) (by kernel_rfl) (fun _ _ _ h => h) (by kernel_rfl) (by assumption) ?_ ?_
  rotate_left
  · (intro w hSw; (try dsimp only at hSw); go_simp; try with_reducible rfl)
  simp only [Act.put, List.setIfInBounds_toArray, List.set_cons_zero, List.set_cons_succ]
  refine take_at (i := 6) (v := ?_) rfl (by kernel_rfl) (by kernel_rfl) (by kernel_rfl) (fun _ _ _ h => h) (by kernel_rfl) (by assumption) ?_ ?_
  rotate_left
  · (intro w hSw; (try dsimp only at hSw); go_simp; try with_reducible rfl)
  simp only [Act.put, List.setIfInBounds_toArray, List.set_cons_zero, List.set_cons_succ]
  refine take_at (i := 7) (v := ?_) rfl (by kernel_rfl) (by kernel_rfl) (by kernel_rfl) (fun _ _ _ h => h) (by kernel_rfl) (by assumption) ?_ ?_
  rotate_left
  · (intro w hSw; (try dsimp only at hSw); go_simp; try with_reducible rfl)
  simp only [Act.put, List.setIfInBounds_toArray, List.set_cons_zero, List.set_cons_succ]
  refine wpAnyH_done (by kernel_rfl) ?_ _
  have HBF := Lib.hid (HB1.out.trans (BB.mono HB1.out.size))
  clear BB hHeld
  go_wp2
  go_ret
  exact ⟨ret_str (by rw [bl_str, HTL.out, bl_cat, bl_cat, bl_cat, HX.out, bl_str]; simp [bl]), HBF.out⟩

/-- Of a right token: its bytes. -/
theorem rone_any (t : Tok) (va : Option Addr) (vn vc : Nat) (w : World) (hM : MatAt w (.slice va vn vc) t.P) (hR : Right t) (hw : t.wf) :
    Calls Tryd.prog 26 #[tokV t (.slice va vn vc)] w fun e w' => e = .returned (.string (strL (tokL t))) ∧ Below w.heap.size w w' := by
  obtain ⟨k, r, p, P, i, f, d⟩ := t
  have hf : 0 ≤ f ∧ f ≤ 255 := ⟨hw.2.2.1, hw.2.2.2⟩
  rcases hR with ⟨hk, _, _, _, _, _, h⟩ | ⟨hk, _⟩ | ⟨hk, _, _, _, _, h, _⟩ | ⟨hk, _, _, h⟩ | ⟨hk, _, _, _, _, _, h⟩ | ⟨hk, _, h, h2⟩
  · simp only at hk; subst hk; exact rone0_any r p f va vn vc P i d w h
  · simp only at hk; subst hk; exact rone1_any r p f va vn vc P i d w hf
  · simp only at hk; subst hk; exact rone2_any r p f va vn vc P i d w hf h.1
  · simp only at hk; subst hk; exact rone3_any r p f va vn vc P i d w hM h
  · simp only at hk; subst hk; exact rone4_any r p f va vn vc P i d w h.1
  · simp only at hk; subst hk; exact rone5_any r p f va vn vc P i d w hM h h2.1
end Go.Proofs.YtclaopidjfekmaaDoor.Lab
