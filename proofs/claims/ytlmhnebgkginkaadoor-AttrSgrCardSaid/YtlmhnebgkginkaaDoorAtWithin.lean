/- The colour of the numbers of one parameter; the one of the parameters behind. -/
import Derived.Test.YtlmhnebgkginkaaDoorAtMade
import Derived.Test.YtlmhnebgkginkaaDoorAtNums
namespace Go.Proofs.YtlmhnebgkginkaaDoor.Lab
open Go Go.RowKit

theorem withinM_of {row tail : List Int} {k : Int} (hk : row.getD 1 0 = k) (ht : tailM row = tail) : withinM row = if tail.length = needed k then madeM k (partsM partM tail) else none := by
  unfold withinM
  rw [hk, ht]
theorem made_len {k : Int} {c : Cl} {l : List Int} (h : madeM k l = some c) : k = 5 ∨ k = 2 := by
  unfold madeM at h
  split at h
  · simp at h
  · split at h
    · exact .inl (by assumption)
    · split at h
      · exact .inr (by assumption)
      · simp at h
set_option maxHeartbeats 1000000 in
set_option maxRecDepth 100000 in
theorem within_any (w : World) (X : Nat → Prop) (v : Value) (row : List Int) (h : NumsAt w X v row) (h2 : 2 ≤ row.length) : Calls Tryd.prog 70 #[v] w fun e w' => e = .returned (madeV (withinM row)) ∧ Below w.heap.size w w' := by
  obtain ⟨g, o, c, rfl, hc, hm, hX, hg, hcell⟩ := h.open (by omega)
  have hm' := hm
  unfold maxLen at hm'
  obtain ⟨k, hk⟩ : ∃ k, row.getD 1 0 = k := ⟨_, rfl⟩
  have a1 := hcell 1 (by omega)
  rw [hk] at a1
  obtain ⟨w0, hw0⟩ : ∃ w0, w0 = w.alloc (.cells #[.int .u8 0, .int .u8 0, .int .u8 0, .int .u8 0] 23) := ⟨_, rfl⟩
  have b0 : Below w.heap.size w w0 := by rw [hw0]; exact (Below.refl _ _).alloc (Nat.le_refl _) _
  have HZ := Lib.hid (show ColAt w0 w.heap.size Cl.zero by rw [hw0]; exact ColAt.newAt w _ rfl Cl.zero _)
  have HB := Lib.hid b0
  have HR := Lib.hid (h.below b0)
  have HA1 := Lib.hid ((b0.cell (p := ⟨g, o + 1, none⟩) hg).trans a1)
  obtain ⟨n, hn⟩ : ∃ n, n = row.length := ⟨_, rfl⟩
  have HN := Lib.hid hn
  have HTAIL := Lib.hid (show tailM row = if k = 2 ∧ (row.drop 2).length = 4 then (row.drop 2).drop 1 else row.drop 2 by unfold tailM; rw [hk, List.drop_drop])
  have HK := Lib.hid hk
  rw [← hn] at hm' HR hc h2 ⊢
  have hn1 : (1 : Int) < n := by omega
  clear hn hk a1 hcell hm b0 h
  go_enter Tryd.func70, Tryd.ntmps70
  go_wp2_with fail
  rw [← hw0]
  clear hw0
  refine wp_region_held_drew (S := fun w' => w'.cell? ⟨g, o + 1, none⟩ = some (.int .i64 k)) (by kernel_rfl) ?_ (fun hHeld => ?_)
  · exact HA1.out
  have BB : Below w0.heap.size w0 w0.drew := ⟨rfl, rfl, rfl, Nat.le_refl _, fun _ _ => rfl⟩
  obtain ⟨u0, hu0⟩ : ∃ u0, u0 = w0.drew := ⟨_, rfl⟩
  rw [← hu0] at BB hHeld ⊢
  clear hu0
  replace HZ := Lib.hid (HZ.out.below BB)
  replace HR := Lib.hid (HR.out.below BB)
  replace HA1 := Lib.hid ((BB.cell (p := ⟨g, o + 1, none⟩) (by have := HB.out.size; simp only; omega)).trans HA1.out)
  replace HB := Lib.hid (HB.out.trans (BB.mono HB.out.size))
  clear BB
  refine take_at (i := 0) (v := ?_) rfl (by kernel_rfl) (by kernel_rfl) (by kernel_rfl) (fun _ _ _ h => h) (by kernel_rfl) (by assumption) ?_ ?_
  rotate_left
  · (intro w hSw; (try dsimp only at hSw); go_simp; try with_reducible rfl)
  simp only [Act.put, List.setIfInBounds_toArray, List.set_cons_zero, List.set_cons_succ]
  refine take_at (i := 1) (v := ?_) rfl (by kernel_rfl) (by kernel_rfl) (by kernel_rfl) (fun _ _ _ h => h) (by kernel_rfl) (by assumption) ?_ ?_
  rotate_left
  · (intro w hSw; (try dsimp only at hSw); go_simp; try with_reducible rfl)
  simp only [Act.put, List.setIfInBounds_toArray, List.set_cons_zero, List.set_cons_succ]
  refine take_at (i := 2) (v := ?_) rfl (by kernel_rfl) (by kernel_rfl) (by kernel_rfl) (fun _ _ _ h => h) (by kernel_rfl) (by assumption) ?_ ?_
  rotate_left
  · (intro w hSw; (try dsimp only at hSw); go_simp; try with_reducible rfl)
  simp only [Act.put, List.setIfInBounds_toArray, List.set_cons_zero, List.set_cons_succ]
  refine take_at (i := 3) (v := ?_) rfl (by kernel_rfl) (by kernel_rfl) (by kernel_rfl) (fun _ _ _ h => h) (by kernel_rfl) (by assumption) ?_ ?_
  rotate_left
  · (intro w hSw; (try dsimp only at hSw); go_simp; try with_reducible rfl)
  simp only [Act.put, List.setIfInBounds_toArray, List.set_cons_zero, List.set_cons_succ]
  refine do_at (i := 4) rfl (by kernel_rfl) (by kernel_rfl) (fun K hK => ?_)
  go_simp
  refine (rest_ints u0 X _ n c 2 row HR.out (by rw [← HN.out]; exact h2)).mono ?_
  rintro e ux ⟨rfl, a2, rfl, N2⟩
  have HN2 := Lib.hid N2
  clear N2
  obtain ⟨q, hq⟩ : ∃ q, q = (row.drop 2).length := ⟨_, rfl⟩
  rw [← hq] at HN2 HTAIL ⊢
  have HQ := Lib.hid hq
  clear hq
  go_wp2_with fail
  refine hK.out _ _ ?_ (fun hHeld => ?_)
  · exact HA1.out
  clear hK K
  try simp only [Act.put, List.setIfInBounds_toArray, List.set_cons_zero, List.set_cons_succ]
  refine take_at (i := 5) (v := ?_) rfl (by kernel_rfl) (by kernel_rfl) (by kernel_rfl) (fun _ _ _ h => h) (by kernel_rfl) (by assumption) ?_ ?_
  rotate_left
  · (intro w hSw; (try dsimp only at hSw); go_simp; try with_reducible rfl)
  simp only [Act.put, List.setIfInBounds_toArray, List.set_cons_zero, List.set_cons_succ]
  refine take_at (i := 6) (v := ?_) rfl (by kernel_rfl) (by kernel_rfl) (by kernel_rfl) (fun _ _ _ h => h) (by kernel_rfl) (by assumption) ?_ ?_
  rotate_left
  · (intro w hSw; (try dsimp only at hSw); go_simp; try with_reducible rfl)
  simp only [Act.put, List.setIfInBounds_toArray, List.set_cons_zero, List.set_cons_succ]
  refine wpAnyH_done (by kernel_rfl) ?_ _
  clear hHeld HA1
  by_cases h2k : k = 2
  · subst h2k
    by_cases h4 : q = 4
    · subst h4
      have HM := Lib.hid (show withinM row = madeM 2 (partsM partM ((row.drop 2).drop 1)) by
        rw [withinM_of HK.out HTAIL.out, if_pos (show (2 : Int) = 2 ∧ 4 = 4 from ⟨rfl, rfl⟩), if_pos (by rw [List.length_drop, ← HQ.out]; rfl)])
      go_wp2_with fail
      refine (needed_2 _).mono ?_
      rintro e wx ⟨rfl, rfl⟩
      go_wp2_with fail
      refine (rest_ints u0 X _ 4 4 1 (row.drop 2) HN2.out (by rw [← HQ.out]; decide)).mono ?_
      rintro e ux ⟨rfl, a3, rfl, N3⟩
      have hl3 : ((row.drop 2).drop 1).length = 3 := by rw [List.length_drop, ← HQ.out]
      rw [hl3] at N3 ⊢
      have HN3 := Lib.hid N3
      have HL3 := Lib.hid hl3
      clear N3 hl3
      go_wp2_with fail
      refine (needed_2 _).mono ?_
      rintro e wx ⟨rfl, rfl⟩
      go_wp2_with fail
      refine (parts_ints u0 X _ ((row.drop 2).drop 1) HN3.out (by rw [HL3.out]; decide)).mono ?_
      rintro e u1 ⟨vb, rfl, R1, b1⟩
      replace HZ := Lib.hid (HZ.out.below b1)
      replace HB := Lib.hid (HB.out.trans (b1.mono HB.out.size))
      obtain ⟨lb, hlb⟩ : ∃ lb, lb = partsM partM ((row.drop 2).drop 1) := ⟨_, rfl⟩
      rw [← hlb] at R1 HM
      have HR1 := Lib.hid R1
      obtain ⟨ba, bc, rfl⟩ := R1.shape
      obtain ⟨bm, hbm⟩ : ∃ bm, bm = lb.length := ⟨_, rfl⟩
      rw [← hbm] at HR1 ⊢
      clear R1 b1 hlb hbm
      go_wp2_with fail
      refine (made_any u1 _ 2 _ _ HR1.out).mono ?_
      rintro e u2 ⟨rfl, b2⟩
      rw [← HM.out]
      replace HZ := Lib.hid (HZ.out.below b2)
      replace HB := Lib.hid (HB.out.trans (b2.mono HB.out.size))
      clear b2 HR1 HM
      obtain ⟨mc, hmc⟩ : ∃ mc, mc = withinM row := ⟨_, rfl⟩
      have HMC := Lib.hid hmc
      rw [← hmc]
      clear hmc
      have ZZ := Lib.hid (HZ.out.put (mc.getD Cl.zero))
      have HB4 := Lib.hid (HB.out.trans ((putC_but u2 w.heap.size 0 (mc.getD Cl.zero)).below (C := w.heap.size) (Nat.le_refl _) HB.out.size))
      obtain ⟨y0, ⟨y1, y2, y3, y4⟩, yf⟩ := HZ.out
      dsimp only at y1 y2 y3 y4
      go_wp2
      have Z := ZZ.out
      simp only [putC, Nat.zero_add] at Z HB4
      obtain ⟨z0, ⟨z1, z2, z3, z4⟩, zf⟩ := Z
      exact bodyPost_ret (v := .tuple #[colV (mc.getD Cl.zero), .bool mc.isSome]) (by simp [results, Tryd.results70, go_sem, z1, z2, z3, z4]) rfl ⟨by rw [← HMC.out], HB4.out⟩
    · have hq4 : ((q : Int) == 4) = false := by simp; omega
      have HT2 := Lib.hid (show tailM row = row.drop 2 by rw [HTAIL.out, if_neg (by omega)])
      have HM0 := Lib.hid (withinM_of HK.out HT2.out)
      by_cases h3 : q = 3
      · have HM := Lib.hid (show withinM row = madeM 2 (partsM partM (row.drop 2)) by rw [HM0.out, if_pos (by rw [← HQ.out, h3]; rfl)])
        have hqs : q ≤ 1000 := by omega
        have hq3 : ((q : Int) == 3) = true := by simp; omega
        have hq3' : ((q : Int) != 3) = false := by simp; omega
        clear h3 h4 HM0 HT2 HTAIL
        go_wp2_with fail
        refine (needed_2 _).mono ?_
        rintro e wx ⟨rfl, rfl⟩
        go_wp2_with fail
        refine (needed_2 _).mono ?_
        rintro e wx ⟨rfl, rfl⟩
        go_wp2_with fail
        refine (parts_ints u0 X _ (row.drop 2) HN2.out (by rw [← HQ.out]; exact hqs)).mono ?_
        rintro e u1 ⟨vb, rfl, R1, b1⟩
        replace HZ := Lib.hid (HZ.out.below b1)
        replace HB := Lib.hid (HB.out.trans (b1.mono HB.out.size))
        obtain ⟨lb, hlb⟩ : ∃ lb, lb = partsM partM (row.drop 2) := ⟨_, rfl⟩
        rw [← hlb] at R1 HM
        have HR1 := Lib.hid R1
        obtain ⟨ba, bc, rfl⟩ := R1.shape
        obtain ⟨bm, hbm⟩ : ∃ bm, bm = lb.length := ⟨_, rfl⟩
        rw [← hbm] at HR1 ⊢
        clear R1 b1 hlb hbm
        go_wp2_with fail
        refine (made_any u1 _ 2 _ _ HR1.out).mono ?_
        rintro e u2 ⟨rfl, b2⟩
        rw [← HM.out]
        replace HZ := Lib.hid (HZ.out.below b2)
        replace HB := Lib.hid (HB.out.trans (b2.mono HB.out.size))
        clear b2 HR1 HM
        obtain ⟨mc, hmc⟩ : ∃ mc, mc = withinM row := ⟨_, rfl⟩
        have HMC := Lib.hid hmc
        rw [← hmc]
        clear hmc
        have ZZ := Lib.hid (HZ.out.put (mc.getD Cl.zero))
        have HB4 := Lib.hid (HB.out.trans ((putC_but u2 w.heap.size 0 (mc.getD Cl.zero)).below (C := w.heap.size) (Nat.le_refl _) HB.out.size))
        obtain ⟨y0, ⟨y1, y2, y3, y4⟩, yf⟩ := HZ.out
        dsimp only at y1 y2 y3 y4
        go_wp2
        have Z := ZZ.out
        simp only [putC, Nat.zero_add] at Z HB4
        obtain ⟨z0, ⟨z1, z2, z3, z4⟩, zf⟩ := Z
        exact bodyPost_ret (v := .tuple #[colV (mc.getD Cl.zero), .bool mc.isSome]) (by simp [results, Tryd.results70, go_sem, z1, z2, z3, z4]) rfl ⟨by rw [← HMC.out], HB4.out⟩
      · have HM := Lib.hid (show withinM row = none by rw [HM0.out, if_neg (by rw [← HQ.out]; exact h3)])
        have hq3 : ((q : Int) == 3) = false := by simp; omega
        have hq3' : ((q : Int) != 3) = true := by simp; omega
        clear h3 h4 HM0 HT2 HTAIL
        go_wp2_with fail
        refine (needed_2 _).mono ?_
        rintro e wx ⟨rfl, rfl⟩
        go_wp2_with fail
        refine (needed_2 _).mono ?_
        rintro e wx ⟨rfl, rfl⟩
        have ZZ := Lib.hid (HZ.out.put Cl.zero)
        have HB4 := Lib.hid (HB.out.trans ((putC_but u0 w.heap.size 0 Cl.zero).below (C := w.heap.size) (Nat.le_refl _) HB.out.size))
        obtain ⟨y0, ⟨y1, y2, y3, y4⟩, yf⟩ := HZ.out
        dsimp only at y1 y2 y3 y4
        go_wp2
        have Z := ZZ.out
        simp only [putC, Nat.zero_add] at Z HB4
        obtain ⟨z0, ⟨z1, z2, z3, z4⟩, zf⟩ := Z
        dsimp only at z1 z2 z3 z4
        rw [HM.out]
        exact bodyPost_ret (v := .tuple #[colV Cl.zero, .bool false]) (by simp [results, Tryd.results70, go_sem, z1, z2, z3, z4]) rfl ⟨rfl, HB4.out⟩
  · have e2 : (k == 2) = false := by simp [h2k]
    have HT2 := Lib.hid (show tailM row = row.drop 2 by rw [HTAIL.out, if_neg (fun h => h2k h.1)])
    have HM0 := Lib.hid (withinM_of HK.out HT2.out)
    by_cases h5 : k = 5
    · subst h5
      by_cases h3 : q = 1
      · have HM := Lib.hid (show withinM row = madeM 5 (partsM partM (row.drop 2)) by rw [HM0.out, if_pos (by rw [← HQ.out, h3]; rfl)])
        have hqs : q ≤ 1000 := by omega
        have hq3 : ((q : Int) == 1) = true := by simp; omega
        have hq3' : ((q : Int) != 1) = false := by simp; omega
        clear h3 HM0 HT2 HTAIL e2
        go_wp2_with fail
        refine (needed_5 _).mono ?_
        rintro e wx ⟨rfl, rfl⟩
        go_wp2_with fail
        refine (parts_ints u0 X _ (row.drop 2) HN2.out (by rw [← HQ.out]; exact hqs)).mono ?_
        rintro e u1 ⟨vb, rfl, R1, b1⟩
        replace HZ := Lib.hid (HZ.out.below b1)
        replace HB := Lib.hid (HB.out.trans (b1.mono HB.out.size))
        obtain ⟨lb, hlb⟩ : ∃ lb, lb = partsM partM (row.drop 2) := ⟨_, rfl⟩
        rw [← hlb] at R1 HM
        have HR1 := Lib.hid R1
        obtain ⟨ba, bc, rfl⟩ := R1.shape
        obtain ⟨bm, hbm⟩ : ∃ bm, bm = lb.length := ⟨_, rfl⟩
        rw [← hbm] at HR1 ⊢
        clear R1 b1 hlb hbm
        go_wp2_with fail
        refine (made_any u1 _ 5 _ _ HR1.out).mono ?_
        rintro e u2 ⟨rfl, b2⟩
        rw [← HM.out]
        replace HZ := Lib.hid (HZ.out.below b2)
        replace HB := Lib.hid (HB.out.trans (b2.mono HB.out.size))
        clear b2 HR1 HM
        obtain ⟨mc, hmc⟩ : ∃ mc, mc = withinM row := ⟨_, rfl⟩
        have HMC := Lib.hid hmc
        rw [← hmc]
        clear hmc
        have ZZ := Lib.hid (HZ.out.put (mc.getD Cl.zero))
        have HB4 := Lib.hid (HB.out.trans ((putC_but u2 w.heap.size 0 (mc.getD Cl.zero)).below (C := w.heap.size) (Nat.le_refl _) HB.out.size))
        obtain ⟨y0, ⟨y1, y2, y3, y4⟩, yf⟩ := HZ.out
        dsimp only at y1 y2 y3 y4
        go_wp2
        have Z := ZZ.out
        simp only [putC, Nat.zero_add] at Z HB4
        obtain ⟨z0, ⟨z1, z2, z3, z4⟩, zf⟩ := Z
        exact bodyPost_ret (v := .tuple #[colV (mc.getD Cl.zero), .bool mc.isSome]) (by simp [results, Tryd.results70, go_sem, z1, z2, z3, z4]) rfl ⟨by rw [← HMC.out], HB4.out⟩
      · have HM := Lib.hid (show withinM row = none by rw [HM0.out, if_neg (by rw [← HQ.out]; exact h3)])
        have hq3 : ((q : Int) == 1) = false := by simp; omega
        have hq3' : ((q : Int) != 1) = true := by simp; omega
        clear h3 HM0 HT2 HTAIL e2
        go_wp2_with fail
        refine (needed_5 _).mono ?_
        rintro e wx ⟨rfl, rfl⟩
        have ZZ := Lib.hid (HZ.out.put Cl.zero)
        have HB4 := Lib.hid (HB.out.trans ((putC_but u0 w.heap.size 0 Cl.zero).below (C := w.heap.size) (Nat.le_refl _) HB.out.size))
        obtain ⟨y0, ⟨y1, y2, y3, y4⟩, yf⟩ := HZ.out
        dsimp only at y1 y2 y3 y4
        go_wp2
        have Z := ZZ.out
        simp only [putC, Nat.zero_add] at Z HB4
        obtain ⟨z0, ⟨z1, z2, z3, z4⟩, zf⟩ := Z
        dsimp only at z1 z2 z3 z4
        rw [HM.out]
        exact bodyPost_ret (v := .tuple #[colV Cl.zero, .bool false]) (by simp [results, Tryd.results70, go_sem, z1, z2, z3, z4]) rfl ⟨rfl, HB4.out⟩
    · have HND := Lib.hid (show needed k = 0 by unfold needed; rw [if_neg h5, if_neg h2k])
      by_cases h3 : q = 0
      · have HM := Lib.hid (show withinM row = madeM k (partsM partM (row.drop 2)) by rw [HM0.out, if_pos (by rw [← HQ.out, HND.out, h3])])
        have hqs : q ≤ 1000 := by omega
        have hq3 : ((q : Int) == 0) = true := by simp; omega
        have hq3' : ((q : Int) != 0) = false := by simp; omega
        clear h3 HM0 HT2 HTAIL
        go_wp2_with fail
        refine (needed_no k h5 h2k _).mono ?_
        rintro e wx ⟨rfl, rfl⟩
        go_wp2_with fail
        refine (parts_ints u0 X _ (row.drop 2) HN2.out (by rw [← HQ.out]; exact hqs)).mono ?_
        rintro e u1 ⟨vb, rfl, R1, b1⟩
        replace HZ := Lib.hid (HZ.out.below b1)
        replace HB := Lib.hid (HB.out.trans (b1.mono HB.out.size))
        obtain ⟨lb, hlb⟩ : ∃ lb, lb = partsM partM (row.drop 2) := ⟨_, rfl⟩
        rw [← hlb] at R1 HM
        have HR1 := Lib.hid R1
        obtain ⟨ba, bc, rfl⟩ := R1.shape
        obtain ⟨bm, hbm⟩ : ∃ bm, bm = lb.length := ⟨_, rfl⟩
        rw [← hbm] at HR1 ⊢
        clear R1 b1 hlb hbm
        go_wp2_with fail
        refine (made_any u1 _ k _ _ HR1.out).mono ?_
        rintro e u2 ⟨rfl, b2⟩
        rw [← HM.out]
        replace HZ := Lib.hid (HZ.out.below b2)
        replace HB := Lib.hid (HB.out.trans (b2.mono HB.out.size))
        clear b2 HR1 HM
        obtain ⟨mc, hmc⟩ : ∃ mc, mc = withinM row := ⟨_, rfl⟩
        have HMC := Lib.hid hmc
        rw [← hmc]
        clear hmc
        have ZZ := Lib.hid (HZ.out.put (mc.getD Cl.zero))
        have HB4 := Lib.hid (HB.out.trans ((putC_but u2 w.heap.size 0 (mc.getD Cl.zero)).below (C := w.heap.size) (Nat.le_refl _) HB.out.size))
        obtain ⟨y0, ⟨y1, y2, y3, y4⟩, yf⟩ := HZ.out
        dsimp only at y1 y2 y3 y4
        go_wp2
        have Z := ZZ.out
        simp only [putC, Nat.zero_add] at Z HB4
        obtain ⟨z0, ⟨z1, z2, z3, z4⟩, zf⟩ := Z
        exact bodyPost_ret (v := .tuple #[colV (mc.getD Cl.zero), .bool mc.isSome]) (by simp [results, Tryd.results70, go_sem, z1, z2, z3, z4]) rfl ⟨by rw [← HMC.out], HB4.out⟩
      · have HM := Lib.hid (show withinM row = none by rw [HM0.out, if_neg (by rw [← HQ.out, HND.out]; exact h3)])
        have hq3 : ((q : Int) == 0) = false := by simp; omega
        have hq3' : ((q : Int) != 0) = true := by simp; omega
        clear h3 HM0 HT2 HTAIL
        go_wp2_with fail
        refine (needed_no k h5 h2k _).mono ?_
        rintro e wx ⟨rfl, rfl⟩
        have ZZ := Lib.hid (HZ.out.put Cl.zero)
        have HB4 := Lib.hid (HB.out.trans ((putC_but u0 w.heap.size 0 Cl.zero).below (C := w.heap.size) (Nat.le_refl _) HB.out.size))
        obtain ⟨y0, ⟨y1, y2, y3, y4⟩, yf⟩ := HZ.out
        dsimp only at y1 y2 y3 y4
        go_wp2
        have Z := ZZ.out
        simp only [putC, Nat.zero_add] at Z HB4
        obtain ⟨z0, ⟨z1, z2, z3, z4⟩, zf⟩ := Z
        dsimp only at z1 z2 z3 z4
        rw [HM.out]
        exact bodyPost_ret (v := .tuple #[colV Cl.zero, .bool false]) (by simp [results, Tryd.results70, go_sem, z1, z2, z3, z4]) rfl ⟨rfl, HB4.out⟩
end Go.Proofs.YtlmhnebgkginkaaDoor.Lab
