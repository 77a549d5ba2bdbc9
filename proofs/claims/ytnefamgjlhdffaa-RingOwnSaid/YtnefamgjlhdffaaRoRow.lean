/- The rows of lines. -/
import Derived.Test.YtnefamgjlhdffaaRoFld
namespace Go.Proofs.Ytnefamgjlhdffaa.Lab
open Go Go.RowKit

theorem DsIn.nil (w : World) (a : Option Addr) (c : Nat) : DsIn w (.slice a 0 c) [] := ⟨a, c, rfl, by simp, fun d hd => by simp at hd, fun h => by simp at h⟩
def CRowOut (w : World) (R : Cls) (e : Ending) (w' : World) : Prop := ∃ r, e = .returned r ∧ CRow w' w.heap.size r R ∧ Below w.heap.size w w'
set_option maxHeartbeats 4000000 in
theorem rrow_any (w : World) (cols : Nat) (v : Value) (L : List Dc) (hc : cols < 256) (h : DsIn w v L) : Calls Try.prog 30 #[.agg #[.int .u8 (cols : Nat), v]] w (CRowOut w (rowM cols L)) := by
  obtain ⟨la, lc, rfl⟩ := h.shape
  obtain ⟨n, hn⟩ : ∃ n, n = L.length := ⟨_, rfl⟩
  obtain ⟨w0, hw0⟩ : ∃ w0, w0 = w.alloc (.cells #[.int .u8 (cols : Nat), .slice la L.length lc] 63) := ⟨_, rfl⟩
  have b0 : Below w.heap.size w w0 := by rw [hw0]; exact (Below.refl _ _).alloc (Nat.le_refl _) _
  have HA := Lib.hid (show LnAt w0 w.heap.size cols (.slice la L.length lc) by rw [hw0]; exact LnAt.newAt w _ rfl cols _ _)
  have HB := Lib.hid b0
  have HD := Lib.hid (h.below b0)
  have CL := Lib.hid (show ∀ W, Below w0.heap.size w0 W → Calls Try.prog 47 #[.agg #[.int .u8 (cols : Nat), .slice la L.length lc]] W (LabOut W (labM cols L)) from fun W hb => rlabels_any W cols _ L hc ((h.below b0).below hb))
  rw [← hn] at HA HD CL hw0 ⊢
  clear h b0 hn
  go_enter Try.func30, Try.ntmps30
  go_upto_region 1 with (fail)
  rw [← hw0]
  clear hw0
  have HKEEP := Lib.hid (show ∀ W, Below w0.heap.size w0 W → (fun w' => w'.cell? ⟨w.heap.size, 0, none⟩ = some (.int .u8 (cols : Nat)) ∧ w'.cell? ⟨w.heap.size, 1, none⟩ = some (.slice la n lc)) W from fun W hb => (HA.out.below hb).2)
  dsimp only at HKEEP
  refine wp_region_held_drew (S := fun w' => w'.cell? ⟨w.heap.size, 0, none⟩ = some (.int .u8 (cols : Nat)) ∧ w'.cell? ⟨w.heap.size, 1, none⟩ = some (.slice la n lc)) (by kernel_rfl) ?_ (fun hHeld => ?_)
  · exact HKEEP.out _ ⟨rfl, rfl, rfl, Nat.le_refl _, fun _ _ => rfl⟩
  obtain ⟨u0, hu0⟩ : ∃ u0, u0 = w0.drew := ⟨_, rfl⟩
  have HX := Lib.hid (show Below w0.heap.size w0 u0 by rw [hu0]; exact ⟨rfl, rfl, rfl, Nat.le_refl _, fun _ _ => rfl⟩)
  replace hHeld := HKEEP.out _ HX.out
  rw [← hu0]
  clear hu0
  refine tk 0 rfl (fun w hSw => by (try dsimp only at hSw); go_simp; try with_reducible rfl) ?_
  go_frame
  refine tk 2 rfl (fun w hSw => by (try dsimp only at hSw); go_simp; try with_reducible rfl) ?_
  go_frame
  refine tk 3 rfl (fun w hSw => by (try dsimp only at hSw); go_simp; try with_reducible rfl) ?_
  go_frame
  refine do_at (i := 1) rfl (by kernel_rfl) (by kernel_rfl) (fun K hK => ?_)
  go_simp
  refine (CL.out _ HX.out).mono ?_
  rintro e w1 ⟨u1, rfl, R1, bb⟩
  obtain ⟨a1, c1, rfl⟩ := R1.shape
  rw [labM_len] at R1 ⊢
  have HX1 := Lib.hid (HX.out.trans (bb.mono HX.out.size))
  have HR1 := Lib.hid R1
  clear bb R1 CL HX
  go_wp2_with fail
  refine hK.out _ _ ?_ (fun hHeld => ?_)
  · exact HKEEP.out _ HX1.out
  clear hK K
  try go_frame
  refine do_at (i := 4) rfl (by kernel_rfl) (by kernel_rfl) (fun K hK => ?_)
  go_simp
  refine (rfilled_any w1 _ _ _ _ (labM cols L) L [] HR1.out (HD.out.below HX1.out) (DsIn.nil _ _ _) (by rw [labM_len]; omega)).mono ?_
  rintro e w2 ⟨r, rfl, R2, bb⟩
  have HX2 := Lib.hid (HX1.out.trans (bb.mono HX1.out.size))
  have HR2 := Lib.hid (R2.lower (show w.heap.size ≤ w1.heap.size from Nat.le_trans HB.out.size HX1.out.size))
  clear bb R2 HR1 HX1
  go_wp2_with fail
  refine hK.out _ _ ?_ (fun hHeld => ?_)
  · exact HKEEP.out _ HX2.out
  clear hK K
  try go_frame
  refine tk 5 rfl (fun w hSw => by (try dsimp only at hSw); go_simp; try with_reducible rfl) ?_
  go_frame
  refine wpAnyH_done (by kernel_rfl) ?_ _
  have HBN := Lib.hid (HB.out.trans (HX2.out.mono HB.out.size))
  clear hHeld HKEEP
  go_wp2
  go_ret
  exact ⟨r, rfl, HR2.out, HBN.out⟩
set_option maxHeartbeats 4000000 in
theorem rother_any (w : World) (cols : Nat) (v : Value) (v2 : Value) (L O : List Dc) (hc : cols < 256) (h : DsIn w v L) (h2 : DsIn w v2 O) : Calls Try.prog 32 #[.agg #[.int .u8 (cols : Nat), v], v2] w (CRowOut w (otherM cols L O)) := by
  obtain ⟨la, lc, rfl⟩ := h.shape
  obtain ⟨n, hn⟩ : ∃ n, n = L.length := ⟨_, rfl⟩
  obtain ⟨oa, oc, rfl⟩ := h2.shape
  obtain ⟨m, hm⟩ : ∃ m, m = O.length := ⟨_, rfl⟩
  obtain ⟨w0, hw0⟩ : ∃ w0, w0 = w.alloc (.cells #[.int .u8 (cols : Nat), .slice la L.length lc] 63) := ⟨_, rfl⟩
  have b0 : Below w.heap.size w w0 := by rw [hw0]; exact (Below.refl _ _).alloc (Nat.le_refl _) _
  have HA := Lib.hid (show LnAt w0 w.heap.size cols (.slice la L.length lc) by rw [hw0]; exact LnAt.newAt w _ rfl cols _ _)
  have HB := Lib.hid b0
  have HD := Lib.hid (h.below b0)
  have HO := Lib.hid (h2.below b0)
  have CL := Lib.hid (show ∀ W, Below w0.heap.size w0 W → Calls Try.prog 47 #[.agg #[.int .u8 (cols : Nat), .slice la L.length lc]] W (LabOut W (labM cols L)) from fun W hb => rlabels_any W cols _ L hc ((h.below b0).below hb))
  rw [← hn] at HA HD CL hw0 ⊢
  rw [← hm] at HO ⊢
  clear h b0 hn h2 hm
  go_enter Try.func32, Try.ntmps32
  go_upto_region 1 with (fail)
  rw [← hw0]
  clear hw0
  have HKEEP := Lib.hid (show ∀ W, Below w0.heap.size w0 W → (fun w' => w'.cell? ⟨w.heap.size, 0, none⟩ = some (.int .u8 (cols : Nat)) ∧ w'.cell? ⟨w.heap.size, 1, none⟩ = some (.slice la n lc)) W from fun W hb => (HA.out.below hb).2)
  dsimp only at HKEEP
  refine wp_region_held_drew (S := fun w' => w'.cell? ⟨w.heap.size, 0, none⟩ = some (.int .u8 (cols : Nat)) ∧ w'.cell? ⟨w.heap.size, 1, none⟩ = some (.slice la n lc)) (by kernel_rfl) ?_ (fun hHeld => ?_)
  · exact HKEEP.out _ ⟨rfl, rfl, rfl, Nat.le_refl _, fun _ _ => rfl⟩
  obtain ⟨u0, hu0⟩ : ∃ u0, u0 = w0.drew := ⟨_, rfl⟩
  have HX := Lib.hid (show Below w0.heap.size w0 u0 by rw [hu0]; exact ⟨rfl, rfl, rfl, Nat.le_refl _, fun _ _ => rfl⟩)
  replace hHeld := HKEEP.out _ HX.out
  rw [← hu0]
  clear hu0
  refine tk 0 rfl (fun w hSw => by (try dsimp only at hSw); go_simp; try with_reducible rfl) ?_
  go_frame
  refine tk 2 rfl (fun w hSw => by (try dsimp only at hSw); go_simp; try with_reducible rfl) ?_
  go_frame
  refine tk 3 rfl (fun w hSw => by (try dsimp only at hSw); go_simp; try with_reducible rfl) ?_
  go_frame
  refine tk 4 rfl (fun w hSw => by (try dsimp only at hSw); go_simp; try with_reducible rfl) ?_
  go_frame
  refine do_at (i := 1) rfl (by kernel_rfl) (by kernel_rfl) (fun K hK => ?_)
  go_simp
  refine (CL.out _ HX.out).mono ?_
  rintro e w1 ⟨u1, rfl, R1, bb⟩
  obtain ⟨a1, c1, rfl⟩ := R1.shape
  rw [labM_len] at R1 ⊢
  have HX1 := Lib.hid (HX.out.trans (bb.mono HX.out.size))
  have HR1 := Lib.hid R1
  clear bb R1 CL HX
  go_wp2_with fail
  refine hK.out _ _ ?_ (fun hHeld => ?_)
  · exact HKEEP.out _ HX1.out
  clear hK K
  try go_frame
  refine do_at (i := 5) rfl (by kernel_rfl) (by kernel_rfl) (fun K hK => ?_)
  go_simp
  refine (rfilled_any w1 _ _ _ _ (labM cols L) L O HR1.out (HD.out.below HX1.out) (HO.out.below HX1.out) (by rw [labM_len]; omega)).mono ?_
  rintro e w2 ⟨r, rfl, R2, bb⟩
  have HX2 := Lib.hid (HX1.out.trans (bb.mono HX1.out.size))
  have HR2 := Lib.hid (R2.lower (show w.heap.size ≤ w1.heap.size from Nat.le_trans HB.out.size HX1.out.size))
  clear bb R2 HR1 HX1
  go_wp2_with fail
  refine hK.out _ _ ?_ (fun hHeld => ?_)
  · exact HKEEP.out _ HX2.out
  clear hK K
  try go_frame
  refine tk 6 rfl (fun w hSw => by (try dsimp only at hSw); go_simp; try with_reducible rfl) ?_
  go_frame
  refine wpAnyH_done (by kernel_rfl) ?_ _
  have HBN := Lib.hid (HB.out.trans (HX2.out.mono HB.out.size))
  clear hHeld HKEEP
  go_wp2
  go_ret
  exact ⟨r, rfl, HR2.out, HBN.out⟩
end Go.Proofs.Ytnefamgjlhdffaa.Lab
