/- The project's Same and Copy of rings. -/
import Derived.Test.YtnefamgjlhdffaaRgSame
set_option linter.unusedVariables false
namespace Go.Proofs.Ytnefamgjlhdffaa.Lab
open Go Go.RowKit

theorem LIn.of_own {w : World} {B : Nat} {v : Value} {H : List Ln} (h : w.ownsRow B 38 1 v H.length (vls H)) (hr : ∀ x ∈ H, RowIn w x.v x.R) : LIn (fun _ => True) w v H := by
  refine ⟨?_, hr, fun _ _ _ _ => trivial⟩
  rcases h.2 with ⟨e, h1⟩ | ⟨g, cap, cur, e, _, hg, hnc, hm, _⟩
  · exact ⟨none, 0, by rw [e, h1], by omega, by decide, fun h0 => by omega⟩
  · refine ⟨_, cap, e, hnc, hm, fun h0 => ⟨g, 0, rfl, (Array.getElem?_eq_some_iff.1 hg).1, trivial, fun i hi => ?_⟩⟩
    have := h.cells (g := g) (by rw [e]; rfl) i _ (vls_get hi)
    rwa [Addr.add_mid] at this
theorem same_nn (w : World) : Calls Try.prog 31 #[.pointer none, .pointer none] w fun e w' => e = .returned (.bool true) ∧ w = w' := by
  go_enter Try.func31, Try.ntmps31
  go_wp2
  go_ret
  exact ⟨rfl, rfl⟩
set_option maxRecDepth 100000 in
set_option maxHeartbeats 2000000 in
theorem same_nr (w : World) (q : Nat) : Calls Try.prog 31 #[.pointer none, pV q] w fun e w' => e = .returned (.bool false) ∧ w = w' := by
  have hq : ∀ w : World, (binOp .eql 23 (.pointer none) (pV q)).run Try.prog w = .ok (.bool false) w := fun w => by kernel_rfl
  go_enter Try.func31, Try.ntmps31
  go_wp2
  go_ret
  exact ⟨rfl, rfl⟩
set_option maxHeartbeats 8000000 in
set_option maxRecDepth 100000 in
theorem same_any (X Y : Nat → Prop) (w : World) (p q n m : Nat) (A B : List Cls) (l k : Int) (h : Rg X w p n A l) (h' : Rg Y w q m B k) :
    Calls Try.prog 31 #[pV p, pV q] w fun e w' => e = .returned (.bool (decide (n = m ∧ l = k ∧ A = B))) ∧ Below w.heap.size w w' := by
  obtain ⟨v, H, f, h, rfl⟩ := h
  obtain ⟨u, J, g, h', rfl⟩ := h'
  have HR := Lib.hid h
  have HT := Lib.hid h'
  have HW := Lib.hid (Below.refl w.heap.size w)
  have KEEP := Lib.hid (show ∀ W', Below w.heap.size w W' → (fun wx => (wx.cell? ⟨p, 0, none⟩ = some (.int .i64 (n : Nat)) ∧ wx.cell? ⟨p, 3, none⟩ = some (.int .u8 l)) ∧ wx.cell? ⟨q, 0, none⟩ = some (.int .i64 (m : Nat)) ∧ wx.cell? ⟨q, 3, none⟩ = some (.int .u8 k)) W' from fun W' kb => by
    have r1 := (h.below kb).cells
    have r2 := (h'.below kb).cells
    exact ⟨⟨r1.1, r1.2.2.2⟩, r2.1, r2.2.2.2⟩)
  have HD := Lib.hid (show ∀ b : Bool, b = decide (n = m ∧ l = k ∧ turnL f (rws H) = turnL g (rws J)) → Ending.returned (.bool b) = .returned (.bool (decide (n = m ∧ l = k ∧ turnL f (rws H) = turnL g (rws J)))) from fun b e => by rw [e])
  obtain ⟨dd, hdd⟩ : ∃ dd, dd = decide (n = m ∧ l = k ∧ turnL f (rws H) = turnL g (rws J)) := ⟨_, rfl⟩
  have HDD := Lib.hid hdd
  rw [← hdd]
  clear h h' hdd HD
  go_enter Try.func31, Try.ntmps31
  go_upto_region 3 with (fail)
  refine wp_region_held_drew (S := (fun wx => (wx.cell? ⟨p, 0, none⟩ = some (.int .i64 (n : Nat)) ∧ wx.cell? ⟨p, 3, none⟩ = some (.int .u8 l)) ∧ wx.cell? ⟨q, 0, none⟩ = some (.int .i64 (m : Nat)) ∧ wx.cell? ⟨q, 3, none⟩ = some (.int .u8 k))) (by kernel_rfl) ?_ (fun hHeld => ?_)
  · exact KEEP.out _ ((Below.refl _ _).drew)
  obtain ⟨wd, hwd⟩ : ∃ X, X = w.drew := ⟨_, rfl⟩
  have HX := Lib.hid (show Below w.heap.size w wd by rw [hwd]; exact (Below.refl _ _).drew)
  replace hHeld := KEEP.out _ HX.out
  rw [← hwd]
  clear hwd
  by_cases hnm : n = m
  rotate_left
  · have e1 : ((n : Int) == (m : Int)) = false := by simp; omega
    have HF := Lib.hid (show dd = false by rw [HDD.out]; exact decide_eq_false (fun h => hnm h.1))
    refine tk 0 rfl (fun w hSw => by (try dsimp only at hSw); go_simp; try with_reducible rfl) ?_
    go_frame
    refine tk 1 rfl (fun w hSw => by (try dsimp only at hSw); go_simp; try with_reducible rfl) ?_
    go_frame
    refine tk 2 rfl (fun w hSw => by (try dsimp only at hSw); go_simp; try with_reducible rfl) ?_
    go_frame
    refine tk 3 rfl (fun w hSw => by (try dsimp only at hSw); go_simp; try with_reducible rfl) ?_
    go_frame
    refine tk 4 rfl (fun w hSw => by (try dsimp only at hSw); go_simp; try with_reducible rfl) ?_
    go_frame
    refine tk 5 rfl (fun w hSw => by (try dsimp only at hSw); go_simp; try with_reducible rfl) ?_
    go_frame
    refine tk 6 rfl (fun w hSw => by (try dsimp only at hSw); go_simp; try with_reducible rfl) ?_
    go_frame
    refine tk 7 rfl (fun w hSw => by (try dsimp only at hSw); go_simp; try with_reducible rfl) ?_
    go_frame
    refine tk 8 rfl (fun w hSw => by (try dsimp only at hSw); go_simp; try with_reducible rfl) ?_
    go_frame
    refine tk 9 rfl (fun w hSw => by (try dsimp only at hSw); go_simp; try with_reducible rfl) ?_
    go_frame
    refine sk 10 rfl ?_
    go_frame
    refine sk 11 rfl ?_
    go_frame
    refine sk 12 rfl ?_
    go_frame
    refine sk 13 rfl ?_
    go_frame
    refine sk 14 rfl ?_
    go_frame
    refine sk 15 rfl ?_
    go_frame
    refine sk 16 rfl ?_
    go_frame
    refine sk 17 rfl ?_
    go_frame
    refine sk 18 rfl ?_
    go_frame
    refine tk 19 rfl (fun w hSw => by (try dsimp only at hSw); go_simp; try with_reducible rfl) ?_
    go_frame
    refine tk 20 rfl (fun w hSw => by (try dsimp only at hSw); go_simp; try with_reducible rfl) ?_
    go_frame
    refine sk 21 rfl ?_
    go_frame
    refine sk 22 rfl ?_
    go_frame
    refine sk 23 rfl ?_
    go_frame
    refine sk 24 rfl ?_
    go_frame
    refine sk 25 rfl ?_
    go_frame
    refine tk 26 rfl (fun w hSw => by (try dsimp only at hSw); go_simp; try with_reducible rfl) ?_
    go_frame
    refine tk 27 rfl (fun w hSw => by (try dsimp only at hSw); go_simp; try with_reducible rfl) ?_
    go_frame
    refine wpAnyH_done (by kernel_rfl) ?_ _
    clear hHeld KEEP
    go_wp2
    go_ret
    exact ⟨by rw [HF.out]; rfl, HW.out.trans (HX.out.mono HW.out.size)⟩
  have e1 : ((n : Int) == (m : Int)) = true := by simp; omega
  by_cases hlk : l = k
  rotate_left
  · have e2 : (l == k) = false := by simp; omega
    have HF := Lib.hid (show dd = false by rw [HDD.out]; exact decide_eq_false (fun h => hlk h.2.1))
    clear hnm
    refine tk 0 rfl (fun w hSw => by (try dsimp only at hSw); go_simp; try with_reducible rfl) ?_
    go_frame
    refine tk 1 rfl (fun w hSw => by (try dsimp only at hSw); go_simp; try with_reducible rfl) ?_
    go_frame
    refine tk 2 rfl (fun w hSw => by (try dsimp only at hSw); go_simp; try with_reducible rfl) ?_
    go_frame
    refine tk 3 rfl (fun w hSw => by (try dsimp only at hSw); go_simp; try with_reducible rfl) ?_
    go_frame
    refine tk 4 rfl (fun w hSw => by (try dsimp only at hSw); go_simp; try with_reducible rfl) ?_
    go_frame
    refine tk 5 rfl (fun w hSw => by (try dsimp only at hSw); go_simp; try with_reducible rfl) ?_
    go_frame
    refine tk 6 rfl (fun w hSw => by (try dsimp only at hSw); go_simp; try with_reducible rfl) ?_
    go_frame
    refine tk 7 rfl (fun w hSw => by (try dsimp only at hSw); go_simp; try with_reducible rfl) ?_
    go_frame
    refine tk 8 rfl (fun w hSw => by (try dsimp only at hSw); go_simp; try with_reducible rfl) ?_
    go_frame
    refine tk 9 rfl (fun w hSw => by (try dsimp only at hSw); go_simp; try with_reducible rfl) ?_
    go_frame
    refine tk 10 rfl (fun w hSw => by (try dsimp only at hSw); go_simp; try with_reducible rfl) ?_
    go_frame
    refine tk 11 rfl (fun w hSw => by (try dsimp only at hSw); go_simp; try with_reducible rfl) ?_
    go_frame
    refine tk 12 rfl (fun w hSw => by (try dsimp only at hSw); go_simp; try with_reducible rfl) ?_
    go_frame
    refine tk 13 rfl (fun w hSw => by (try dsimp only at hSw); go_simp; try with_reducible rfl) ?_
    go_frame
    refine tk 14 rfl (fun w hSw => by (try dsimp only at hSw); go_simp; try with_reducible rfl) ?_
    go_frame
    refine tk 15 rfl (fun w hSw => by (try dsimp only at hSw); go_simp; try with_reducible rfl) ?_
    go_frame
    refine tk 16 rfl (fun w hSw => by (try dsimp only at hSw); go_simp; try with_reducible rfl) ?_
    go_frame
    refine tk 17 rfl (fun w hSw => by (try dsimp only at hSw); go_simp; try with_reducible rfl) ?_
    go_frame
    refine tk 18 rfl (fun w hSw => by (try dsimp only at hSw); go_simp; try with_reducible rfl) ?_
    go_frame
    refine tk 19 rfl (fun w hSw => by (try dsimp only at hSw); go_simp; try with_reducible rfl) ?_
    go_frame
    refine tk 20 rfl (fun w hSw => by (try dsimp only at hSw); go_simp; try with_reducible rfl) ?_
    go_frame
    refine sk 21 rfl ?_
    go_frame
    refine sk 22 rfl ?_
    go_frame
    refine sk 23 rfl ?_
    go_frame
    refine sk 24 rfl ?_
    go_frame
    refine sk 25 rfl ?_
    go_frame
    refine tk 26 rfl (fun w hSw => by (try dsimp only at hSw); go_simp; try with_reducible rfl) ?_
    go_frame
    refine tk 27 rfl (fun w hSw => by (try dsimp only at hSw); go_simp; try with_reducible rfl) ?_
    go_frame
    refine wpAnyH_done (by kernel_rfl) ?_ _
    clear hHeld KEEP
    go_wp2
    go_ret
    exact ⟨by rw [HF.out]; rfl, HW.out.trans (HX.out.mono HW.out.size)⟩
  have e2 : (l == k) = true := by simp; omega
  have HF := Lib.hid (show dd = decide (rws (turnL f H) = rws (turnL g J)) by
    rw [HDD.out, rws_turn, rws_turn]
    exact decide_eq_decide.2 ⟨fun h => h.2.2, fun h => ⟨hnm, hlk, h⟩⟩)
  clear hnm hlk
  refine tk 0 rfl (fun w hSw => by (try dsimp only at hSw); go_simp; try with_reducible rfl) ?_
  go_frame
  refine tk 1 rfl (fun w hSw => by (try dsimp only at hSw); go_simp; try with_reducible rfl) ?_
  go_frame
  refine tk 2 rfl (fun w hSw => by (try dsimp only at hSw); go_simp; try with_reducible rfl) ?_
  go_frame
  refine tk 3 rfl (fun w hSw => by (try dsimp only at hSw); go_simp; try with_reducible rfl) ?_
  go_frame
  refine tk 4 rfl (fun w hSw => by (try dsimp only at hSw); go_simp; try with_reducible rfl) ?_
  go_frame
  refine tk 5 rfl (fun w hSw => by (try dsimp only at hSw); go_simp; try with_reducible rfl) ?_
  go_frame
  refine tk 6 rfl (fun w hSw => by (try dsimp only at hSw); go_simp; try with_reducible rfl) ?_
  go_frame
  refine tk 7 rfl (fun w hSw => by (try dsimp only at hSw); go_simp; try with_reducible rfl) ?_
  go_frame
  refine tk 8 rfl (fun w hSw => by (try dsimp only at hSw); go_simp; try with_reducible rfl) ?_
  go_frame
  refine tk 9 rfl (fun w hSw => by (try dsimp only at hSw); go_simp; try with_reducible rfl) ?_
  go_frame
  refine tk 10 rfl (fun w hSw => by (try dsimp only at hSw); go_simp; try with_reducible rfl) ?_
  go_frame
  refine tk 11 rfl (fun w hSw => by (try dsimp only at hSw); go_simp; try with_reducible rfl) ?_
  go_frame
  refine tk 12 rfl (fun w hSw => by (try dsimp only at hSw); go_simp; try with_reducible rfl) ?_
  go_frame
  refine tk 13 rfl (fun w hSw => by (try dsimp only at hSw); go_simp; try with_reducible rfl) ?_
  go_frame
  refine tk 14 rfl (fun w hSw => by (try dsimp only at hSw); go_simp; try with_reducible rfl) ?_
  go_frame
  refine tk 15 rfl (fun w hSw => by (try dsimp only at hSw); go_simp; try with_reducible rfl) ?_
  go_frame
  refine tk 16 rfl (fun w hSw => by (try dsimp only at hSw); go_simp; try with_reducible rfl) ?_
  go_frame
  refine tk 17 rfl (fun w hSw => by (try dsimp only at hSw); go_simp; try with_reducible rfl) ?_
  go_frame
  refine tk 18 rfl (fun w hSw => by (try dsimp only at hSw); go_simp; try with_reducible rfl) ?_
  go_frame
  refine tk 19 rfl (fun w hSw => by (try dsimp only at hSw); go_simp; try with_reducible rfl) ?_
  go_frame
  refine tk 20 rfl (fun w hSw => by (try dsimp only at hSw); go_simp; try with_reducible rfl) ?_
  go_frame
  refine tk 21 rfl (fun w hSw => by (try dsimp only at hSw); go_simp; try with_reducible rfl) ?_
  go_frame
  refine tk 23 rfl (fun w hSw => by (try dsimp only at hSw); go_simp; try with_reducible rfl) ?_
  go_frame
  refine do_at (i := 22) rfl (by kernel_rfl) (by kernel_rfl) (fun K hK => ?_)
  go_simp
  refine (kept_any X _ p n f v H l (HR.out.below HX.out)).mono ?_
  rintro e w1 ⟨v1, rfl, ow1, b1⟩
  obtain ⟨a1, c1, e1⟩ := own_shape ow1
  subst e1
  have HO1 := Lib.hid ow1
  have HB1 := Lib.hid b1
  have HX1 := Lib.hid (HX.out.trans (b1.mono HX.out.size))
  clear ow1 b1
  go_wp2_with fail
  refine hK.out _ _ ?_ (fun hHeld => ?_)
  · exact KEEP.out _ HX1.out
  clear hK K
  try go_frame
  refine do_at (i := 24) rfl (by kernel_rfl) (by kernel_rfl) (fun K hK => ?_)
  go_simp
  refine (kept_any Y _ q m g u J k (HT.out.below HX1.out)).mono ?_
  rintro e w2 ⟨v2, rfl, ow2, b2⟩
  obtain ⟨a2, c2, e2⟩ := own_shape ow2
  subst e2
  have HO2 := Lib.hid ow2
  have HB2 := Lib.hid b2
  have HX2 := Lib.hid (HX1.out.trans (b2.mono HX1.out.size))
  clear ow2 b2
  go_wp2_with fail
  refine hK.out _ _ ?_ (fun hHeld => ?_)
  · exact KEEP.out _ HX2.out
  clear hK K
  try go_frame
  refine do_at (i := 25) rfl (by kernel_rfl) (by kernel_rfl) (fun K hK => ?_)
  go_simp
  have HL1 := Lib.hid (show LIn (fun _ => True) w2 (.slice a1 H.length c1) (turnL f H) from by
    have hr := (HR.out.below HX2.out).rws.ok
    refine LIn.of_own (by rw [turnL_len]; exact own_below HO1.out HB2.out) (fun x hx => (hr x ((turnL_perm f H).mem_iff.1 hx)).row))
  have HL2 := Lib.hid (show LIn (fun _ => True) w2 (.slice a2 J.length c2) (turnL g J) from by
    have hr := (HT.out.below HX2.out).rws.ok
    refine LIn.of_own (by rw [turnL_len]; exact HO2.out) (fun x hx => (hr x ((turnL_perm g J).mem_iff.1 hx)).row))
  refine (eqf_any _ _ w2 _ _ _ _ HL1.out HL2.out (by have := HR.out.len; have := HR.out.n1; rw [turnL_len]; omega) (fun x hx => by have := HR.out.rowl x ((turnL_perm f H).mem_iff.1 hx); omega)).mono ?_
  rintro e w3 ⟨rfl, b3⟩
  have HX3 := Lib.hid (HX2.out.trans (b3.mono HX2.out.size))
  obtain ⟨bd, hbd⟩ : ∃ bd, bd = decide (rws (turnL f H) = rws (turnL g J)) := ⟨_, rfl⟩
  have HBD := Lib.hid hbd
  rw [← hbd]
  clear hbd b3
  go_wp2_with fail
  refine hK.out _ _ ?_ (fun hHeld => ?_)
  · exact KEEP.out _ HX3.out
  clear hK K
  try go_frame
  refine tk 26 rfl (fun w hSw => by (try dsimp only at hSw); go_simp; try with_reducible rfl) ?_
  go_frame
  refine tk 27 rfl (fun w hSw => by (try dsimp only at hSw); go_simp; try with_reducible rfl) ?_
  go_frame
  refine wpAnyH_done (by kernel_rfl) ?_ _
  clear hHeld KEEP
  go_wp2
  go_ret
  exact ⟨by rw [HF.out, ← HBD.out]; rfl, HW.out.trans (HX3.out.mono HW.out.size)⟩
set_option maxHeartbeats 8000000 in
set_option maxRecDepth 100000 in
/-- A ring of its own that is alike. -/
theorem copy_any (X : Nat → Prop) (w : World) (p n : Nat) (G : List Cls) (l : Int) (h : Rg X w p n G l) :
    Calls Try.prog 15 #[pV p] w fun e w' => ∃ q, e = .returned (pV q) ∧ Rg (fun j => w.heap.size ≤ j ∧ j < w'.heap.size) w' q n G l ∧ Below w.heap.size w w' := by
  have HG := Lib.hid h
  have HC := Lib.hid h.len
  have KEEP := Lib.hid (show ∀ W', Below w.heap.size w W' → (fun wx => wx.cell? ⟨p, 0, none⟩ = some (.int .i64 (n : Nat)) ∧ wx.cell? ⟨p, 3, none⟩ = some (.int .u8 l)) W' from fun W' kb => by
    obtain ⟨v, H, f, h1, _⟩ := h
    have r1 := (h1.below kb).cells
    exact ⟨r1.1, r1.2.2.2⟩)
  clear h
  go_enter Try.func15, Try.ntmps15
  go_upto_region 3 with (fail)
  refine wp_region_held_drew (S := (fun wx => wx.cell? ⟨p, 0, none⟩ = some (.int .i64 (n : Nat)) ∧ wx.cell? ⟨p, 3, none⟩ = some (.int .u8 l))) (by kernel_rfl) ?_ (fun hHeld => ?_)
  · exact KEEP.out _ ((Below.refl _ _).drew)
  obtain ⟨wd, hwd⟩ : ∃ X, X = w.drew := ⟨_, rfl⟩
  have HX := Lib.hid (show Below w.heap.size w wd by rw [hwd]; exact (Below.refl _ _).drew)
  replace hHeld := KEEP.out _ HX.out
  rw [← hwd]
  clear hwd
  refine tk 0 rfl (fun w hSw => by (try dsimp only at hSw); go_simp; try with_reducible rfl) ?_
  go_frame
  refine tk 1 rfl (fun w hSw => by (try dsimp only at hSw); go_simp; try with_reducible rfl) ?_
  go_frame
  refine tk 2 rfl (fun w hSw => by (try dsimp only at hSw); go_simp; try with_reducible rfl) ?_
  go_frame
  refine tk 3 rfl (fun w hSw => by (try dsimp only at hSw); go_simp; try with_reducible rfl) ?_
  go_frame
  refine tk 4 rfl (fun w hSw => by (try dsimp only at hSw); go_simp; try with_reducible rfl) ?_
  go_frame
  refine tk 6 rfl (fun w hSw => by (try dsimp only at hSw); go_simp; try with_reducible rfl) ?_
  go_frame
  refine tk 7 rfl (fun w hSw => by (try dsimp only at hSw); go_simp; try with_reducible rfl) ?_
  go_frame
  refine tk 8 rfl (fun w hSw => by (try dsimp only at hSw); go_simp; try with_reducible rfl) ?_
  go_frame
  refine tk 9 rfl (fun w hSw => by (try dsimp only at hSw); go_simp; try with_reducible rfl) ?_
  go_frame
  refine do_at (i := 5) rfl (by kernel_rfl) (by kernel_rfl) (fun K hK => ?_)
  go_simp
  refine (all_any X _ p n G l (HG.out.below HX.out)).mono ?_
  rintro e w1 ⟨v1, K1, rfl, hk1, hr1, b1⟩
  obtain ⟨a1, c1, e1⟩ := own_shape hr1.hds
  subst e1
  have HK1 := Lib.hid hk1
  have HR1 := Lib.hid hr1
  have HX1 := Lib.hid (HX.out.trans (b1.mono HX.out.size))
  clear hk1 hr1 b1
  go_wp2_with fail
  refine hK.out _ _ ?_ (fun hHeld => ?_)
  · exact KEEP.out _ HX1.out
  clear hK K
  try go_frame
  refine tk 10 rfl (fun w hSw => by (try dsimp only at hSw); go_simp; try with_reducible rfl) ?_
  go_frame
  obtain ⟨b, hb⟩ : ∃ b, b = w1.heap.size := ⟨_, rfl⟩
  obtain ⟨w2, hw2⟩ : ∃ x, x = w1.alloc (.cells #[.int .i64 (n : Nat), .slice a1 K1.length c1, .int .i64 0, .int .u8 l] 73) := ⟨_, rfl⟩
  have HB2 := Lib.hid (show Below w1.heap.size w1 w2 by rw [hw2]; exact (Below.refl _ _).alloc (Nat.le_refl _) _)
  have H2 := Lib.hid (show w2.heap[b]? = some (.cells #[.int .i64 (n : Nat), .slice a1 K1.length c1, .int .i64 ((0 : Nat) : Int), .int .u8 l] 73 (0, 0)) by rw [hw2, hb]; exact heap_alloc_new w1 _)
  have HBE := Lib.hid (show b = w1.heap.size ∧ b < w2.heap.size from ⟨hb, by rw [hw2, hb]; simp⟩)
  refine do_at (i := 11) rfl (by kernel_rfl) (by kernel_rfl) (fun K hK => ?_)
  go_simp
  rw [← hw2, ← hb]
  clear hw2 hb
  refine hK.out _ _ ?_ (fun hHeld => ?_)
  · exact KEEP.out _ (HX1.out.trans (HB2.out.mono HX1.out.size))
  clear hK K
  try go_frame
  refine tk 12 rfl (fun w hSw => by (try dsimp only at hSw); go_simp; try with_reducible rfl) ?_
  go_frame
  refine wpAnyH_done (by kernel_rfl) ?_ _
  clear hHeld KEEP
  go_wp2
  go_ret
  have hs := HX.out.size
  have hs1 := HX1.out.size
  have hs2 := HB2.out.size
  have hbe := HBE.out
  have hkl : K1.length = G.length := by rw [← HK1.out, List.length_map]
  refine ⟨b, rfl, ⟨.slice a1 K1.length c1, K1, 0, ⟨H2.out, (HR1.out.below HB2.out).mono (fun j hj => ⟨Nat.le_trans hs hj.1, Nat.lt_of_lt_of_le hj.2 hs2⟩), ⟨by omega, hbe.2⟩, fun j hj => hj.2, HC.out.2.1, by rw [hkl]; exact HC.out.1, ⟨Nat.zero_le _, fun h => h⟩, fun h => absurd h (by decide), fun x hx => HC.out.2.2 x.R (by rw [← HK1.out]; exact List.mem_map_of_mem hx)⟩, ?_⟩, HX1.out.trans (HB2.out.mono HX1.out.size)⟩
  rw [turnL_zero]
  exact HK1.out
theorem copy_nil (w : World) : Calls Try.prog 15 #[.pointer none] w fun e w' => e = .returned (.pointer none) ∧ w = w' := by
  go_enter Try.func15, Try.ntmps15
  go_wp2
  go_ret
  exact ⟨rfl, rfl⟩
end Go.Proofs.Ytnefamgjlhdffaa.Lab
