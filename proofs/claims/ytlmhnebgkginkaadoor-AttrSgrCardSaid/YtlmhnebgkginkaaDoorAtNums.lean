/- The map of what numbers say. -/
import Derived.Test.YtlmhnebgkginkaaDoorAtSay
namespace Go.Proofs.YtlmhnebgkginkaaDoor.Lab
open Go Go.RowKit

set_option maxHeartbeats 8000000 in
set_option maxRecDepth 100000 in
theorem colors_any (w : World) (M : Nat) (bg : Bool) (more : Nat) (L : SyL) (hm : more ≤ 900) (h : MapL w M L) (k1 : symL ((30 + more : Nat) : Int) L = none) (k2 : symL ((90 + more : Nat) : Int) (L ++ [(30 + more, .idx bg more 30)]) = none)
    (k3 : symL ((39 + more : Nat) : Int) (L ++ [(30 + more, .idx bg more 30)] ++ [(90 + more, .idx bg more 82)]) = none) (k4 : symL ((38 + more : Nat) : Int) (L ++ [(30 + more, .idx bg more 30)] ++ [(90 + more, .idx bg more 82)] ++ [(39 + more, .none bg)]) = none) :
    Calls Tryd.prog 49 #[.map (some M), .int .i64 (more : Nat), .func (.func (putN bg)) #[] #[]] w fun e w' => e = .returned (.tuple #[]) ∧ MapL w' M (L ++ [(30 + more, .idx bg more 30)] ++ [(90 + more, .idx bg more 82)] ++ [(39 + more, .none bg)] ++ [(38 + more, .told bg)]) ∧ But M w w' := by
  obtain ⟨w0, hw0⟩ : ∃ w0, w0 = (w.alloc (.cells #[.int .i64 (more : Nat)] 3)).alloc (.cells #[.func (.func (putN bg)) #[] #[]] 86) := ⟨_, rfl⟩
  have b0 : Below w.heap.size w w0 := by rw [hw0]; exact ((Below.refl _ _).alloc (Nat.le_refl _) _).alloc (by simp) _
  have HX4 := Lib.hid (show Box w0 w.heap.size (.int .i64 (more : Nat)) by rw [hw0]; exact (Box.newAt w _ rfl _ _).below ((Below.refl _ _).alloc (Nat.le_refl _) _))
  have HX5 := Lib.hid (show Box w0 (w.heap.size + 1) (.func (.func (putN bg)) #[] #[]) by rw [hw0]; exact Box.newAt _ _ (by simp) _ _)
  have HM := Lib.hid (h.below b0)
  have HB := Lib.hid (But.of (B := M) b0)
  have HPN := Lib.hid (show ∃ q, q = putN bg from ⟨_, rfl⟩)
  have eA : IntKind.i64.wrap ((30 : Int) + more) = ((30 + more : Nat) : Int) := by rw [IntKind.wrap_i64]; omega
  obtain ⟨qA, hqA⟩ : ∃ q : Nat, q = 30 + more := ⟨_, rfl⟩
  rw [← hqA] at eA
  have lA : qA ≤ 1000 := by omega
  have eB : IntKind.i64.wrap ((90 : Int) + more) = ((90 + more : Nat) : Int) := by rw [IntKind.wrap_i64]; omega
  obtain ⟨qB, hqB⟩ : ∃ q : Nat, q = 90 + more := ⟨_, rfl⟩
  rw [← hqB] at eB
  have lB : qB ≤ 1000 := by omega
  have eC : IntKind.i64.wrap ((39 : Int) + more) = ((39 + more : Nat) : Int) := by rw [IntKind.wrap_i64]; omega
  obtain ⟨qC, hqC⟩ : ∃ q : Nat, q = 39 + more := ⟨_, rfl⟩
  rw [← hqC] at eC
  have lC : qC ≤ 1000 := by omega
  have eD : IntKind.i64.wrap ((38 : Int) + more) = ((38 + more : Nat) : Int) := by rw [IntKind.wrap_i64]; omega
  obtain ⟨qD, hqD⟩ : ∃ q : Nat, q = 38 + more := ⟨_, rfl⟩
  rw [← hqD] at eD
  have lD : qD ≤ 1000 := by omega
  rw [← hqA] at k1 k2 k3 k4 ⊢
  rw [← hqB] at k2 k3 k4 ⊢
  rw [← hqC] at k3 k4 ⊢
  rw [← hqD] at k4 ⊢
  have HK1 := Lib.hid k1
  have HK2 := Lib.hid k2
  have HK3 := Lib.hid k3
  have HK4 := Lib.hid k4
  clear k1 k2 k3 k4 hqA hqB hqC hqD b0 h HPN
  have hm1 : more ≤ 1000 := by omega
  go_enter Tryd.func49, Tryd.ntmps49
  go_wp2
  rw [← hw0]
  obtain ⟨p4, hp4⟩ : ∃ p, p = w.heap.size := ⟨_, rfl⟩
  obtain ⟨p5, hp5⟩ : ∃ p, p = p4 + 1 := ⟨_, rfl⟩
  rw [← hp4] at HX4 HX5 ⊢
  rw [← hp5] at HX5 ⊢
  clear hw0 hp4 hp5
  have BB : Below w0.heap.size w0 w0.drew := ⟨rfl, rfl, rfl, Nat.le_refl _, fun _ _ => rfl⟩
  refine wp_region_held_drew (S := fun w' => w'.cell? ⟨p4, 0, none⟩ = some (.int .i64 (more : Nat))) (by kernel_rfl) ?_ (fun hHeld => ?_)
  · exact HX4.out.cell
  obtain ⟨u0, hu0⟩ : ∃ u0, u0 = w0.drew := ⟨_, rfl⟩
  rw [← hu0] at BB hHeld ⊢
  clear hu0
  replace HM := Lib.hid (HM.out.below BB)
  replace HX4 := Lib.hid (HX4.out.below BB)
  replace HX5 := Lib.hid (HX5.out.below BB)
  replace HB := Lib.hid (HB.out.trans (But.of BB))
  clear BB
  refine take_at (i := 0) (v := ?_) rfl (by kernel_rfl) (by kernel_rfl) (by kernel_rfl) (fun _ _ _ h => h) (by kernel_rfl) (by assumption) ?_ ?_
  rotate_left
  · (intro w hSw; (try dsimp only at hSw); go_simp; try with_reducible rfl)
  simp only [Act.put, List.setIfInBounds_toArray, List.set_cons_zero, List.set_cons_succ]
  refine take_at (i := 1) (v := ?_) rfl (by kernel_rfl) (by kernel_rfl) (by kernel_rfl) (fun _ _ _ h => h) (by kernel_rfl) (by assumption) ?_ ?_
  rotate_left
  · (intro w hSw; (try dsimp only at hSw); go_simp; try with_reducible rfl)
  simp only [Act.put, List.setIfInBounds_toArray, List.set_cons_zero, List.set_cons_succ]
  refine take_at (i := 2) (v := ?_) rfl (by kernel_rfl) (by kernel_rfl) (by kernel_rfl) (fun _ _ _ h => h) (by kernel_rfl) (by assumption) ?_ ?_
  rotate_left
  · (intro w hSw; (try dsimp only at hSw); go_simp; try with_reducible rfl)
  simp only [Act.put, List.setIfInBounds_toArray, List.set_cons_zero, List.set_cons_succ]
  refine take_at (i := 3) (v := ?_) rfl (by kernel_rfl) (by kernel_rfl) (by kernel_rfl) (fun _ _ _ h => h) (by kernel_rfl) (by assumption) ?_ ?_
  rotate_left
  · (intro w hSw; (try dsimp only at hSw); go_simp; try with_reducible rfl)
  simp only [Act.put, List.setIfInBounds_toArray, List.set_cons_zero, List.set_cons_succ]
  refine do_at (i := 4) rfl (by kernel_rfl) (by kernel_rfl) (fun K hK => ?_)
  go_simp
  refine (mk_idx bg more 30 hm1 (by decide) p5 p4 _ HX5.out HX4.out).mono ?_
  rintro e u8 ⟨b3, rfl, s8, b8⟩
  replace HM := Lib.hid (HM.out.below b8)
  replace HX4 := Lib.hid (HX4.out.below b8)
  replace HX5 := Lib.hid (HX5.out.below b8)
  replace HB := Lib.hid (HB.out.trans (But.of b8))
  have HS := Lib.hid s8
  clear b8 s8
  go_wp2_with fail
  refine hK.out _ _ ?_ (fun hHeld => ?_)
  · exact HX4.out.cell
  clear hK K
  try simp only [Act.put, List.setIfInBounds_toArray, List.set_cons_zero, List.set_cons_succ]
  refine do_at (i := 5) rfl (by kernel_rfl) (by kernel_rfl) (fun K hK => ?_)
  obtain ⟨u9, hrun, m9, b9, x9⟩ := HM.out.insert qA (by assumption) HK1.out _ _ HS.out
  replace HX4 := Lib.hid (x9 _ _ HX4.out)
  replace HX5 := Lib.hid (x9 _ _ HX5.out)
  go_wp2_with fail
  replace HM := Lib.hid m9
  replace HB := Lib.hid (HB.out.trans b9)
  clear m9 b9 x9 HS hrun
  refine hK.out _ _ ?_ (fun hHeld => ?_)
  · exact HX4.out.cell
  clear hK K
  try simp only [Act.put, List.setIfInBounds_toArray, List.set_cons_zero, List.set_cons_succ]
  refine wpAnyH_done (by kernel_rfl) ?_ _
  clear hHeld
  go_wp2_with fail
  have BB : Below u9.heap.size u9 u9.drew := ⟨rfl, rfl, rfl, Nat.le_refl _, fun _ _ => rfl⟩
  refine wp_region_held_drew (S := fun w' => w'.cell? ⟨p4, 0, none⟩ = some (.int .i64 (more : Nat))) (by kernel_rfl) ?_ (fun hHeld => ?_)
  · exact HX4.out.cell
  obtain ⟨u0, hu0⟩ : ∃ u0, u0 = u9.drew := ⟨_, rfl⟩
  rw [← hu0] at BB hHeld ⊢
  clear hu0
  replace HM := Lib.hid (HM.out.below BB)
  replace HX4 := Lib.hid (HX4.out.below BB)
  replace HX5 := Lib.hid (HX5.out.below BB)
  replace HB := Lib.hid (HB.out.trans (But.of BB))
  clear BB
  refine take_at (i := 0) (v := ?_) rfl (by kernel_rfl) (by kernel_rfl) (by kernel_rfl) (fun _ _ _ h => h) (by kernel_rfl) (by assumption) ?_ ?_
  rotate_left
  · (intro w hSw; (try dsimp only at hSw); go_simp; try with_reducible rfl)
  simp only [Act.put, List.setIfInBounds_toArray, List.set_cons_zero, List.set_cons_succ]
  refine take_at (i := 1) (v := ?_) rfl (by kernel_rfl) (by kernel_rfl) (by kernel_rfl) (fun _ _ _ h => h) (by kernel_rfl) (by assumption) ?_ ?_
  rotate_left
  · (intro w hSw; (try dsimp only at hSw); go_simp; try with_reducible rfl)
  simp only [Act.put, List.setIfInBounds_toArray, List.set_cons_zero, List.set_cons_succ]
  refine take_at (i := 2) (v := ?_) rfl (by kernel_rfl) (by kernel_rfl) (by kernel_rfl) (fun _ _ _ h => h) (by kernel_rfl) (by assumption) ?_ ?_
  rotate_left
  · (intro w hSw; (try dsimp only at hSw); go_simp; try with_reducible rfl)
  simp only [Act.put, List.setIfInBounds_toArray, List.set_cons_zero, List.set_cons_succ]
  refine take_at (i := 3) (v := ?_) rfl (by kernel_rfl) (by kernel_rfl) (by kernel_rfl) (fun _ _ _ h => h) (by kernel_rfl) (by assumption) ?_ ?_
  rotate_left
  · (intro w hSw; (try dsimp only at hSw); go_simp; try with_reducible rfl)
  simp only [Act.put, List.setIfInBounds_toArray, List.set_cons_zero, List.set_cons_succ]
  refine do_at (i := 4) rfl (by kernel_rfl) (by kernel_rfl) (fun K hK => ?_)
  go_simp
  refine (mk_idx bg more 82 hm1 (by decide) p5 p4 _ HX5.out HX4.out).mono ?_
  rintro e u8 ⟨b3, rfl, s8, b8⟩
  replace HM := Lib.hid (HM.out.below b8)
  replace HX4 := Lib.hid (HX4.out.below b8)
  replace HX5 := Lib.hid (HX5.out.below b8)
  replace HB := Lib.hid (HB.out.trans (But.of b8))
  have HS := Lib.hid s8
  clear b8 s8
  go_wp2_with fail
  refine hK.out _ _ ?_ (fun hHeld => ?_)
  · exact HX4.out.cell
  clear hK K
  try simp only [Act.put, List.setIfInBounds_toArray, List.set_cons_zero, List.set_cons_succ]
  refine do_at (i := 5) rfl (by kernel_rfl) (by kernel_rfl) (fun K hK => ?_)
  obtain ⟨u9, hrun, m9, b9, x9⟩ := HM.out.insert qB (by assumption) HK2.out _ _ HS.out
  replace HX4 := Lib.hid (x9 _ _ HX4.out)
  replace HX5 := Lib.hid (x9 _ _ HX5.out)
  go_wp2_with fail
  replace HM := Lib.hid m9
  replace HB := Lib.hid (HB.out.trans b9)
  clear m9 b9 x9 HS hrun
  refine hK.out _ _ ?_ (fun hHeld => ?_)
  · exact HX4.out.cell
  clear hK K
  try simp only [Act.put, List.setIfInBounds_toArray, List.set_cons_zero, List.set_cons_succ]
  refine wpAnyH_done (by kernel_rfl) ?_ _
  clear hHeld
  have c4 := HX4.out.cell
  obtain ⟨u10, hrun, m10, b10, x10⟩ := HM.out.insert qC (by assumption) HK3.out (.func (.func 66) #[] #[.pointer (some ⟨p5, 0, none⟩)]) (.none bg) ⟨p5, rfl, HX5.out⟩
  replace HX4 := Lib.hid (x10 _ _ HX4.out)
  replace HX5 := Lib.hid (x10 _ _ HX5.out)
  have c5 := HX4.out.cell
  obtain ⟨u11, hrun2, m11, b11, x11⟩ := m10.insert qD (by assumption) HK4.out (.func (.func 67) #[] #[.pointer (some ⟨p5, 0, none⟩)]) (.told bg) ⟨p5, rfl, HX5.out⟩
  have HM2 := Lib.hid m11
  have HB2 := Lib.hid ((HB.out.trans b10).trans b11)
  clear m10 m11 b10 b11 x10 x11 HX4 HX5 HM HB
  go_wp2
  go_end0
  exact ⟨rfl, HM2.out, HB2.out⟩

/-- What all numbers say. -/
def NL : SyL := [(0, .zero), (1, .flags 1 0), (2, .flags 2 0), (3, .flags 4 0), (4, .flags 8 256), (5, .flags 16 0), (7, .flags 32 0), (8, .flags 64 0), (9, .flags 128 0), (21, .flags 256 8), (22, .flags 0 3), (23, .flags 0 4), (24, .flags 0 264), (25, .flags 0 16), (27, .flags 0 32), (28, .flags 0 64), (29, .flags 0 128),
  (30, .idx false 0 30), (90, .idx false 0 82), (39, .none false), (38, .told false), (40, .idx true 10 30), (100, .idx true 10 82), (49, .none true), (48, .told true)]

set_option maxHeartbeats 16000000 in
set_option maxRecDepth 100000 in
theorem numbers_any (w : World) : Calls Tryd.prog 28 #[] w fun e w' => e = .returned (.map (some w.heap.size)) ∧ MapL w' w.heap.size NL ∧ Below w.heap.size w w' := by
  have hmm := @run_makeMap Tryd.prog
  have HM := Lib.hid (MapL.new w)
  have b1 : Below w.heap.size w (w.alloc (.map #[] 0)) := (Below.refl _ _).alloc (Nat.le_refl _) _
  have HB := Lib.hid b1
  clear b1
  obtain ⟨w1, hw1⟩ : ∃ w1, w1 = w.alloc (.map #[] 0) := ⟨_, rfl⟩
  rw [← hw1] at HM HB
  obtain ⟨M, hMeq⟩ : ∃ M, M = w.heap.size := ⟨_, rfl⟩
  rw [← hMeq] at HM
  obtain ⟨u0, hrun, m0, b0, x0⟩ := HM.out.insert 0 (by decide) rfl (.func (.func 48) #[] #[]) .zero rfl
  have hrun0 : (Instr.mapUpdate 62 (.map (some w.heap.size)) (.int .i64 0) (.func (.func 48) #[] #[])).run Tryd.prog (w.alloc (.map #[] 0)) = .ok () u0 := by rw [← hw1, ← hMeq]; exact hrun
  have HM0 := Lib.hid m0
  have HB0 := Lib.hid (HB.out.trans (b0.below (C := w.heap.size) (by omega) HB.out.size))
  clear m0 b0 x0 HB HM hw1 hrun
  go_enter Tryd.func28, Tryd.ntmps28
  go_wp2_with fail
  rw [← hMeq]
  have HMq := Lib.hid hMeq
  clear hrun0 hmm hMeq
  refine (mk_flags 1 0 (by decide) (by decide) _).mono ?_
  rintro e v1 ⟨x1, x2, rfl, s1, b1⟩
  replace HM0 := Lib.hid (HM0.out.below b1)
  replace HB0 := Lib.hid (HB0.out.trans (b1.mono HB0.out.size))
  obtain ⟨u1, hrun, m1, b2, _⟩ := HM0.out.insert 1 (by decide) rfl _ _ s1
  have hrun' : (Instr.mapUpdate 62 (.map (some M)) (.int .i64 1) (.func (.func 47) #[] #[.pointer (some ⟨x1, 0, none⟩), .pointer (some ⟨x2, 0, none⟩)])).run Tryd.prog v1 = .ok () u1 := hrun
  replace HM0 := Lib.hid m1
  replace HB0 := Lib.hid (HB0.out.trans (b2.below (C := w.heap.size) (by have := HMq.out; omega) HB0.out.size))
  clear s1 b1 m1 b2 hrun
  go_wp2_with fail
  clear hrun'
  refine (mk_flags 2 0 (by decide) (by decide) _).mono ?_
  rintro e v2 ⟨x1, x2, rfl, s1, b1⟩
  replace HM0 := Lib.hid (HM0.out.below b1)
  replace HB0 := Lib.hid (HB0.out.trans (b1.mono HB0.out.size))
  obtain ⟨u2, hrun, m1, b2, _⟩ := HM0.out.insert 2 (by decide) rfl _ _ s1
  have hrun' : (Instr.mapUpdate 62 (.map (some M)) (.int .i64 2) (.func (.func 47) #[] #[.pointer (some ⟨x1, 0, none⟩), .pointer (some ⟨x2, 0, none⟩)])).run Tryd.prog v2 = .ok () u2 := hrun
  replace HM0 := Lib.hid m1
  replace HB0 := Lib.hid (HB0.out.trans (b2.below (C := w.heap.size) (by have := HMq.out; omega) HB0.out.size))
  clear s1 b1 m1 b2 hrun
  go_wp2_with fail
  clear hrun'
  refine (mk_flags 4 0 (by decide) (by decide) _).mono ?_
  rintro e v3 ⟨x1, x2, rfl, s1, b1⟩
  replace HM0 := Lib.hid (HM0.out.below b1)
  replace HB0 := Lib.hid (HB0.out.trans (b1.mono HB0.out.size))
  obtain ⟨u3, hrun, m1, b2, _⟩ := HM0.out.insert 3 (by decide) rfl _ _ s1
  have hrun' : (Instr.mapUpdate 62 (.map (some M)) (.int .i64 3) (.func (.func 47) #[] #[.pointer (some ⟨x1, 0, none⟩), .pointer (some ⟨x2, 0, none⟩)])).run Tryd.prog v3 = .ok () u3 := hrun
  replace HM0 := Lib.hid m1
  replace HB0 := Lib.hid (HB0.out.trans (b2.below (C := w.heap.size) (by have := HMq.out; omega) HB0.out.size))
  clear s1 b1 m1 b2 hrun
  go_wp2_with fail
  clear hrun'
  refine (mk_flags 8 256 (by decide) (by decide) _).mono ?_
  rintro e v4 ⟨x1, x2, rfl, s1, b1⟩
  replace HM0 := Lib.hid (HM0.out.below b1)
  replace HB0 := Lib.hid (HB0.out.trans (b1.mono HB0.out.size))
  obtain ⟨u4, hrun, m1, b2, _⟩ := HM0.out.insert 4 (by decide) rfl _ _ s1
  have hrun' : (Instr.mapUpdate 62 (.map (some M)) (.int .i64 4) (.func (.func 47) #[] #[.pointer (some ⟨x1, 0, none⟩), .pointer (some ⟨x2, 0, none⟩)])).run Tryd.prog v4 = .ok () u4 := hrun
  replace HM0 := Lib.hid m1
  replace HB0 := Lib.hid (HB0.out.trans (b2.below (C := w.heap.size) (by have := HMq.out; omega) HB0.out.size))
  clear s1 b1 m1 b2 hrun
  go_wp2_with fail
  clear hrun'
  refine (mk_flags 16 0 (by decide) (by decide) _).mono ?_
  rintro e v5 ⟨x1, x2, rfl, s1, b1⟩
  replace HM0 := Lib.hid (HM0.out.below b1)
  replace HB0 := Lib.hid (HB0.out.trans (b1.mono HB0.out.size))
  obtain ⟨u5, hrun, m1, b2, _⟩ := HM0.out.insert 5 (by decide) rfl _ _ s1
  have hrun' : (Instr.mapUpdate 62 (.map (some M)) (.int .i64 5) (.func (.func 47) #[] #[.pointer (some ⟨x1, 0, none⟩), .pointer (some ⟨x2, 0, none⟩)])).run Tryd.prog v5 = .ok () u5 := hrun
  replace HM0 := Lib.hid m1
  replace HB0 := Lib.hid (HB0.out.trans (b2.below (C := w.heap.size) (by have := HMq.out; omega) HB0.out.size))
  clear s1 b1 m1 b2 hrun
  go_wp2_with fail
  clear hrun'
  refine (mk_flags 32 0 (by decide) (by decide) _).mono ?_
  rintro e v6 ⟨x1, x2, rfl, s1, b1⟩
  replace HM0 := Lib.hid (HM0.out.below b1)
  replace HB0 := Lib.hid (HB0.out.trans (b1.mono HB0.out.size))
  obtain ⟨u6, hrun, m1, b2, _⟩ := HM0.out.insert 7 (by decide) rfl _ _ s1
  have hrun' : (Instr.mapUpdate 62 (.map (some M)) (.int .i64 7) (.func (.func 47) #[] #[.pointer (some ⟨x1, 0, none⟩), .pointer (some ⟨x2, 0, none⟩)])).run Tryd.prog v6 = .ok () u6 := hrun
  replace HM0 := Lib.hid m1
  replace HB0 := Lib.hid (HB0.out.trans (b2.below (C := w.heap.size) (by have := HMq.out; omega) HB0.out.size))
  clear s1 b1 m1 b2 hrun
  go_wp2_with fail
  clear hrun'
  refine (mk_flags 64 0 (by decide) (by decide) _).mono ?_
  rintro e v7 ⟨x1, x2, rfl, s1, b1⟩
  replace HM0 := Lib.hid (HM0.out.below b1)
  replace HB0 := Lib.hid (HB0.out.trans (b1.mono HB0.out.size))
  obtain ⟨u7, hrun, m1, b2, _⟩ := HM0.out.insert 8 (by decide) rfl _ _ s1
  have hrun' : (Instr.mapUpdate 62 (.map (some M)) (.int .i64 8) (.func (.func 47) #[] #[.pointer (some ⟨x1, 0, none⟩), .pointer (some ⟨x2, 0, none⟩)])).run Tryd.prog v7 = .ok () u7 := hrun
  replace HM0 := Lib.hid m1
  replace HB0 := Lib.hid (HB0.out.trans (b2.below (C := w.heap.size) (by have := HMq.out; omega) HB0.out.size))
  clear s1 b1 m1 b2 hrun
  go_wp2_with fail
  clear hrun'
  refine (mk_flags 128 0 (by decide) (by decide) _).mono ?_
  rintro e v8 ⟨x1, x2, rfl, s1, b1⟩
  replace HM0 := Lib.hid (HM0.out.below b1)
  replace HB0 := Lib.hid (HB0.out.trans (b1.mono HB0.out.size))
  obtain ⟨u8, hrun, m1, b2, _⟩ := HM0.out.insert 9 (by decide) rfl _ _ s1
  have hrun' : (Instr.mapUpdate 62 (.map (some M)) (.int .i64 9) (.func (.func 47) #[] #[.pointer (some ⟨x1, 0, none⟩), .pointer (some ⟨x2, 0, none⟩)])).run Tryd.prog v8 = .ok () u8 := hrun
  replace HM0 := Lib.hid m1
  replace HB0 := Lib.hid (HB0.out.trans (b2.below (C := w.heap.size) (by have := HMq.out; omega) HB0.out.size))
  clear s1 b1 m1 b2 hrun
  go_wp2_with fail
  clear hrun'
  refine (mk_flags 256 8 (by decide) (by decide) _).mono ?_
  rintro e v9 ⟨x1, x2, rfl, s1, b1⟩
  replace HM0 := Lib.hid (HM0.out.below b1)
  replace HB0 := Lib.hid (HB0.out.trans (b1.mono HB0.out.size))
  obtain ⟨u9, hrun, m1, b2, _⟩ := HM0.out.insert 21 (by decide) rfl _ _ s1
  have hrun' : (Instr.mapUpdate 62 (.map (some M)) (.int .i64 21) (.func (.func 47) #[] #[.pointer (some ⟨x1, 0, none⟩), .pointer (some ⟨x2, 0, none⟩)])).run Tryd.prog v9 = .ok () u9 := hrun
  replace HM0 := Lib.hid m1
  replace HB0 := Lib.hid (HB0.out.trans (b2.below (C := w.heap.size) (by have := HMq.out; omega) HB0.out.size))
  clear s1 b1 m1 b2 hrun
  go_wp2_with fail
  clear hrun'
  refine (mk_flags 0 3 (by decide) (by decide) _).mono ?_
  rintro e v10 ⟨x1, x2, rfl, s1, b1⟩
  replace HM0 := Lib.hid (HM0.out.below b1)
  replace HB0 := Lib.hid (HB0.out.trans (b1.mono HB0.out.size))
  obtain ⟨u10, hrun, m1, b2, _⟩ := HM0.out.insert 22 (by decide) rfl _ _ s1
  have hrun' : (Instr.mapUpdate 62 (.map (some M)) (.int .i64 22) (.func (.func 47) #[] #[.pointer (some ⟨x1, 0, none⟩), .pointer (some ⟨x2, 0, none⟩)])).run Tryd.prog v10 = .ok () u10 := hrun
  replace HM0 := Lib.hid m1
  replace HB0 := Lib.hid (HB0.out.trans (b2.below (C := w.heap.size) (by have := HMq.out; omega) HB0.out.size))
  clear s1 b1 m1 b2 hrun
  go_wp2_with fail
  clear hrun'
  refine (mk_flags 0 4 (by decide) (by decide) _).mono ?_
  rintro e v11 ⟨x1, x2, rfl, s1, b1⟩
  replace HM0 := Lib.hid (HM0.out.below b1)
  replace HB0 := Lib.hid (HB0.out.trans (b1.mono HB0.out.size))
  obtain ⟨u11, hrun, m1, b2, _⟩ := HM0.out.insert 23 (by decide) rfl _ _ s1
  have hrun' : (Instr.mapUpdate 62 (.map (some M)) (.int .i64 23) (.func (.func 47) #[] #[.pointer (some ⟨x1, 0, none⟩), .pointer (some ⟨x2, 0, none⟩)])).run Tryd.prog v11 = .ok () u11 := hrun
  replace HM0 := Lib.hid m1
  replace HB0 := Lib.hid (HB0.out.trans (b2.below (C := w.heap.size) (by have := HMq.out; omega) HB0.out.size))
  clear s1 b1 m1 b2 hrun
  go_wp2_with fail
  clear hrun'
  refine (mk_flags 0 264 (by decide) (by decide) _).mono ?_
  rintro e v12 ⟨x1, x2, rfl, s1, b1⟩
  replace HM0 := Lib.hid (HM0.out.below b1)
  replace HB0 := Lib.hid (HB0.out.trans (b1.mono HB0.out.size))
  obtain ⟨u12, hrun, m1, b2, _⟩ := HM0.out.insert 24 (by decide) rfl _ _ s1
  have hrun' : (Instr.mapUpdate 62 (.map (some M)) (.int .i64 24) (.func (.func 47) #[] #[.pointer (some ⟨x1, 0, none⟩), .pointer (some ⟨x2, 0, none⟩)])).run Tryd.prog v12 = .ok () u12 := hrun
  replace HM0 := Lib.hid m1
  replace HB0 := Lib.hid (HB0.out.trans (b2.below (C := w.heap.size) (by have := HMq.out; omega) HB0.out.size))
  clear s1 b1 m1 b2 hrun
  go_wp2_with fail
  clear hrun'
  refine (mk_flags 0 16 (by decide) (by decide) _).mono ?_
  rintro e v13 ⟨x1, x2, rfl, s1, b1⟩
  replace HM0 := Lib.hid (HM0.out.below b1)
  replace HB0 := Lib.hid (HB0.out.trans (b1.mono HB0.out.size))
  obtain ⟨u13, hrun, m1, b2, _⟩ := HM0.out.insert 25 (by decide) rfl _ _ s1
  have hrun' : (Instr.mapUpdate 62 (.map (some M)) (.int .i64 25) (.func (.func 47) #[] #[.pointer (some ⟨x1, 0, none⟩), .pointer (some ⟨x2, 0, none⟩)])).run Tryd.prog v13 = .ok () u13 := hrun
  replace HM0 := Lib.hid m1
  replace HB0 := Lib.hid (HB0.out.trans (b2.below (C := w.heap.size) (by have := HMq.out; omega) HB0.out.size))
  clear s1 b1 m1 b2 hrun
  go_wp2_with fail
  clear hrun'
  refine (mk_flags 0 32 (by decide) (by decide) _).mono ?_
  rintro e v14 ⟨x1, x2, rfl, s1, b1⟩
  replace HM0 := Lib.hid (HM0.out.below b1)
  replace HB0 := Lib.hid (HB0.out.trans (b1.mono HB0.out.size))
  obtain ⟨u14, hrun, m1, b2, _⟩ := HM0.out.insert 27 (by decide) rfl _ _ s1
  have hrun' : (Instr.mapUpdate 62 (.map (some M)) (.int .i64 27) (.func (.func 47) #[] #[.pointer (some ⟨x1, 0, none⟩), .pointer (some ⟨x2, 0, none⟩)])).run Tryd.prog v14 = .ok () u14 := hrun
  replace HM0 := Lib.hid m1
  replace HB0 := Lib.hid (HB0.out.trans (b2.below (C := w.heap.size) (by have := HMq.out; omega) HB0.out.size))
  clear s1 b1 m1 b2 hrun
  go_wp2_with fail
  clear hrun'
  refine (mk_flags 0 64 (by decide) (by decide) _).mono ?_
  rintro e v15 ⟨x1, x2, rfl, s1, b1⟩
  replace HM0 := Lib.hid (HM0.out.below b1)
  replace HB0 := Lib.hid (HB0.out.trans (b1.mono HB0.out.size))
  obtain ⟨u15, hrun, m1, b2, _⟩ := HM0.out.insert 28 (by decide) rfl _ _ s1
  have hrun' : (Instr.mapUpdate 62 (.map (some M)) (.int .i64 28) (.func (.func 47) #[] #[.pointer (some ⟨x1, 0, none⟩), .pointer (some ⟨x2, 0, none⟩)])).run Tryd.prog v15 = .ok () u15 := hrun
  replace HM0 := Lib.hid m1
  replace HB0 := Lib.hid (HB0.out.trans (b2.below (C := w.heap.size) (by have := HMq.out; omega) HB0.out.size))
  clear s1 b1 m1 b2 hrun
  go_wp2_with fail
  clear hrun'
  refine (mk_flags 0 128 (by decide) (by decide) _).mono ?_
  rintro e v16 ⟨x1, x2, rfl, s1, b1⟩
  replace HM0 := Lib.hid (HM0.out.below b1)
  replace HB0 := Lib.hid (HB0.out.trans (b1.mono HB0.out.size))
  obtain ⟨u16, hrun, m1, b2, _⟩ := HM0.out.insert 29 (by decide) rfl _ _ s1
  have hrun' : (Instr.mapUpdate 62 (.map (some M)) (.int .i64 29) (.func (.func 47) #[] #[.pointer (some ⟨x1, 0, none⟩), .pointer (some ⟨x2, 0, none⟩)])).run Tryd.prog v16 = .ok () u16 := hrun
  replace HM0 := Lib.hid m1
  replace HB0 := Lib.hid (HB0.out.trans (b2.below (C := w.heap.size) (by have := HMq.out; omega) HB0.out.size))
  clear s1 b1 m1 b2 hrun
  go_wp2_with fail
  clear hrun'
  refine (colors_any _ M false 0 _ (by decide) HM0.out rfl rfl rfl rfl).mono ?_
  rintro e v20 ⟨rfl, m1, b1⟩
  replace HM0 := Lib.hid m1
  replace HB0 := Lib.hid (HB0.out.trans (b1.below (C := w.heap.size) (by have := HMq.out; omega) HB0.out.size))
  clear m1 b1
  go_wp2_with fail
  refine (colors_any _ M true 10 _ (by decide) HM0.out rfl rfl rfl rfl).mono ?_
  rintro e v21 ⟨rfl, m1, b1⟩
  replace HM0 := Lib.hid m1
  replace HB0 := Lib.hid (HB0.out.trans (b1.below (C := w.heap.size) (by have := HMq.out; omega) HB0.out.size))
  clear m1 b1
  go_wp2
  rw [HMq.out] at HM0 ⊢
  go_ret
  exact ⟨rfl, HM0.out, HB0.out⟩
end Go.Proofs.YtlmhnebgkginkaaDoor.Lab
