/- The reference's Row and Same, of rows that are the same. -/
import Derived.Test.YtlmhnebgkginkaaDoorAtForm
import Derived.Deep.CutBlock
import Derived.Deep.DeepCutAuto
namespace Go.Proofs.YtlmhnebgkginkaaDoor.Lab
open Go Go.RowKit

set_option maxHeartbeats 2000000 in
set_option maxRecDepth 100000 in
theorem rrow_eq (w : World) (X Y : Nat → Prop) (u v : Value) (r : List Int) (hu : NumsAt w X u r) (hv : NumsAt w Y v r) : Calls Tryd.prog 34 #[u, v] w fun e w' => e = .returned (.bool true) ∧ Below w.heap.size w w' := by
  obtain ⟨a, c, rfl⟩ := hu.shape
  obtain ⟨a', c', rfl⟩ := hv.shape
  have HU := Lib.hid hu
  have HV := Lib.hid hv
  have hmx : r.length ≤ maxLen := by
    obtain ⟨_, _, _, _, h, _⟩ := hu
    exact h
  unfold maxLen at hmx
  obtain ⟨n, hn⟩ : ∃ n, n = r.length := ⟨_, rfl⟩
  rw [← hn] at HU HV hmx ⊢
  have HN := Lib.hid hn
  clear hn hu hv
  have HW0 := Lib.hid (Below.refl w.heap.size w)
  go_enter Tryd.func34, Tryd.ntmps34
  go_wp2
  go_loopg [5] (n + 2) (fun gq i wr => ∃ k : Nat, gq + k = n + 2 ∧ k ≤ n ∧ i = .int .i64 k ∧ Hid (Below w.heap.size w wr))
  case atStart => exact ⟨0, rfl, Nat.zero_le _, rfl, HW0⟩
  case round =>
    obtain ⟨k, hgk, hkn, rfl, HW⟩ := hrel
    obtain ⟨wo, rfl⟩ : ∃ wo : World, wo = wr := ⟨_, rfl⟩
    clear HW0
    by_cases hlt : k < n
    · have hlti : (k : Int) < n := by omega
      have hltd : decide ((k : Int) < (n : Int)) = true := by simp; omega
      have hk1 : IntKind.i64.wrap ((k : Int) + 1) = (k : Int) + 1 := by rw [IntKind.wrap_i64]; omega
      obtain ⟨g, o, c2, e1, _, _, _, hg, h1⟩ := HU.out.open (by rw [← HN.out]; omega)
      obtain ⟨g', o', c2', e2, _, _, _, hg', h2⟩ := HV.out.open (by rw [← HN.out]; omega)
      injection e1 with e1 e3 e4
      injection e2 with e2 e5 e6
      subst e1 e2
      have x1 := (HW.out.cell (p := ⟨g, o + k, none⟩) hg).trans (h1 k (by rw [← HN.out]; exact hlt))
      have x2 := (HW.out.cell (p := ⟨g', o' + k, none⟩) hg').trans (h2 k (by rw [← HN.out]; exact hlt))
      obtain ⟨x, hx⟩ : ∃ x, x = r.getD k 0 := ⟨_, rfl⟩
      rw [← hx] at x1 x2
      clear h1 h2 e3 e4 e5 e6 hx hmx
      go_upto_region 6 with (fail)
      go_quiet (fail)
      go_wp2
      go_roundg (gk - 1)
      case rel => exact ⟨k + 1, by omega, by omega, by go_num, Lib.hid (HW.out.trans (Below.mono (show Below wo.heap.size wo (wo.drewN _) from ⟨rfl, rfl, rfl, Nat.le_refl _, fun _ _ => rfl⟩) HW.out.size))⟩
      case measure => omega
    · have hltd : decide ((k : Int) < (n : Int)) = false := by simp; omega
      have hlti : ¬ (k : Int) < n := by omega
      go_wp2
      go_ret
      exact ⟨rfl, HW.out⟩
def SM (g o k : Nat) (g' o' : Nat) (u v : Value) (W : World) : Prop := W.cell? ⟨g, o + k, none⟩ = some u ∧ W.cell? ⟨g', o' + k, none⟩ = some v
set_option maxHeartbeats 4000000 in
set_option maxRecDepth 100000 in
theorem rsame_eq (w : World) (X Y : Nat → Prop) (u v : Value) (r : Rws) (hu : MatAt w X u r) (hv : MatAt w Y v r) : Calls Tryd.prog 14 #[u, v] w fun e w' => e = .returned (.bool true) ∧ Below w.heap.size w w' := by
  obtain ⟨a, c, rfl⟩ := hu.shape
  obtain ⟨a', c', rfl⟩ := hv.shape
  have HU := Lib.hid hu
  have HV := Lib.hid hv
  have hmx : r.length ≤ maxLen := by
    obtain ⟨_, _, _, _, h, _⟩ := hu
    exact h
  unfold maxLen at hmx
  obtain ⟨n, hn⟩ : ∃ n, n = r.length := ⟨_, rfl⟩
  rw [← hn] at HU HV hmx ⊢
  have HN := Lib.hid hn
  clear hn hu hv
  have HW0 := Lib.hid (Below.refl w.heap.size w)
  go_enter Tryd.func14, Tryd.ntmps14
  go_wp2
  go_loopg [5] (n + 2) (fun gq i wr => ∃ k : Nat, gq + k = n + 2 ∧ k ≤ n ∧ i = .int .i64 k ∧ Hid (Below w.heap.size w wr))
  case atStart => exact ⟨0, rfl, Nat.zero_le _, rfl, HW0⟩
  case round =>
    obtain ⟨k, hgk, hkn, rfl, HW⟩ := hrel
    obtain ⟨wo, rfl⟩ : ∃ wo : World, wo = wr := ⟨_, rfl⟩
    clear HW0
    by_cases hlt : k < n
    · have hlti : (k : Int) < n := by omega
      have hltd : decide ((k : Int) < (n : Int)) = true := by simp; omega
      have hk1 : IntKind.i64.wrap ((k : Int) + 1) = (k : Int) + 1 := by rw [IntKind.wrap_i64]; omega
      obtain ⟨g, o, c2, e1, _, _, _, hg, h1⟩ := HU.out.open (by rw [← HN.out]; omega)
      obtain ⟨g', o', c2', e2, _, _, _, hg', h2⟩ := HV.out.open (by rw [← HN.out]; omega)
      injection e1 with e1 e3 e4
      injection e2 with e2 e5 e6
      subst e1 e2
      obtain ⟨u1, hu1, N1⟩ := h1 k (by rw [← HN.out]; exact hlt)
      obtain ⟨u2, hu2, N2⟩ := h2 k (by rw [← HN.out]; exact hlt)
      have HKEEP := Lib.hid (show ∀ W : World, Below w.heap.size w W → W.cell? ⟨g, o + k, none⟩ = some u1 ∧ W.cell? ⟨g', o' + k, none⟩ = some u2 from fun W hb => ⟨(hb.cell (p := ⟨g, o + k, none⟩) hg).trans hu1, (hb.cell (p := ⟨g', o' + k, none⟩) hg').trans hu2⟩)
      have HN1 := Lib.hid N1
      have HN2 := Lib.hid N2
      clear h1 h2 e3 e4 e5 e6 hmx N1 N2 hu1 hu2 hg hg'
      have BB := HW.out.trans (Below.mono (show Below wo.heap.size wo wo.drew from ⟨rfl, rfl, rfl, Nat.le_refl _, fun _ _ => rfl⟩) HW.out.size)
      go_upto_region 6 with (fail)
      refine wp_region_held_drew (S := fun w' => w'.cell? ⟨g, o + k, none⟩ = some u1 ∧ w'.cell? ⟨g', o' + k, none⟩ = some u2) (by kernel_rfl) ?_ (fun hHeld => ?_)
      · exact HKEEP.out _ BB
      obtain ⟨u0, hu0⟩ : ∃ u0, u0 = wo.drew := ⟨_, rfl⟩
      rw [← hu0] at BB hHeld ⊢
      clear hu0
      have HX := Lib.hid BB
      clear BB
      refine take_at (i := 0) (v := ?_) rfl (by kernel_rfl) (by kernel_rfl) (by kernel_rfl) (fun _ _ _ h => h) (by kernel_rfl) (by assumption) ?_ ?_
      rotate_left
      · (intro w hSw; (try dsimp only at hSw); go_simp; try with_reducible rfl)
      simp only [Act.put, List.setIfInBounds_toArray, List.set_cons_zero, List.set_cons_succ]
      refine take_at (i := 1) (v := ?_) rfl (by kernel_rfl) (by kernel_rfl) (by kernel_rfl) (fun _ _ _ h => h) (by kernel_rfl) (by assumption) ?_ ?_
      rotate_left
      · (intro w hSw; (try dsimp only at hSw); go_simp; try with_reducible rfl)
      simp only [Act.put, List.setIfInBounds_toArray, List.set_cons_zero, List.set_cons_succ]
      refine take_at (i := 2) (v := ?_) rfl (by kernel_rfl) (by kernel_rfl) (by kernel_rfl) (fun _ _ _ h => h) (by kernel_rfl) (by assumption) ?_ ?_
      rotate_left
      · (intro w hSw; (try dsimp only at hSw); go_simp; try with_reducible rfl)
      simp only [Act.put, List.setIfInBounds_toArray, List.set_cons_zero, List.set_cons_succ]
      refine take_at (i := 3) (v := ?_) rfl (by kernel_rfl) (by kernel_rfl) (by kernel_rfl) (fun _ _ _ h => h) (by kernel_rfl) (by assumption) ?_ ?_
      rotate_left
      · (intro w hSw; (try dsimp only at hSw); go_simp; try with_reducible rfl)
      simp only [Act.put, List.setIfInBounds_toArray, List.set_cons_zero, List.set_cons_succ]
      refine take_at (i := 4) (v := ?_) rfl (by kernel_rfl) (by kernel_rfl) (by kernel_rfl) (fun _ _ _ h => h) (by kernel_rfl) (by assumption) ?_ ?_
      rotate_left
      · (intro w hSw; (try dsimp only at hSw); go_simp; try with_reducible rfl)
      simp only [Act.put, List.setIfInBounds_toArray, List.set_cons_zero, List.set_cons_succ]
      refine take_at (i := 5) (v := ?_) rfl (by kernel_rfl) (by kernel_rfl) (by kernel_rfl) (fun _ _ _ h => h) (by kernel_rfl) (by assumption) ?_ ?_
      rotate_left
      · (intro w hSw; (try dsimp only at hSw); go_simp; try with_reducible rfl)
      simp only [Act.put, List.setIfInBounds_toArray, List.set_cons_zero, List.set_cons_succ]
      refine take_at (i := 6) (v := ?_) rfl (by kernel_rfl) (by kernel_rfl) (by kernel_rfl) (fun _ _ _ h => h) (by kernel_rfl) (by assumption) ?_ ?_
      rotate_left
      · (intro w hSw; (try dsimp only at hSw); go_simp; try with_reducible rfl)
      simp only [Act.put, List.setIfInBounds_toArray, List.set_cons_zero, List.set_cons_succ]
      refine take_at (i := 7) (v := ?_) rfl (by kernel_rfl) (by kernel_rfl) (by kernel_rfl) (fun _ _ _ h => h) (by kernel_rfl) (by assumption) ?_ ?_
      rotate_left
      · (intro w hSw; (try dsimp only at hSw); go_simp; try with_reducible rfl)
      simp only [Act.put, List.setIfInBounds_toArray, List.set_cons_zero, List.set_cons_succ]
      refine do_at (i := 8) rfl (by kernel_rfl) (by kernel_rfl) (fun K hK => ?_)
      go_simp
      refine (rrow_eq _ X Y u1 u2 (r.getD k []) (HN1.out.below HX.out) (HN2.out.below HX.out)).mono ?_
      rintro e u3 ⟨rfl, bb⟩
      replace HX := Lib.hid (HX.out.trans (bb.mono HX.out.size))
      clear bb
      go_wp2_with fail
      refine hK.out _ _ ?_ (fun hHeld => ?_)
      · exact HKEEP.out _ HX.out
      clear hK K
      try simp only [Act.put, List.setIfInBounds_toArray, List.set_cons_zero, List.set_cons_succ]
      refine take_at (i := 9) (v := ?_) rfl (by kernel_rfl) (by kernel_rfl) (by kernel_rfl) (fun _ _ _ h => h) (by kernel_rfl) (by assumption) ?_ ?_
      rotate_left
      · (intro w hSw; (try dsimp only at hSw); go_simp; try with_reducible rfl)
      simp only [Act.put, List.setIfInBounds_toArray, List.set_cons_zero, List.set_cons_succ]
      refine wpAnyH_done (by kernel_rfl) ?_ _
      clear HW HKEEP hHeld
      go_wp2
      go_roundg (gk - 1)
      case rel => exact ⟨k + 1, by omega, by omega, by go_num, HX⟩
      case measure => omega
    · have hltd : decide ((k : Int) < (n : Int)) = false := by simp; omega
      have hlti : ¬ (k : Int) < n := by omega
      go_wp2
      go_ret
      exact ⟨rfl, HW.out⟩
end Go.Proofs.YtlmhnebgkginkaaDoor.Lab
