/- The reference's Rows: two rows of tokens held against each other. -/
import Derived.Test.YtclaopidjfekmaaDoorToThree
namespace Go.Proofs.YtclaopidjfekmaaDoor.Lab
open Go Go.RowKit

def rowsB (l l' : List Tok) : Bool := decide (l.length = l'.length) && (List.range l.length).all fun i => sameB (l.getD i default) (l'.getD i default)
theorem rowsB_iff {l l' : List Tok} : rowsB l l' = true ↔ (l.length = l'.length ∧ ∀ i, i < l.length → l.getD i default = l'.getD i default) := by
  unfold rowsB
  rw [Bool.and_eq_true, decide_eq_true_eq, List.all_eq_true]
  exact ⟨fun h => ⟨h.1, fun i hi => same_iff.1 (h.2 i (List.mem_range.2 hi))⟩, fun h => ⟨h.1, fun i hi => same_iff.2 (h.2 i (List.mem_range.1 hi))⟩⟩

set_option maxHeartbeats 8000000 in
set_option maxRecDepth 100000 in
theorem rows_any (v v' : Value) (l l' : List Tok) (w : World) (hT : ToksAt w v l) (hT' : ToksAt w v' l') :
    Calls Tryd.prog 18 #[v, v'] w fun e w' => e = .returned (.bool (rowsB l l')) ∧ Below w.heap.size w w' := by
  obtain ⟨a, cp, rfl, hm, hc⟩ := hT
  obtain ⟨a', cp', rfl, hm', hc'⟩ := hT'
  obtain ⟨D, hD⟩ : ∃ D, D = rowsB l l' := ⟨_, rfl⟩
  rw [← hD]
  have HD1 := Lib.hid (show (l.length = l'.length ∧ ∀ i, i < l.length → l.getD i default = l'.getD i default) → D = true from fun h => by rw [hD]; exact rowsB_iff.2 h)
  have HD0 := Lib.hid (show ¬ (l.length = l'.length ∧ ∀ i, i < l.length → l.getD i default = l'.getD i default) → D = false from fun h => by rw [hD, ← Bool.not_eq_true, rowsB_iff]; exact h)
  clear hD
  obtain ⟨n, hn⟩ : ∃ n, l.length = n := ⟨_, rfl⟩
  obtain ⟨n', hn'⟩ : ∃ n, l'.length = n := ⟨_, rfl⟩
  rw [hn, hn'] at HD1 HD0
  rw [hn] at hc hm ⊢
  rw [hn'] at hc' hm' ⊢
  unfold maxLen at hm hm'
  have HC := Lib.hid hc
  have HC' := Lib.hid hc'
  clear hc hc' hn hn'
  go_enter Tryd.func18, Tryd.ntmps18
  by_cases hnn : n = n'
  case neg =>
    have e6 : ((n : Int) == (n' : Int)) = false := by simp; omega
    have e7 : (n == n') = false := by simpa using hnn
    have HX := Lib.hid (HD0.out (fun h => hnn h.1))
    clear hnn
    go_wp2
    go_ret
    exact ⟨by rw [HX.out]; rfl, Below.refl _ _⟩
  subst hnn
  go_upto_block 0 with (fail)
  go_cut [5] (fun _ wc => Hid (∀ i, i < n → l.getD i default = l'.getD i default) ∧ Hid (Below w.heap.size w wc))
  case first =>
    go_wp2_with fail
    go_loopw [5] (fun x wr => ∃ k : Nat, k ≤ n ∧ x = .int .i64 k ∧ Hid (∀ i, i < k → l.getD i default = l'.getD i default) ∧ Hid (Below w.heap.size w wr)) (fun x _ => n - (intOf x).toNat)
    case atStart => exact ⟨0, Nat.zero_le _, rfl, Lib.hid (fun i hi => absurd hi (by omega)), Lib.hid (Below.refl _ _)⟩
    case round =>
      obtain ⟨wo, rfl⟩ : ∃ wo : World, wo = wr := ⟨_, rfl⟩
      obtain ⟨k, hk, rfl, HE, HB⟩ := hrel
      by_cases hlt : k < n
      · obtain ⟨g, o, ha, hcell⟩ := HC.out (by omega)
        obtain ⟨g', o', ha', hcell'⟩ := HC'.out (by omega)
        obtain ⟨va, vn, vc, ⟨c0, c1, c2, c3, c4, c5, c6⟩, hM⟩ := (hcell k hlt).on (Keeps.of HB.out)
        obtain ⟨va', vn', vc', ⟨z0, z1, z2, z3, z4, z5, z6⟩, hM'⟩ := (hcell' k hlt).on (Keeps.of HB.out)
        have HNX := Lib.hid (show l.getD k default ≠ l'.getD k default → D = false from fun h => HD0.out (fun q => h (q.2 k hlt)))
        have HYX := Lib.hid (show l.getD k default = l'.getD k default → ∀ i, i < k + 1 → l.getD i default = l'.getD i default from fun h i hi => by
          by_cases e : i = k
          · rw [e]; exact h
          · exact HE.out i (by omega))
        obtain ⟨x, hx⟩ : ∃ x, l.getD k default = x := ⟨_, rfl⟩
        obtain ⟨x', hx'⟩ : ∃ x, l'.getD k default = x := ⟨_, rfl⟩
        rw [hx, hx'] at HNX HYX
        rw [hx] at c0 c1 c2 c4 c5 c6 hM
        rw [hx'] at z0 z1 z2 z4 z5 z6 hM'
        obtain ⟨b, hb⟩ : ∃ b, sameB x x' = b := ⟨_, rfl⟩
        have RS := Lib.hid (show ∀ W, Below wo.heap.size wo W → Calls Tryd.prog 14 #[tokV x (.slice va vn vc), tokV x' (.slice va' vn' vc')] W fun e w' => e = .returned (.bool b) ∧ Below W.heap.size W w' from fun W hW => by
          rw [← hb]
          exact rsame_any _ _ _ _ _ _ _ _ _ _ _ _ _ _ x.P x'.P _ _ _ _ W (hM.below hW) (hM'.below hW))
        have HBB := Lib.hid hb
        clear hcell hcell' hM hM' hx hx' hb HE
        subst ha ha'
        go_upto_region 6 with (fail)
        cases b
        · have HF := Lib.hid (HNX.out (fun e => by have h := HBB.out; rw [(same_iff (s := x) (t := x')).2 e] at h; cases h))
          have BB : Below wo.heap.size wo wo.drew := ⟨rfl, rfl, rfl, Nat.le_refl _, fun _ _ => rfl⟩
          refine wp_region_held_drew (S := fun w' => (w'.cell? ⟨g, o + k * 7, none⟩ = some (.int .i64 x.kind) ∧ w'.cell? ⟨g, o + k * 7 + 1, none⟩ = some (.int .i32 x.rune) ∧ w'.cell? ⟨g, o + k * 7 + 2, none⟩ = some (.int .u8 x.priv) ∧ w'.cell? ⟨g, o + k * 7 + 3, none⟩ = some (.slice va vn vc) ∧ w'.cell? ⟨g, o + k * 7 + 4, none⟩ = some (.string x.inter) ∧ w'.cell? ⟨g, o + k * 7 + 5, none⟩ = some (.int .u8 x.fin) ∧ w'.cell? ⟨g, o + k * 7 + 6, none⟩ = some (.string x.data)) ∧ (w'.cell? ⟨g', o' + k * 7, none⟩ = some (.int .i64 x'.kind) ∧ w'.cell? ⟨g', o' + k * 7 + 1, none⟩ = some (.int .i32 x'.rune) ∧ w'.cell? ⟨g', o' + k * 7 + 2, none⟩ = some (.int .u8 x'.priv) ∧ w'.cell? ⟨g', o' + k * 7 + 3, none⟩ = some (.slice va' vn' vc') ∧ w'.cell? ⟨g', o' + k * 7 + 4, none⟩ = some (.string x'.inter) ∧ w'.cell? ⟨g', o' + k * 7 + 5, none⟩ = some (.int .u8 x'.fin) ∧ w'.cell? ⟨g', o' + k * 7 + 6, none⟩ = some (.string x'.data))) (by kernel_rfl) ?_ (fun hHeld => ?_)
          · exact ⟨⟨Keeps.of (Below.refl _ _) _ _ _ c0, Keeps.of (Below.refl _ _) _ _ _ c1, Keeps.of (Below.refl _ _) _ _ _ c2, Keeps.of (Below.refl _ _) _ _ _ c3, Keeps.of (Below.refl _ _) _ _ _ c4, Keeps.of (Below.refl _ _) _ _ _ c5, Keeps.of (Below.refl _ _) _ _ _ c6⟩, ⟨Keeps.of (Below.refl _ _) _ _ _ z0, Keeps.of (Below.refl _ _) _ _ _ z1, Keeps.of (Below.refl _ _) _ _ _ z2, Keeps.of (Below.refl _ _) _ _ _ z3, Keeps.of (Below.refl _ _) _ _ _ z4, Keeps.of (Below.refl _ _) _ _ _ z5, Keeps.of (Below.refl _ _) _ _ _ z6⟩⟩
          obtain ⟨u0, hu0⟩ : ∃ u0, u0 = wo.drew := ⟨_, rfl⟩
          rw [← hu0] at BB hHeld ⊢
          clear hu0
          refine take_at (i := 0) (v := ?_) rfl (by kernel_rfl) (by kernel_rfl) (by kernel_rfl) (fun _ _ _ h => h) (by kernel_rfl) (by assumption) ?_ ?_
          rotate_left
          · (intro w hSw; (try dsimp only at hSw); go_simp; try with_reducible rfl)
          simp only [Act.put, List.setIfInBounds_toArray, List.set_cons_zero, List.set_cons_succ]
          refine take_at (i := 1) (v := ?_) rfl (by kernel_rfl) (by kernel_rfl) (by kernel_rfl) (fun _ _ _ h => h) (by kernel_rfl) (by assumption) ?_ ?_
          rotate_left
          · (intro w hSw; (try dsimp only at hSw); go_simp; try with_reducible rfl)
          simp only [Act.put, List.setIfInBounds_toArray, List.set_cons_zero, List.set_cons_succ]
          refine take_at (i := 2) (v := ?_) rfl (by kernel_rfl) (by kernel_rfl) (by kernel_rfl) (fun _ _ _ h => h) (by kernel_rfl) (by assumption) ?_ ?_
          rotate_left
          · (intro w hSw; (try dsimp only at hSw); go_simp; try with_reducible rfl)
          simp only [Act.put, List.setIfInBounds_toArray, List.set_cons_zero, List.set_cons_succ]
          refine take_at (i := 3) (v := ?_) rfl (by kernel_rfl) (by kernel_rfl) (by kernel_rfl) (fun _ _ _ h => h) (by kernel_rfl) (by assumption) ?_ ?_
          rotate_left
          · (intro w hSw; (try dsimp only at hSw); go_simp; try with_reducible rfl)
          simp only [Act.put, List.setIfInBounds_toArray, List.set_cons_zero, List.set_cons_succ]
          refine take_at (i := 4) (v := ?_) rfl (by kernel_rfl) (by kernel_rfl) (by kernel_rfl) (fun _ _ _ h => h) (by kernel_rfl) (by assumption) ?_ ?_
          rotate_left
          · (intro w hSw; (try dsimp only at hSw); go_simp; try with_reducible rfl)
          simp only [Act.put, List.setIfInBounds_toArray, List.set_cons_zero, List.set_cons_succ]
          refine take_at (i := 5) (v := ?_) rfl (by kernel_rfl) (by kernel_rfl) (by kernel_rfl) (fun _ _ _ h => h) (by kernel_rfl) (by assumption) ?_ ?_
          rotate_left
          · (intro w hSw; (try dsimp only at hSw); go_simp; try with_reducible rfl)
          simp only [Act.put, List.setIfInBounds_toArray, List.set_cons_zero, List.set_cons_succ]
          refine take_at (i := 6) (v := ?_) rfl (by kernel_rfl) (by kernel_rfl) (by kernel_rfl) (fun _ _ _ h => h) (by kernel_rfl) (by assumption) ?_ ?_
          rotate_left
          · (intro w hSw; (try dsimp only at hSw); go_simp; try with_reducible rfl)
          simp only [Act.put, List.setIfInBounds_toArray, List.set_cons_zero, List.set_cons_succ]
          refine take_at (i := 7) (v := ?_) rfl (by kernel_rfl) (by kernel_rfl) (by kernel_rfl) (fun _ _ _ h => h) (by kernel_rfl) (by assumption) ?_ ?_
          rotate_left
          · (intro w hSw; (try dsimp only at hSw); go_simp; try with_reducible rfl)
          simp only [Act.put, List.setIfInBounds_toArray, List.set_cons_zero, List.set_cons_succ]
          refine do_at (i := 8) rfl (by kernel_rfl) (by kernel_rfl) (fun K hK => ?_)
          go_simp
          refine (RS.out _ BB).mono ?_
          rintro e y0 ⟨rfl, bb⟩
          replace BB := BB.trans (bb.mono BB.size)
          clear bb hHeld
          go_wp2_with fail
          refine hK.out _ _ ?_ (fun hHeld => ?_)
          · exact ⟨⟨Keeps.of BB _ _ _ c0, Keeps.of BB _ _ _ c1, Keeps.of BB _ _ _ c2, Keeps.of BB _ _ _ c3, Keeps.of BB _ _ _ c4, Keeps.of BB _ _ _ c5, Keeps.of BB _ _ _ c6⟩, ⟨Keeps.of BB _ _ _ z0, Keeps.of BB _ _ _ z1, Keeps.of BB _ _ _ z2, Keeps.of BB _ _ _ z3, Keeps.of BB _ _ _ z4, Keeps.of BB _ _ _ z5, Keeps.of BB _ _ _ z6⟩⟩
          clear hK K
          try simp only [Act.put, List.setIfInBounds_toArray, List.set_cons_zero, List.set_cons_succ]
          refine take_at (i := 9) (v := ?_) rfl (by kernel_rfl) (by kernel_rfl) (by kernel_rfl) (fun _ _ _ h => h) (by kernel_rfl) (by assumption) ?_ ?_
          rotate_left
          · (intro w hSw; (try dsimp only at hSw); go_simp; try with_reducible rfl)
          simp only [Act.put, List.setIfInBounds_toArray, List.set_cons_zero, List.set_cons_succ]
          refine wpAnyH_done (by kernel_rfl) ?_ _
          have HBF := Lib.hid (HB.out.trans (BB.mono HB.out.size))
          clear BB hHeld
          go_wp2
          go_ret
          exact ⟨by rw [HF.out]; rfl, HBF.out⟩
        · have HY := Lib.hid (HYX.out (same_iff.1 HBB.out))
          have BB : Below wo.heap.size wo wo.drew := ⟨rfl, rfl, rfl, Nat.le_refl _, fun _ _ => rfl⟩
          refine wp_region_held_drew (S := fun w' => (w'.cell? ⟨g, o + k * 7, none⟩ = some (.int .i64 x.kind) ∧ w'.cell? ⟨g, o + k * 7 + 1, none⟩ = some (.int .i32 x.rune) ∧ w'.cell? ⟨g, o + k * 7 + 2, none⟩ = some (.int .u8 x.priv) ∧ w'.cell? ⟨g, o + k * 7 + 3, none⟩ = some (.slice va vn vc) ∧ w'.cell? ⟨g, o + k * 7 + 4, none⟩ = some (.string x.inter) ∧ w'.cell? ⟨g, o + k * 7 + 5, none⟩ = some (.int .u8 x.fin) ∧ w'.cell? ⟨g, o + k * 7 + 6, none⟩ = some (.string x.data)) ∧ (w'.cell? ⟨g', o' + k * 7, none⟩ = some (.int .i64 x'.kind) ∧ w'.cell? ⟨g', o' + k * 7 + 1, none⟩ = some (.int .i32 x'.rune) ∧ w'.cell? ⟨g', o' + k * 7 + 2, none⟩ = some (.int .u8 x'.priv) ∧ w'.cell? ⟨g', o' + k * 7 + 3, none⟩ = some (.slice va' vn' vc') ∧ w'.cell? ⟨g', o' + k * 7 + 4, none⟩ = some (.string x'.inter) ∧ w'.cell? ⟨g', o' + k * 7 + 5, none⟩ = some (.int .u8 x'.fin) ∧ w'.cell? ⟨g', o' + k * 7 + 6, none⟩ = some (.string x'.data))) (by kernel_rfl) ?_ (fun hHeld => ?_)
          · exact ⟨⟨Keeps.of (Below.refl _ _) _ _ _ c0, Keeps.of (Below.refl _ _) _ _ _ c1, Keeps.of (Below.refl _ _) _ _ _ c2, Keeps.of (Below.refl _ _) _ _ _ c3, Keeps.of (Below.refl _ _) _ _ _ c4, Keeps.of (Below.refl _ _) _ _ _ c5, Keeps.of (Below.refl _ _) _ _ _ c6⟩, ⟨Keeps.of (Below.refl _ _) _ _ _ z0, Keeps.of (Below.refl _ _) _ _ _ z1, Keeps.of (Below.refl _ _) _ _ _ z2, Keeps.of (Below.refl _ _) _ _ _ z3, Keeps.of (Below.refl _ _) _ _ _ z4, Keeps.of (Below.refl _ _) _ _ _ z5, Keeps.of (Below.refl _ _) _ _ _ z6⟩⟩
          obtain ⟨u0, hu0⟩ : ∃ u0, u0 = wo.drew := ⟨_, rfl⟩
          rw [← hu0] at BB hHeld ⊢
          clear hu0
          refine take_at (i := 0) (v := ?_) rfl (by kernel_rfl) (by kernel_rfl) (by kernel_rfl) (fun _ _ _ h => h) (by kernel_rfl) (by assumption) ?_ ?_
          rotate_left
          · (intro w hSw; (try dsimp only at hSw); go_simp; try with_reducible rfl)
          simp only [Act.put, List.setIfInBounds_toArray, List.set_cons_zero, List.set_cons_succ]
          refine take_at (i := 1) (v := ?_) rfl (by kernel_rfl) (by kernel_rfl) (by kernel_rfl) (fun _ _ _ h => h) (by kernel_rfl) (by assumption) ?_ ?_
          rotate_left
          · (intro w hSw; (try dsimp only at hSw); go_simp; try with_reducible rfl)
          simp only [Act.put, List.setIfInBounds_toArray, List.set_cons_zero, List.set_cons_succ]
          refine take_at (i := 2) (v := ?_) rfl (by kernel_rfl) (by kernel_rfl) (by kernel_rfl) (fun _ _ _ h => h) (by kernel_rfl) (by assumption) ?_ ?_
          rotate_left
          · (intro w hSw; (try dsimp only at hSw); go_simp; try with_reducible rfl)
          simp only [Act.put, List.setIfInBounds_toArray, List.set_cons_zero, List.set_cons_succ]
          refine take_at (i := 3) (v := ?_) rfl (by kernel_rfl) (by kernel_rfl) (by kernel_rfl) (fun _ _ _ h => h) (by kernel_rfl) (by assumption) ?_ ?_
          rotate_left
          · (intro w hSw; (try dsimp only at hSw); go_simp; try with_reducible rfl)
          simp only [Act.put, List.setIfInBounds_toArray, List.set_cons_zero, List.set_cons_succ]
          refine take_at (i := 4) (v := ?_) rfl (by kernel_rfl) (by kernel_rfl) (by kernel_rfl) (fun _ _ _ h => h) (by kernel_rfl) (by assumption) ?_ ?_
          rotate_left
          · (intro w hSw; (try dsimp only at hSw); go_simp; try with_reducible rfl)
          simp only [Act.put, List.setIfInBounds_toArray, List.set_cons_zero, List.set_cons_succ]
          refine take_at (i := 5) (v := ?_) rfl (by kernel_rfl) (by kernel_rfl) (by kernel_rfl) (fun _ _ _ h => h) (by kernel_rfl) (by assumption) ?_ ?_
          rotate_left
          · (intro w hSw; (try dsimp only at hSw); go_simp; try with_reducible rfl)
          simp only [Act.put, List.setIfInBounds_toArray, List.set_cons_zero, List.set_cons_succ]
          refine take_at (i := 6) (v := ?_) rfl (by kernel_rfl) (by kernel_rfl) (by kernel_rfl) (fun _ _ _ h => h) (by kernel_rfl) (by assumption) ?_ ?_
          rotate_left
          · (intro w hSw; (try dsimp only at hSw); go_simp; try with_reducible rfl)
          simp only [Act.put, List.setIfInBounds_toArray, List.set_cons_zero, List.set_cons_succ]
          refine take_at (i := 7) (v := ?_) rfl (by kernel_rfl) (by kernel_rfl) (by kernel_rfl) (fun _ _ _ h => h) (by kernel_rfl) (by assumption) ?_ ?_
          rotate_left
          · (intro w hSw; (try dsimp only at hSw); go_simp; try with_reducible rfl)
          simp only [Act.put, List.setIfInBounds_toArray, List.set_cons_zero, List.set_cons_succ]
          refine do_at (i := 8) rfl (by kernel_rfl) (by kernel_rfl) (fun K hK => ?_)
          go_simp
          refine (RS.out _ BB).mono ?_
          rintro e y0 ⟨rfl, bb⟩
          replace BB := BB.trans (bb.mono BB.size)
          clear bb hHeld
          go_wp2_with fail
          refine hK.out _ _ ?_ (fun hHeld => ?_)
          · exact ⟨⟨Keeps.of BB _ _ _ c0, Keeps.of BB _ _ _ c1, Keeps.of BB _ _ _ c2, Keeps.of BB _ _ _ c3, Keeps.of BB _ _ _ c4, Keeps.of BB _ _ _ c5, Keeps.of BB _ _ _ c6⟩, ⟨Keeps.of BB _ _ _ z0, Keeps.of BB _ _ _ z1, Keeps.of BB _ _ _ z2, Keeps.of BB _ _ _ z3, Keeps.of BB _ _ _ z4, Keeps.of BB _ _ _ z5, Keeps.of BB _ _ _ z6⟩⟩
          clear hK K
          try simp only [Act.put, List.setIfInBounds_toArray, List.set_cons_zero, List.set_cons_succ]
          refine take_at (i := 9) (v := ?_) rfl (by kernel_rfl) (by kernel_rfl) (by kernel_rfl) (fun _ _ _ h => h) (by kernel_rfl) (by assumption) ?_ ?_
          rotate_left
          · (intro w hSw; (try dsimp only at hSw); go_simp; try with_reducible rfl)
          simp only [Act.put, List.setIfInBounds_toArray, List.set_cons_zero, List.set_cons_succ]
          refine wpAnyH_done (by kernel_rfl) ?_ _
          have HBF := Lib.hid (HB.out.trans (BB.mono HB.out.size))
          clear BB hHeld
          go_wp2
          go_roundw
          case rel => exact ⟨k + 1, by omega, by go_num, HY, HBF⟩
          case measure => simp [intOf]; omega
      · have HEE := Lib.hid (show ∀ i, i < n → l.getD i default = l'.getD i default from fun i hi => HE.out i (by omega))
        go_wp2
        go_meet
        case rel => exact ⟨HEE, HB⟩
  case rest =>
    obtain ⟨HE, HB⟩ := hcut
    have HX := Lib.hid (HD1.out ⟨rfl, HE.out⟩)
    go_wp2
    go_ret
    exact ⟨by rw [HX.out]; rfl, HB.out⟩
end Go.Proofs.YtclaopidjfekmaaDoor.Lab
