/- What the document's answer for Nearest is, of any value and a palette that is there. -/
import Derived.Test.YthcncghhjlaicaaRFar
import Derived.Test.YthcncghhjlaicaaColNear
namespace Go.Proofs.Ythcncghhjlaicaa.Lab
open Go.RowKit

theorem near_far (v : V) (ps : List V) : ∀ k, 0 < k → ∃ j : Nat, j < k ∧ (near v ps k).1 = j ∧ (near v ps k).2 = farI v (at3 ps j)
  | 0, h => by omega
  | k + 1, _ => by
    have hstep : near v ps (k + 1) = if (near v ps k).1 < 0 ∨ farI v (ps[k]?.getD (0, 0, 0)) < (near v ps k).2 then ((k : Int), farI v (ps[k]?.getD (0, 0, 0))) else near v ps k := rfl
    by_cases h : (near v ps k).1 < 0 ∨ farI v (ps[k]?.getD (0, 0, 0)) < (near v ps k).2
    · rw [hstep, if_pos h]
      exact ⟨k, by omega, rfl, rfl⟩
    · rw [hstep, if_neg h]
      rcases Nat.eq_zero_or_pos k with rfl | h0
      · exact absurd (Or.inl (by simp [near])) h
      · obtain ⟨j, h1, h2, h3⟩ := near_far v ps k h0
        exact ⟨j, by omega, h2, h3⟩

theorem rfar_is {v u : V} {d : Int} (hv : U16 v) (hu : U16 u) (hd : farI v u = d) (w : World) :
    Calls Try.prog 14 #[valT v, valT u] w fun e' w' => e' = .returned (.int .i64 d) ∧ Below w.heap.size w w' :=
  (rfar_of hv hu w).mono fun e w' ⟨he, hw⟩ => ⟨by rw [he, hd], hw⟩

theorem NB.drew {w0 w : World} {v : V} (h : NB w0 w v) : NB w0 w.drew v := h.below (Below.refl _ _).drew
theorem PalAt.drew {w : World} {g o m : Nat} {pl : List V} (h : PalAt w g o m pl) : PalAt w.drew g o m pl := h.below (Below.refl _ _).drew
theorem pal_at {w : World} {g m : Nat} {pl : List V} (h : PalAt w g 0 m pl) (i : Nat) (hi : i < m) : w.cell? ⟨g, i * 3, none⟩ = some (.int .u16 (at3 pl i).1) ∧ w.cell? ⟨g, i * 3 + 1, none⟩ = some (.int .u16 (at3 pl i).2.1) ∧ w.cell? ⟨g, i * 3 + 2, none⟩ = some (.int .u16 (at3 pl i).2.2) := by
  have := (h.2.2.2 i hi).2
  simp only [Nat.zero_add] at this
  exact this

set_option maxRecDepth 100000 in
set_option maxHeartbeats 4000000 in
theorem rnearest_any (v : V) (hv : U16 v) (ps : List V) (g n c : Nat) (w : World) (h : PalAt w g 0 n ps) :
    Calls Try.prog 16 #[valT v, .slice (some ⟨g, 0, none⟩) n c] w fun e w' => e = .returned (.int .i64 (near v ps n).1) ∧ Below w.heap.size w w' := by
  have hm := h.2.1
  unfold maxLen at hm
  have HG := Lib.hid h
  have NB1 : Hid (NB w (w.alloc (.cells #[.int .u16 v.1, .int .u16 v.2.1, .int .u16 v.2.2] 30)) v) := Lib.hid ⟨(Below.refl _ _).alloc (Nat.le_refl _) _, V3.newAt _ _ rfl _ _ _ _⟩
  clear h
  go_enter Try.func16, Try.ntmps16
  go_wp2_with fail
  go_loopw [5, 6] (fun pl i wr => ∃ k : Nat, k ≤ n ∧ i = .int .i64 k ∧ pl = .int .i64 (near v ps k).1 ∧ Hid (NB w wr v)) (fun _ i _ => n - (intOf i).toNat)
  case atStart => exact ⟨0, Nat.zero_le _, rfl, rfl, NB1⟩
  case round =>
    obtain ⟨k, hk, rfl, rfl, hB⟩ := hrel
    clear NB1
    by_cases hlt : k < n
    · have hP := HG.out.below hB.out.1
      have hstep : near v ps (k + 1) = if (near v ps k).1 < 0 ∨ farI v (at3 ps k) < (near v ps k).2 then ((k : Int), farI v (at3 ps k)) else near v ps k := rfl
      have HU := Lib.hid (u16_take hP k hlt)
      by_cases hk0 : k = 0
      · subst hk0
        have e0 : (near v ps 0).1 = -1 := rfl
        have e1 : (near v ps 1).1 = 0 := by rw [hstep, if_pos (Or.inl (by rw [e0]; decide))]; rfl
        have E1 := Lib.hid e1
        rw [e0]
        clear hstep e0 e1 HU
        go_upto_region 5 with (fail)
        refine wp_region_held_drew (S := fun _ => True) (by kernel_rfl) ?_ (fun hHeld => ?_)
        · trivial
        refine take_at (i := 0) (v := ?_) rfl (by kernel_rfl) (by kernel_rfl) (by kernel_rfl) (fun _ _ _ h => h) (by kernel_rfl) True.intro ?_ ?_
        rotate_left
        · (intro w hSw; (try dsimp only at hSw); go_simp; try with_reducible rfl)
        simp only [Act.put, List.setIfInBounds_toArray, List.set_cons_zero, List.set_cons_succ]
        refine take_at (i := 1) (v := ?_) rfl (by kernel_rfl) (by kernel_rfl) (by kernel_rfl) (fun _ _ _ h => h) (by kernel_rfl) True.intro ?_ ?_
        rotate_left
        · (intro w hSw; (try dsimp only at hSw); go_simp; try with_reducible rfl)
        simp only [Act.put, List.setIfInBounds_toArray, List.set_cons_zero, List.set_cons_succ]
        refine take_at (i := 2) (v := ?_) rfl (by kernel_rfl) (by kernel_rfl) (by kernel_rfl) (fun _ _ _ h => h) (by kernel_rfl) True.intro ?_ ?_
        rotate_left
        · (intro w hSw; (try dsimp only at hSw); go_simp; try with_reducible rfl)
        simp only [Act.put, List.setIfInBounds_toArray, List.set_cons_zero, List.set_cons_succ]
        refine skip_at (i := 3) rfl (by kernel_rfl) (by kernel_rfl) (by kernel_rfl) (fun _ _ _ h => h) (by kernel_rfl) True.intro ?_
        simp only [Act.put, List.setIfInBounds_toArray, List.set_cons_zero, List.set_cons_succ]
        refine skip_at (i := 4) rfl (by kernel_rfl) (by kernel_rfl) (by kernel_rfl) (fun _ _ _ h => h) (by kernel_rfl) True.intro ?_
        simp only [Act.put, List.setIfInBounds_toArray, List.set_cons_zero, List.set_cons_succ]
        refine skip_at (i := 5) rfl (by kernel_rfl) (by kernel_rfl) (by kernel_rfl) (fun _ _ _ h => h) (by kernel_rfl) True.intro ?_
        simp only [Act.put, List.setIfInBounds_toArray, List.set_cons_zero, List.set_cons_succ]
        refine skip_at (i := 6) rfl (by kernel_rfl) (by kernel_rfl) (by kernel_rfl) (fun _ _ _ h => h) (by kernel_rfl) True.intro ?_
        simp only [Act.put, List.setIfInBounds_toArray, List.set_cons_zero, List.set_cons_succ]
        refine skip_at (i := 7) rfl (by kernel_rfl) (by kernel_rfl) (by kernel_rfl) (fun _ _ _ h => h) (by kernel_rfl) True.intro ?_
        simp only [Act.put, List.setIfInBounds_toArray, List.set_cons_zero, List.set_cons_succ]
        refine skip_at (i := 8) rfl (by kernel_rfl) (by kernel_rfl) (by kernel_rfl) (fun _ _ _ h => h) (by kernel_rfl) True.intro ?_
        simp only [Act.put, List.setIfInBounds_toArray, List.set_cons_zero, List.set_cons_succ]
        refine skip_at (i := 9) rfl (by kernel_rfl) (by kernel_rfl) (by kernel_rfl) (fun _ _ _ h => h) (by kernel_rfl) True.intro ?_
        simp only [Act.put, List.setIfInBounds_toArray, List.set_cons_zero, List.set_cons_succ]
        refine skip_at (i := 10) rfl (by kernel_rfl) (by kernel_rfl) (by kernel_rfl) (fun _ _ _ h => h) (by kernel_rfl) True.intro ?_
        simp only [Act.put, List.setIfInBounds_toArray, List.set_cons_zero, List.set_cons_succ]
        refine skip_at (i := 11) rfl (by kernel_rfl) (by kernel_rfl) (by kernel_rfl) (fun _ _ _ h => h) (by kernel_rfl) True.intro ?_
        simp only [Act.put, List.setIfInBounds_toArray, List.set_cons_zero, List.set_cons_succ]
        refine skip_at (i := 12) rfl (by kernel_rfl) (by kernel_rfl) (by kernel_rfl) (fun _ _ _ h => h) (by kernel_rfl) True.intro ?_
        simp only [Act.put, List.setIfInBounds_toArray, List.set_cons_zero, List.set_cons_succ]
        refine skip_at (i := 13) rfl (by kernel_rfl) (by kernel_rfl) (by kernel_rfl) (fun _ _ _ h => h) (by kernel_rfl) True.intro ?_
        simp only [Act.put, List.setIfInBounds_toArray, List.set_cons_zero, List.set_cons_succ]
        refine skip_at (i := 14) rfl (by kernel_rfl) (by kernel_rfl) (by kernel_rfl) (fun _ _ _ h => h) (by kernel_rfl) True.intro ?_
        simp only [Act.put, List.setIfInBounds_toArray, List.set_cons_zero, List.set_cons_succ]
        refine skip_at (i := 15) rfl (by kernel_rfl) (by kernel_rfl) (by kernel_rfl) (fun _ _ _ h => h) (by kernel_rfl) True.intro ?_
        simp only [Act.put, List.setIfInBounds_toArray, List.set_cons_zero, List.set_cons_succ]
        refine take_at (i := 16) (v := ?_) rfl (by kernel_rfl) (by kernel_rfl) (by kernel_rfl) (fun _ _ _ h => h) (by kernel_rfl) True.intro ?_ ?_
        rotate_left
        · (intro w hSw; (try dsimp only at hSw); go_simp; try with_reducible rfl)
        simp only [Act.put, List.setIfInBounds_toArray, List.set_cons_zero, List.set_cons_succ]
        refine wpAnyH_done (by kernel_rfl) ?_ _
        clear hHeld
        go_wp2_with fail
        go_roundw
        case rel => exact ⟨1, by omega, by go_num, by rw [E1.out]; rfl, Lib.hid hB.out.drew⟩
        case measure => simp [intOf]; omega
      · obtain ⟨j, j1, j2, j3⟩ := near_far v ps k (by omega)
        have hjn : j < n := by omega
        have HT := Lib.hid (u16_take hP j hjn)
        have HK : Hid (∀ w', PalAt w' g 0 n ps → w'.cell? ⟨g, k * 3, none⟩ = some (.int .u16 (at3 ps k).1) ∧ w'.cell? ⟨g, k * 3 + 1, none⟩ = some (.int .u16 (at3 ps k).2.1) ∧ w'.cell? ⟨g, k * 3 + 2, none⟩ = some (.int .u16 (at3 ps k).2.2)) := Lib.hid fun w' h => pal_at h k hlt
        have HJ : Hid (∀ w', PalAt w' g 0 n ps → w'.cell? ⟨g, j * 3, none⟩ = some (.int .u16 (at3 ps j).1) ∧ w'.cell? ⟨g, j * 3 + 1, none⟩ = some (.int .u16 (at3 ps j).2.1) ∧ w'.cell? ⟨g, j * 3 + 2, none⟩ = some (.int .u16 (at3 ps j).2.2)) := Lib.hid fun w' h => pal_at h j hjn
        obtain ⟨d, hd⟩ : ∃ d, farI v (at3 ps k) = d := ⟨_, rfl⟩
        obtain ⟨e2, he2⟩ : ∃ e2, farI v (at3 ps j) = e2 := ⟨_, rfl⟩
        rw [hd, j3, he2] at hstep
        have hn1 : (near v ps (k + 1)).1 = if d < e2 then (k : Int) else (j : Int) := by
          rw [hstep]
          by_cases hde : d < e2
          · rw [if_pos (Or.inr hde), if_pos hde]
          · rw [if_neg (by rw [j2]; omega), if_neg hde, j2]
        have HN := Lib.hid hn1
        have HD := Lib.hid hd
        have HE := Lib.hid he2
        rw [j2]
        have RQ := And.intro hB.out.drew hP.drew
        have t1 : ¬ (j : Int) < 0 := by omega
        have t2 : (k : Int) < (n : Int) := by omega
        have t3 : (j : Int) < (n : Int) := by omega
        clear hstep hn1 hd he2 j2 j3 hP hB
        generalize at3 ps k = u at *
        generalize at3 ps j = t at *
        go_upto_region 5 with (fail)
        refine wp_region_held_drew (S := fun w' => (w'.cell? ⟨w.heap.size, 0, none⟩ = some (.int .u16 v.1) ∧ w'.cell? ⟨w.heap.size, 1, none⟩ = some (.int .u16 v.2.1) ∧ w'.cell? ⟨w.heap.size, 2, none⟩ = some (.int .u16 v.2.2)) ∧ (w'.cell? ⟨g, k * 3, none⟩ = some (.int .u16 u.1) ∧ w'.cell? ⟨g, k * 3 + 1, none⟩ = some (.int .u16 u.2.1) ∧ w'.cell? ⟨g, k * 3 + 2, none⟩ = some (.int .u16 u.2.2)) ∧ (w'.cell? ⟨g, j * 3, none⟩ = some (.int .u16 t.1) ∧ w'.cell? ⟨g, j * 3 + 1, none⟩ = some (.int .u16 t.2.1) ∧ w'.cell? ⟨g, j * 3 + 2, none⟩ = some (.int .u16 t.2.2))) (by kernel_rfl) ?_ (fun hHeld => ?_)
        · exact ⟨RQ.1.2.2.1, HK.out _ RQ.2, HJ.out _ RQ.2⟩
        refine take_at (i := 0) (v := ?_) rfl (by kernel_rfl) (by kernel_rfl) (by kernel_rfl) (fun _ _ _ h => h) (by kernel_rfl) (by assumption) ?_ ?_
        rotate_left
        · (intro w hSw; (try dsimp only at hSw); go_simp; try with_reducible rfl)
        simp only [Act.put, List.setIfInBounds_toArray, List.set_cons_zero, List.set_cons_succ]
        refine take_at (i := 1) (v := ?_) rfl (by kernel_rfl) (by kernel_rfl) (by kernel_rfl) (fun _ _ _ h => h) (by kernel_rfl) (by assumption) ?_ ?_
        rotate_left
        · (intro w hSw; (try dsimp only at hSw); go_simp; try with_reducible rfl)
        simp only [Act.put, List.setIfInBounds_toArray, List.set_cons_zero, List.set_cons_succ]
        refine take_at (i := 2) (v := ?_) rfl (by kernel_rfl) (by kernel_rfl) (by kernel_rfl) (fun _ _ _ h => h) (by kernel_rfl) (by assumption) ?_ ?_
        rotate_left
        · (intro w hSw; (try dsimp only at hSw); go_simp; try with_reducible rfl)
        simp only [Act.put, List.setIfInBounds_toArray, List.set_cons_zero, List.set_cons_succ]
        refine take_at (i := 3) (v := ?_) rfl (by kernel_rfl) (by kernel_rfl) (by kernel_rfl) (fun _ _ _ h => h) (by kernel_rfl) (by assumption) ?_ ?_
        rotate_left
        · (intro w hSw; (try dsimp only at hSw); go_simp; try with_reducible rfl)
        simp only [Act.put, List.setIfInBounds_toArray, List.set_cons_zero, List.set_cons_succ]
        refine take_at (i := 4) (v := ?_) rfl (by kernel_rfl) (by kernel_rfl) (by kernel_rfl) (fun _ _ _ h => h) (by kernel_rfl) (by assumption) ?_ ?_
        rotate_left
        · (intro w hSw; (try dsimp only at hSw); go_simp; try with_reducible rfl)
        simp only [Act.put, List.setIfInBounds_toArray, List.set_cons_zero, List.set_cons_succ]
        refine take_at (i := 5) (v := ?_) rfl (by kernel_rfl) (by kernel_rfl) (by kernel_rfl) (fun _ _ _ h => h) (by kernel_rfl) (by assumption) ?_ ?_
        rotate_left
        · (intro w hSw; (try dsimp only at hSw); go_simp; try with_reducible rfl)
        simp only [Act.put, List.setIfInBounds_toArray, List.set_cons_zero, List.set_cons_succ]
        refine take_at (i := 6) (v := ?_) rfl (by kernel_rfl) (by kernel_rfl) (by kernel_rfl) (fun _ _ _ h => h) (by kernel_rfl) (by assumption) ?_ ?_
        rotate_left
        · (intro w hSw; (try dsimp only at hSw); go_simp; try with_reducible rfl)
        simp only [Act.put, List.setIfInBounds_toArray, List.set_cons_zero, List.set_cons_succ]
        refine take_at (i := 7) (v := ?_) rfl (by kernel_rfl) (by kernel_rfl) (by kernel_rfl) (fun _ _ _ h => h) (by kernel_rfl) (by assumption) ?_ ?_
        rotate_left
        · (intro w hSw; (try dsimp only at hSw); go_simp; try with_reducible rfl)
        simp only [Act.put, List.setIfInBounds_toArray, List.set_cons_zero, List.set_cons_succ]
        refine take_at (i := 9) (v := ?_) rfl (by kernel_rfl) (by kernel_rfl) (by kernel_rfl) (fun _ _ _ h => h) (by kernel_rfl) (by assumption) ?_ ?_
        rotate_left
        · (intro w hSw; (try dsimp only at hSw); go_simp; try with_reducible rfl)
        simp only [Act.put, List.setIfInBounds_toArray, List.set_cons_zero, List.set_cons_succ]
        refine take_at (i := 10) (v := ?_) rfl (by kernel_rfl) (by kernel_rfl) (by kernel_rfl) (fun _ _ _ h => h) (by kernel_rfl) (by assumption) ?_ ?_
        rotate_left
        · (intro w hSw; (try dsimp only at hSw); go_simp; try with_reducible rfl)
        simp only [Act.put, List.setIfInBounds_toArray, List.set_cons_zero, List.set_cons_succ]
        refine take_at (i := 11) (v := ?_) rfl (by kernel_rfl) (by kernel_rfl) (by kernel_rfl) (fun _ _ _ h => h) (by kernel_rfl) (by assumption) ?_ ?_
        rotate_left
        · (intro w hSw; (try dsimp only at hSw); go_simp; try with_reducible rfl)
        simp only [Act.put, List.setIfInBounds_toArray, List.set_cons_zero, List.set_cons_succ]
        refine take_at (i := 12) (v := ?_) rfl (by kernel_rfl) (by kernel_rfl) (by kernel_rfl) (fun _ _ _ h => h) (by kernel_rfl) (by assumption) ?_ ?_
        rotate_left
        · (intro w hSw; (try dsimp only at hSw); go_simp; try with_reducible rfl)
        simp only [Act.put, List.setIfInBounds_toArray, List.set_cons_zero, List.set_cons_succ]
        refine take_at (i := 13) (v := ?_) rfl (by kernel_rfl) (by kernel_rfl) (by kernel_rfl) (fun _ _ _ h => h) (by kernel_rfl) (by assumption) ?_ ?_
        rotate_left
        · (intro w hSw; (try dsimp only at hSw); go_simp; try with_reducible rfl)
        simp only [Act.put, List.setIfInBounds_toArray, List.set_cons_zero, List.set_cons_succ]
        refine do_at (i := 8) rfl (by kernel_rfl) (by kernel_rfl) (fun K hK => ?_)
        go_simp
        refine (rfar_is hv HU.out HD.out _).mono ?_
        rintro e w6 ⟨rfl, hb6⟩
        have RQ' := And.intro (NB.below RQ.1 hb6) (RQ.2.below hb6)
        clear RQ hb6
        have RQ := RQ'
        clear RQ'
        go_wp2_with fail
        refine hK.out _ _ ?_ (fun hHeld => ?_)
        · exact ⟨RQ.1.2.2.1, HK.out _ RQ.2, HJ.out _ RQ.2⟩
        clear hK K
        try simp only [Act.put, List.setIfInBounds_toArray, List.set_cons_zero, List.set_cons_succ]
        refine do_at (i := 14) rfl (by kernel_rfl) (by kernel_rfl) (fun K hK => ?_)
        go_simp
        refine (rfar_is hv HT.out HE.out _).mono ?_
        rintro e w6 ⟨rfl, hb6⟩
        have RQ' := And.intro (NB.below RQ.1 hb6) (RQ.2.below hb6)
        clear RQ hb6
        have RQ := RQ'
        clear RQ'
        go_wp2_with fail
        refine hK.out _ _ ?_ (fun hHeld => ?_)
        · exact ⟨RQ.1.2.2.1, HK.out _ RQ.2, HJ.out _ RQ.2⟩
        clear hK K
        try simp only [Act.put, List.setIfInBounds_toArray, List.set_cons_zero, List.set_cons_succ]
        refine take_at (i := 15) (v := ?_) rfl (by kernel_rfl) (by kernel_rfl) (by kernel_rfl) (fun _ _ _ h => h) (by kernel_rfl) (by assumption) ?_ ?_
        rotate_left
        · (intro w hSw; (try dsimp only at hSw); go_simp; try with_reducible rfl)
        simp only [Act.put, List.setIfInBounds_toArray, List.set_cons_zero, List.set_cons_succ]
        refine take_at (i := 16) (v := ?_) rfl (by kernel_rfl) (by kernel_rfl) (by kernel_rfl) (fun _ _ _ h => h) (by kernel_rfl) (by assumption) ?_ ?_
        rotate_left
        · (intro w hSw; (try dsimp only at hSw); go_simp; try with_reducible rfl)
        simp only [Act.put, List.setIfInBounds_toArray, List.set_cons_zero, List.set_cons_succ]
        refine wpAnyH_done (by kernel_rfl) ?_ _
        by_cases hde : d < e2
        · go_wp2_with fail
          go_roundw
          case rel => exact ⟨k + 1, by omega, by go_num, by rw [HN.out, if_pos hde], Lib.hid RQ.1⟩
          case measure => simp [intOf]; omega
        · go_wp2_with fail
          go_roundw
          case rel => exact ⟨k + 1, by omega, by go_num, by rw [HN.out, if_neg hde], Lib.hid RQ.1⟩
          case measure => simp [intOf]; omega
    · have hkn : k = n := by omega
      subst hkn
      clear HG
      go_wp2
      go_ret
      exact ⟨rfl, hB.out.1⟩
end Go.Proofs.Ythcncghhjlaicaa.Lab
