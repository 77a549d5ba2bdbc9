/- What 'played' answers to any row of acts. -/
import Derived.Test.YtdphccjeikiciaaChActs
import Derived.Deep.DeepCutAuto
import Derived.Deep.CutBlock
namespace Go.Proofs.Ytdphccjeikiciaa.Lab
open Go Go.RowKit

theorem step_a {k : Ch} {x : ActV} {q : Ch × Bool} (m : x.what % 4 = 0) (h : k.des x.place x.byte = q) : stepP k x = q.1 := by unfold stepP; rw [if_pos m, h]
theorem step_b {k : Ch} {x : ActV} {q : Ch × Bool} (m : x.what % 4 = 1) (h : k.lock x.byte = q) : stepP k x = q.1 := by unfold stepP; rw [if_neg (by omega), if_pos m, h]
theorem step_c {k : Ch} {x : ActV} {q : Ch × Bool} (m : x.what % 4 = 2) (h : k.one x.place = q) : stepP k x = q.1 := by unfold stepP; rw [if_neg (by omega), if_neg (by omega), if_pos m, h]
theorem step_d {k : Ch} {x : ActV} {q : Ch × Int} (m : x.what % 4 = 3) (h : k.map x.r = q) : stepP k x = q.1 := by unfold stepP; rw [if_neg (by omega), if_neg (by omega), if_neg (by omega), h]

set_option maxRecDepth 100000 in
set_option maxHeartbeats 8000000 in
theorem played_any (a : Option Addr) (len cap : Nat) (T : Nat → ActV) (w : World) (hT : IsActs w a len cap T) :
    Calls Try.prog 23 #[.slice a len cap] w fun e w' => e = .returned (playedN T (min len 40)).val ∧ Below w.heap.size w w' := by
  have hlen := hT.1
  have hcap := hT.2.1
  have HT := Lib.hid hT
  clear hT
  go_enter Try.func23, Try.ntmps23
  have H0 := Lib.hid (((Lies.start w).new 0 0 0 0 0 0 25).new 0 0 0 0 0 0 25)
  rw [show (w.alloc (.cells #[.int .i64 0, .int .i64 0, .int .i64 0, .int .i64 0, .int .i64 0, .int .i64 0] 25)).heap.size = w.heap.size + 1 by simp] at H0
  go_wp2_with fail
  go_loopg [4] 41 (fun g v wr => ∃ (j : Nat) (k : Ch), g + j = 41 ∧ j ≤ 40 ∧ j ≤ len ∧ v = .int .i64 j ∧ k = playedN T j ∧ Hid (Lies w wr [(w.heap.size + 1, k), (w.heap.size, Ch.zero)]))
  case atStart => exact ⟨0, Ch.zero, by omega, by omega, by omega, rfl, rfl, H0⟩
  case round =>
    obtain ⟨j, k, hg, hj, hjl, rfl, hk, H1⟩ := hrel
    clear H0
    obtain ⟨wo, rfl⟩ : ∃ wo : World, wo = wr := ⟨_, rfl⟩
    by_cases hc : j < len ∧ j < 40
    · obtain ⟨h1, h2⟩ := hc
      have h3 : (j : Int) < 40 := by omega
      obtain ⟨b, off, rfl, hb0, hA⟩ := HT.out.2.2.2 (by omega)
      obtain ⟨⟨x1, x2⟩, ⟨x3, x4⟩, ⟨x5, x6⟩, x7, x8⟩ := HT.out.2.2.1 j h1
      have HA : Hid (∀ w', Below w.heap.size w w' → ActAt w' b (off + j * 4) (T j)) := Lib.hid (fun w' hb => (hA j h1).below hb0 hb)
      have HS : Hid (playedN T (j + 1) = stepP (playedN T j) (T j)) := Lib.hid rfl
      have hok := playedN_ok T j
      rw [← hk] at HS hok
      generalize hkn : playedN T (j + 1) = kn at *
      have HN := Lib.hid hkn
      clear hkn
      generalize T j = x at *
      clear hA HT hk
      have wp1 : IntKind.i64.wrap x.place = x.place := by rw [IntKind.wrap_i64]; omega
      obtain ⟨q0, q1, q2, q3⟩ := HA.out _ H1.out.1
      obtain ⟨ka, kb, kc, kd, kl, ks⟩ := k
      have tm : x.what.tmod 4 = x.what % 4 := by rw [Int.tmod_eq_emod_of_nonneg x1]
      have HOK := Lib.hid hok
      clear hok
      by_cases m0 : x.what % 4 = 0
      · obtain ⟨⟨a', b', c', d', l', s'⟩, q, hd⟩ : ∃ (k' : Ch) (q : Bool), Ch.des ⟨ka, kb, kc, kd, kl, ks⟩ x.place x.byte = (k', q) := ⟨_, _, rfl⟩
        have HP := Lib.hid (HS.out.trans (step_a m0 hd))
        have C := fun w => des_lit ka kb kc kd kl ks x.place x.byte a' b' c' d' l' s' q hd w
        clear hd HS HOK
        go_upto_region 8 with (fail)
        have H := H1.out.drew
        clear H1
        obtain ⟨⟨c1, c2, c3, c4, c5, c6⟩, f1, f2, f3, f4, f5, f6⟩ := H.get 0 rfl
        refine wp_region_held_drew (S := fun w' => w'.cell? ⟨b, off + j * 4, none⟩ = some (.int .u8 x.what) ∧ w'.cell? ⟨b, off + j * 4 + 1, none⟩ = some (.int .i8 x.place) ∧ w'.cell? ⟨b, off + j * 4 + 2, none⟩ = some (.int .u8 x.byte) ∧ w'.cell? ⟨b, off + j * 4 + 3, none⟩ = some (.int .i32 x.r)) (by kernel_rfl) ?_ (fun hHeld => ?_)
        · exact HA.out _ H.1
        refine take_at (i := 1) (v := ?_) rfl (by kernel_rfl) (by kernel_rfl) (by kernel_rfl) (fun _ _ _ h => h) (by kernel_rfl) (by assumption) ?_ ?_
        rotate_left
        · (intro w hSw; (try dsimp only at hSw); go_simp; try with_reducible rfl)
        simp only [Act.put, List.setIfInBounds_toArray, List.set_cons_zero, List.set_cons_succ]
        refine take_at (i := 2) (v := ?_) rfl (by kernel_rfl) (by kernel_rfl) (by kernel_rfl) (fun _ _ _ h => h) (by kernel_rfl) (by assumption) ?_ ?_
        rotate_left
        · (intro w hSw; (try dsimp only at hSw); go_simp; try with_reducible rfl)
        simp only [Act.put, List.setIfInBounds_toArray, List.set_cons_zero, List.set_cons_succ]
        refine take_at (i := 3) (v := ?_) rfl (by kernel_rfl) (by kernel_rfl) (by kernel_rfl) (fun _ _ _ h => h) (by kernel_rfl) (by assumption) ?_ ?_
        rotate_left
        · (intro w hSw; (try dsimp only at hSw); go_simp; try with_reducible rfl)
        simp only [Act.put, List.setIfInBounds_toArray, List.set_cons_zero, List.set_cons_succ]
        refine take_at (i := 4) (v := ?_) rfl (by kernel_rfl) (by kernel_rfl) (by kernel_rfl) (fun _ _ _ h => h) (by kernel_rfl) (by assumption) ?_ ?_
        rotate_left
        · (intro w hSw; (try dsimp only at hSw); go_simp; try with_reducible rfl)
        simp only [Act.put, List.setIfInBounds_toArray, List.set_cons_zero, List.set_cons_succ]
        refine take_at (i := 5) (v := ?_) rfl (by kernel_rfl) (by kernel_rfl) (by kernel_rfl) (fun _ _ _ h => h) (by kernel_rfl) (by assumption) ?_ ?_
        rotate_left
        · (intro w hSw; (try dsimp only at hSw); go_simp; try with_reducible rfl)
        simp only [Act.put, List.setIfInBounds_toArray, List.set_cons_zero, List.set_cons_succ]
        refine take_at (i := 6) (v := ?_) rfl (by kernel_rfl) (by kernel_rfl) (by kernel_rfl) (fun _ _ _ h => h) (by kernel_rfl) (by assumption) ?_ ?_
        rotate_left
        · (intro w hSw; (try dsimp only at hSw); go_simp; try with_reducible rfl)
        simp only [Act.put, List.setIfInBounds_toArray, List.set_cons_zero, List.set_cons_succ]
        refine take_at (i := 7) (v := ?_) rfl (by kernel_rfl) (by kernel_rfl) (by kernel_rfl) (fun _ _ _ h => h) (by kernel_rfl) (by assumption) ?_ ?_
        rotate_left
        · (intro w hSw; (try dsimp only at hSw); go_simp; try with_reducible rfl)
        simp only [Act.put, List.setIfInBounds_toArray, List.set_cons_zero, List.set_cons_succ]
        refine take_at (i := 8) (v := ?_) rfl (by kernel_rfl) (by kernel_rfl) (by kernel_rfl) (fun _ _ _ h => h) (by kernel_rfl) (by assumption) ?_ ?_
        rotate_left
        · (intro w hSw; (try dsimp only at hSw); go_simp; try with_reducible rfl)
        simp only [Act.put, List.setIfInBounds_toArray, List.set_cons_zero, List.set_cons_succ]
        refine take_at (i := 9) (v := ?_) rfl (by kernel_rfl) (by kernel_rfl) (by kernel_rfl) (fun _ _ _ h => h) (by kernel_rfl) (by assumption) ?_ ?_
        rotate_left
        · (intro w hSw; (try dsimp only at hSw); go_simp; try with_reducible rfl)
        simp only [Act.put, List.setIfInBounds_toArray, List.set_cons_zero, List.set_cons_succ]
        refine take_at (i := 10) (v := ?_) rfl (by kernel_rfl) (by kernel_rfl) (by kernel_rfl) (fun _ _ _ h => h) (by kernel_rfl) (by assumption) ?_ ?_
        rotate_left
        · (intro w hSw; (try dsimp only at hSw); go_simp; try with_reducible rfl)
        simp only [Act.put, List.setIfInBounds_toArray, List.set_cons_zero, List.set_cons_succ]
        refine take_at (i := 11) (v := ?_) rfl (by kernel_rfl) (by kernel_rfl) (by kernel_rfl) (fun _ _ _ h => h) (by kernel_rfl) (by assumption) ?_ ?_
        rotate_left
        · (intro w hSw; (try dsimp only at hSw); go_simp; try with_reducible rfl)
        simp only [Act.put, List.setIfInBounds_toArray, List.set_cons_zero, List.set_cons_succ]
        refine do_at (i := 0) rfl (by kernel_rfl) (by kernel_rfl) (fun K hK => ?_)
        go_simp
        refine hK.out _ _ ?_ (fun hHeld => ?_)
        · exact HA.out _ H.1
        clear hK K
        try simp only [Act.put, List.setIfInBounds_toArray, List.set_cons_zero, List.set_cons_succ]
        refine do_at (i := 12) rfl (by kernel_rfl) (by kernel_rfl) (fun K hK => ?_)
        go_simp
        refine (C _).mono ?_
        rintro e w6 ⟨rfl, hb⟩
        have H' := H.on hb
        clear H hb hHeld c1 c2 c3 c4 c5 c6 f1 f2 f3 f4 f5 f6
        have H := H'
        clear H'
        obtain ⟨⟨c1, c2, c3, c4, c5, c6⟩, f1, f2, f3, f4, f5, f6⟩ := H.get 0 rfl
        go_wp2_with fail
        refine hK.out _ _ ?_ (fun hHeld => ?_)
        · exact HA.out _ H.1
        clear hK K
        try simp only [Act.put, List.setIfInBounds_toArray, List.set_cons_zero, List.set_cons_succ]
        refine take_at (i := 13) (v := ?_) rfl (by kernel_rfl) (by kernel_rfl) (by kernel_rfl) (fun _ _ _ h => h) (by kernel_rfl) (by assumption) ?_ ?_
        rotate_left
        · (intro w hSw; (try dsimp only at hSw); go_simp; try with_reducible rfl)
        simp only [Act.put, List.setIfInBounds_toArray, List.set_cons_zero, List.set_cons_succ]
        refine take_at (i := 14) (v := ?_) rfl (by kernel_rfl) (by kernel_rfl) (by kernel_rfl) (fun _ _ _ h => h) (by kernel_rfl) (by assumption) ?_ ?_
        rotate_left
        · (intro w hSw; (try dsimp only at hSw); go_simp; try with_reducible rfl)
        simp only [Act.put, List.setIfInBounds_toArray, List.set_cons_zero, List.set_cons_succ]
        refine take_at (i := 15) (v := ?_) rfl (by kernel_rfl) (by kernel_rfl) (by kernel_rfl) (fun _ _ _ h => h) (by kernel_rfl) (by assumption) ?_ ?_
        rotate_left
        · (intro w hSw; (try dsimp only at hSw); go_simp; try with_reducible rfl)
        simp only [Act.put, List.setIfInBounds_toArray, List.set_cons_zero, List.set_cons_succ]
        refine do_at (i := 16) rfl (by kernel_rfl) (by kernel_rfl) (fun K hK => ?_)
        go_simp
        have H' := H.put 0 rfl ⟨a', b', c', d', l', s'⟩
        clear H hHeld c1 c2 c3 c4 c5 c6 f1 f2 f3 f4 f5 f6
        have H := H'
        clear H'
        refine hK.out _ _ ?_ (fun hHeld => ?_)
        · exact HA.out _ H.1
        clear hK K
        try simp only [Act.put, List.setIfInBounds_toArray, List.set_cons_zero, List.set_cons_succ]
        refine wpAnyH_done (by kernel_rfl) ?_ _
        have H2 := Lib.hid H
        clear H HA q0 q1 q2 q3 hHeld
        go_wp2
        go_roundg (gk - 1)
        case measure => omega
        case rel => exact ⟨j + 1, ⟨a', b', c', d', l', s'⟩, by omega, by omega, by omega, by simp, HP.out.symm.trans HN.out.symm, H2⟩
      · by_cases m1 : x.what % 4 = 1
        · obtain ⟨⟨a', b', c', d', l', s'⟩, q, hd⟩ : ∃ (k' : Ch) (q : Bool), Ch.lock ⟨ka, kb, kc, kd, kl, ks⟩ x.byte = (k', q) := ⟨_, _, rfl⟩
          have HP := Lib.hid (HS.out.trans (step_b m1 hd))
          have C := fun w => lock_lit ka kb kc kd kl ks x.byte a' b' c' d' l' s' q hd w
          clear hd HS HOK m0
          go_upto_region 10 with (fail)
          have H := H1.out.drew
          clear H1
          obtain ⟨⟨c1, c2, c3, c4, c5, c6⟩, f1, f2, f3, f4, f5, f6⟩ := H.get 0 rfl
          refine wp_region_held_drew (S := fun w' => w'.cell? ⟨b, off + j * 4, none⟩ = some (.int .u8 x.what) ∧ w'.cell? ⟨b, off + j * 4 + 1, none⟩ = some (.int .i8 x.place) ∧ w'.cell? ⟨b, off + j * 4 + 2, none⟩ = some (.int .u8 x.byte) ∧ w'.cell? ⟨b, off + j * 4 + 3, none⟩ = some (.int .i32 x.r)) (by kernel_rfl) ?_ (fun hHeld => ?_)
          · exact HA.out _ H.1
          refine take_at (i := 1) (v := ?_) rfl (by kernel_rfl) (by kernel_rfl) (by kernel_rfl) (fun _ _ _ h => h) (by kernel_rfl) (by assumption) ?_ ?_
          rotate_left
          · (intro w hSw; (try dsimp only at hSw); go_simp; try with_reducible rfl)
          simp only [Act.put, List.setIfInBounds_toArray, List.set_cons_zero, List.set_cons_succ]
          refine take_at (i := 2) (v := ?_) rfl (by kernel_rfl) (by kernel_rfl) (by kernel_rfl) (fun _ _ _ h => h) (by kernel_rfl) (by assumption) ?_ ?_
          rotate_left
          · (intro w hSw; (try dsimp only at hSw); go_simp; try with_reducible rfl)
          simp only [Act.put, List.setIfInBounds_toArray, List.set_cons_zero, List.set_cons_succ]
          refine take_at (i := 3) (v := ?_) rfl (by kernel_rfl) (by kernel_rfl) (by kernel_rfl) (fun _ _ _ h => h) (by kernel_rfl) (by assumption) ?_ ?_
          rotate_left
          · (intro w hSw; (try dsimp only at hSw); go_simp; try with_reducible rfl)
          simp only [Act.put, List.setIfInBounds_toArray, List.set_cons_zero, List.set_cons_succ]
          refine take_at (i := 4) (v := ?_) rfl (by kernel_rfl) (by kernel_rfl) (by kernel_rfl) (fun _ _ _ h => h) (by kernel_rfl) (by assumption) ?_ ?_
          rotate_left
          · (intro w hSw; (try dsimp only at hSw); go_simp; try with_reducible rfl)
          simp only [Act.put, List.setIfInBounds_toArray, List.set_cons_zero, List.set_cons_succ]
          refine take_at (i := 5) (v := ?_) rfl (by kernel_rfl) (by kernel_rfl) (by kernel_rfl) (fun _ _ _ h => h) (by kernel_rfl) (by assumption) ?_ ?_
          rotate_left
          · (intro w hSw; (try dsimp only at hSw); go_simp; try with_reducible rfl)
          simp only [Act.put, List.setIfInBounds_toArray, List.set_cons_zero, List.set_cons_succ]
          refine do_at (i := 0) rfl (by kernel_rfl) (by kernel_rfl) (fun K hK => ?_)
          go_simp
          refine hK.out _ _ ?_ (fun hHeld => ?_)
          · exact HA.out _ H.1
          clear hK K
          try simp only [Act.put, List.setIfInBounds_toArray, List.set_cons_zero, List.set_cons_succ]
          refine do_at (i := 6) rfl (by kernel_rfl) (by kernel_rfl) (fun K hK => ?_)
          go_simp
          refine (C _).mono ?_
          rintro e w6 ⟨rfl, hb⟩
          have H' := H.on hb
          clear H hb hHeld c1 c2 c3 c4 c5 c6 f1 f2 f3 f4 f5 f6
          have H := H'
          clear H'
          obtain ⟨⟨c1, c2, c3, c4, c5, c6⟩, f1, f2, f3, f4, f5, f6⟩ := H.get 0 rfl
          go_wp2_with fail
          refine hK.out _ _ ?_ (fun hHeld => ?_)
          · exact HA.out _ H.1
          clear hK K
          try simp only [Act.put, List.setIfInBounds_toArray, List.set_cons_zero, List.set_cons_succ]
          refine take_at (i := 7) (v := ?_) rfl (by kernel_rfl) (by kernel_rfl) (by kernel_rfl) (fun _ _ _ h => h) (by kernel_rfl) (by assumption) ?_ ?_
          rotate_left
          · (intro w hSw; (try dsimp only at hSw); go_simp; try with_reducible rfl)
          simp only [Act.put, List.setIfInBounds_toArray, List.set_cons_zero, List.set_cons_succ]
          refine take_at (i := 8) (v := ?_) rfl (by kernel_rfl) (by kernel_rfl) (by kernel_rfl) (fun _ _ _ h => h) (by kernel_rfl) (by assumption) ?_ ?_
          rotate_left
          · (intro w hSw; (try dsimp only at hSw); go_simp; try with_reducible rfl)
          simp only [Act.put, List.setIfInBounds_toArray, List.set_cons_zero, List.set_cons_succ]
          refine take_at (i := 9) (v := ?_) rfl (by kernel_rfl) (by kernel_rfl) (by kernel_rfl) (fun _ _ _ h => h) (by kernel_rfl) (by assumption) ?_ ?_
          rotate_left
          · (intro w hSw; (try dsimp only at hSw); go_simp; try with_reducible rfl)
          simp only [Act.put, List.setIfInBounds_toArray, List.set_cons_zero, List.set_cons_succ]
          refine do_at (i := 10) rfl (by kernel_rfl) (by kernel_rfl) (fun K hK => ?_)
          go_simp
          have H' := H.put 0 rfl ⟨a', b', c', d', l', s'⟩
          clear H hHeld c1 c2 c3 c4 c5 c6 f1 f2 f3 f4 f5 f6
          have H := H'
          clear H'
          refine hK.out _ _ ?_ (fun hHeld => ?_)
          · exact HA.out _ H.1
          clear hK K
          try simp only [Act.put, List.setIfInBounds_toArray, List.set_cons_zero, List.set_cons_succ]
          refine wpAnyH_done (by kernel_rfl) ?_ _
          have H2 := Lib.hid H
          clear H HA q0 q1 q2 q3 hHeld
          go_wp2
          go_roundg (gk - 1)
          case measure => omega
          case rel => exact ⟨j + 1, ⟨a', b', c', d', l', s'⟩, by omega, by omega, by omega, by simp, HP.out.symm.trans HN.out.symm, H2⟩
        · by_cases m2 : x.what % 4 = 2
          · obtain ⟨⟨a', b', c', d', l', s'⟩, q, hd⟩ : ∃ (k' : Ch) (q : Bool), Ch.one ⟨ka, kb, kc, kd, kl, ks⟩ x.place = (k', q) := ⟨_, _, rfl⟩
            have HP := Lib.hid (HS.out.trans (step_c m2 hd))
            have C := fun w => one_lit ka kb kc kd kl ks x.place a' b' c' d' l' s' q hd w
            clear hd HS HOK m0 m1
            go_upto_region 12 with (fail)
            have H := H1.out.drew
            clear H1
            obtain ⟨⟨c1, c2, c3, c4, c5, c6⟩, f1, f2, f3, f4, f5, f6⟩ := H.get 0 rfl
            refine wp_region_held_drew (S := fun w' => w'.cell? ⟨b, off + j * 4, none⟩ = some (.int .u8 x.what) ∧ w'.cell? ⟨b, off + j * 4 + 1, none⟩ = some (.int .i8 x.place) ∧ w'.cell? ⟨b, off + j * 4 + 2, none⟩ = some (.int .u8 x.byte) ∧ w'.cell? ⟨b, off + j * 4 + 3, none⟩ = some (.int .i32 x.r)) (by kernel_rfl) ?_ (fun hHeld => ?_)
            · exact HA.out _ H.1
            refine take_at (i := 1) (v := ?_) rfl (by kernel_rfl) (by kernel_rfl) (by kernel_rfl) (fun _ _ _ h => h) (by kernel_rfl) (by assumption) ?_ ?_
            rotate_left
            · (intro w hSw; (try dsimp only at hSw); go_simp; try with_reducible rfl)
            simp only [Act.put, List.setIfInBounds_toArray, List.set_cons_zero, List.set_cons_succ]
            refine take_at (i := 2) (v := ?_) rfl (by kernel_rfl) (by kernel_rfl) (by kernel_rfl) (fun _ _ _ h => h) (by kernel_rfl) (by assumption) ?_ ?_
            rotate_left
            · (intro w hSw; (try dsimp only at hSw); go_simp; try with_reducible rfl)
            simp only [Act.put, List.setIfInBounds_toArray, List.set_cons_zero, List.set_cons_succ]
            refine take_at (i := 3) (v := ?_) rfl (by kernel_rfl) (by kernel_rfl) (by kernel_rfl) (fun _ _ _ h => h) (by kernel_rfl) (by assumption) ?_ ?_
            rotate_left
            · (intro w hSw; (try dsimp only at hSw); go_simp; try with_reducible rfl)
            simp only [Act.put, List.setIfInBounds_toArray, List.set_cons_zero, List.set_cons_succ]
            refine take_at (i := 4) (v := ?_) rfl (by kernel_rfl) (by kernel_rfl) (by kernel_rfl) (fun _ _ _ h => h) (by kernel_rfl) (by assumption) ?_ ?_
            rotate_left
            · (intro w hSw; (try dsimp only at hSw); go_simp; try with_reducible rfl)
            simp only [Act.put, List.setIfInBounds_toArray, List.set_cons_zero, List.set_cons_succ]
            refine take_at (i := 5) (v := ?_) rfl (by kernel_rfl) (by kernel_rfl) (by kernel_rfl) (fun _ _ _ h => h) (by kernel_rfl) (by assumption) ?_ ?_
            rotate_left
            · (intro w hSw; (try dsimp only at hSw); go_simp; try with_reducible rfl)
            simp only [Act.put, List.setIfInBounds_toArray, List.set_cons_zero, List.set_cons_succ]
            refine take_at (i := 6) (v := ?_) rfl (by kernel_rfl) (by kernel_rfl) (by kernel_rfl) (fun _ _ _ h => h) (by kernel_rfl) (by assumption) ?_ ?_
            rotate_left
            · (intro w hSw; (try dsimp only at hSw); go_simp; try with_reducible rfl)
            simp only [Act.put, List.setIfInBounds_toArray, List.set_cons_zero, List.set_cons_succ]
            refine do_at (i := 0) rfl (by kernel_rfl) (by kernel_rfl) (fun K hK => ?_)
            go_simp
            refine hK.out _ _ ?_ (fun hHeld => ?_)
            · exact HA.out _ H.1
            clear hK K
            try simp only [Act.put, List.setIfInBounds_toArray, List.set_cons_zero, List.set_cons_succ]
            refine do_at (i := 7) rfl (by kernel_rfl) (by kernel_rfl) (fun K hK => ?_)
            go_simp
            refine (C _).mono ?_
            rintro e w6 ⟨rfl, hb⟩
            have H' := H.on hb
            clear H hb hHeld c1 c2 c3 c4 c5 c6 f1 f2 f3 f4 f5 f6
            have H := H'
            clear H'
            obtain ⟨⟨c1, c2, c3, c4, c5, c6⟩, f1, f2, f3, f4, f5, f6⟩ := H.get 0 rfl
            go_wp2_with fail
            refine hK.out _ _ ?_ (fun hHeld => ?_)
            · exact HA.out _ H.1
            clear hK K
            try simp only [Act.put, List.setIfInBounds_toArray, List.set_cons_zero, List.set_cons_succ]
            refine take_at (i := 8) (v := ?_) rfl (by kernel_rfl) (by kernel_rfl) (by kernel_rfl) (fun _ _ _ h => h) (by kernel_rfl) (by assumption) ?_ ?_
            rotate_left
            · (intro w hSw; (try dsimp only at hSw); go_simp; try with_reducible rfl)
            simp only [Act.put, List.setIfInBounds_toArray, List.set_cons_zero, List.set_cons_succ]
            refine take_at (i := 9) (v := ?_) rfl (by kernel_rfl) (by kernel_rfl) (by kernel_rfl) (fun _ _ _ h => h) (by kernel_rfl) (by assumption) ?_ ?_
            rotate_left
            · (intro w hSw; (try dsimp only at hSw); go_simp; try with_reducible rfl)
            simp only [Act.put, List.setIfInBounds_toArray, List.set_cons_zero, List.set_cons_succ]
            refine take_at (i := 10) (v := ?_) rfl (by kernel_rfl) (by kernel_rfl) (by kernel_rfl) (fun _ _ _ h => h) (by kernel_rfl) (by assumption) ?_ ?_
            rotate_left
            · (intro w hSw; (try dsimp only at hSw); go_simp; try with_reducible rfl)
            simp only [Act.put, List.setIfInBounds_toArray, List.set_cons_zero, List.set_cons_succ]
            refine do_at (i := 11) rfl (by kernel_rfl) (by kernel_rfl) (fun K hK => ?_)
            go_simp
            have H' := H.put 0 rfl ⟨a', b', c', d', l', s'⟩
            clear H hHeld c1 c2 c3 c4 c5 c6 f1 f2 f3 f4 f5 f6
            have H := H'
            clear H'
            refine hK.out _ _ ?_ (fun hHeld => ?_)
            · exact HA.out _ H.1
            clear hK K
            try simp only [Act.put, List.setIfInBounds_toArray, List.set_cons_zero, List.set_cons_succ]
            refine wpAnyH_done (by kernel_rfl) ?_ _
            have H2 := Lib.hid H
            clear H HA q0 q1 q2 q3 hHeld
            go_wp2
            go_roundg (gk - 1)
            case measure => omega
            case rel => exact ⟨j + 1, ⟨a', b', c', d', l', s'⟩, by omega, by omega, by omega, by simp, HP.out.symm.trans HN.out.symm, H2⟩
          · have m3 : x.what % 4 = 3 := by omega
            obtain ⟨⟨a', b', c', d', l', s'⟩, q, hd⟩ : ∃ (k' : Ch) (q : Int), Ch.map ⟨ka, kb, kc, kd, kl, ks⟩ x.r = (k', q) := ⟨_, _, rfl⟩
            have HP := Lib.hid (HS.out.trans (step_d m3 hd))
            have C := fun w => map_lit ka kb kc kd kl ks x.r a' b' c' d' l' s' q hd HOK.out w
            clear hd HS HOK m0 m1 m2
            go_upto_region 6 with (fail)
            have H := H1.out.drew
            clear H1
            obtain ⟨⟨c1, c2, c3, c4, c5, c6⟩, f1, f2, f3, f4, f5, f6⟩ := H.get 0 rfl
            refine wp_region_held_drew (S := fun w' => w'.cell? ⟨b, off + j * 4, none⟩ = some (.int .u8 x.what) ∧ w'.cell? ⟨b, off + j * 4 + 1, none⟩ = some (.int .i8 x.place) ∧ w'.cell? ⟨b, off + j * 4 + 2, none⟩ = some (.int .u8 x.byte) ∧ w'.cell? ⟨b, off + j * 4 + 3, none⟩ = some (.int .i32 x.r)) (by kernel_rfl) ?_ (fun hHeld => ?_)
            · exact HA.out _ H.1
            refine take_at (i := 1) (v := ?_) rfl (by kernel_rfl) (by kernel_rfl) (by kernel_rfl) (fun _ _ _ h => h) (by kernel_rfl) (by assumption) ?_ ?_
            rotate_left
            · (intro w hSw; (try dsimp only at hSw); go_simp; try with_reducible rfl)
            simp only [Act.put, List.setIfInBounds_toArray, List.set_cons_zero, List.set_cons_succ]
            refine take_at (i := 2) (v := ?_) rfl (by kernel_rfl) (by kernel_rfl) (by kernel_rfl) (fun _ _ _ h => h) (by kernel_rfl) (by assumption) ?_ ?_
            rotate_left
            · (intro w hSw; (try dsimp only at hSw); go_simp; try with_reducible rfl)
            simp only [Act.put, List.setIfInBounds_toArray, List.set_cons_zero, List.set_cons_succ]
            refine take_at (i := 3) (v := ?_) rfl (by kernel_rfl) (by kernel_rfl) (by kernel_rfl) (fun _ _ _ h => h) (by kernel_rfl) (by assumption) ?_ ?_
            rotate_left
            · (intro w hSw; (try dsimp only at hSw); go_simp; try with_reducible rfl)
            simp only [Act.put, List.setIfInBounds_toArray, List.set_cons_zero, List.set_cons_succ]
            refine take_at (i := 4) (v := ?_) rfl (by kernel_rfl) (by kernel_rfl) (by kernel_rfl) (fun _ _ _ h => h) (by kernel_rfl) (by assumption) ?_ ?_
            rotate_left
            · (intro w hSw; (try dsimp only at hSw); go_simp; try with_reducible rfl)
            simp only [Act.put, List.setIfInBounds_toArray, List.set_cons_zero, List.set_cons_succ]
            refine take_at (i := 5) (v := ?_) rfl (by kernel_rfl) (by kernel_rfl) (by kernel_rfl) (fun _ _ _ h => h) (by kernel_rfl) (by assumption) ?_ ?_
            rotate_left
            · (intro w hSw; (try dsimp only at hSw); go_simp; try with_reducible rfl)
            simp only [Act.put, List.setIfInBounds_toArray, List.set_cons_zero, List.set_cons_succ]
            refine do_at (i := 0) rfl (by kernel_rfl) (by kernel_rfl) (fun K hK => ?_)
            go_simp
            refine hK.out _ _ ?_ (fun hHeld => ?_)
            · exact HA.out _ H.1
            clear hK K
            try simp only [Act.put, List.setIfInBounds_toArray, List.set_cons_zero, List.set_cons_succ]
            refine do_at (i := 6) rfl (by kernel_rfl) (by kernel_rfl) (fun K hK => ?_)
            go_simp
            refine (C _).mono ?_
            rintro e w6 ⟨rfl, hb⟩
            have H' := H.on hb
            clear H hb hHeld c1 c2 c3 c4 c5 c6 f1 f2 f3 f4 f5 f6
            have H := H'
            clear H'
            obtain ⟨⟨c1, c2, c3, c4, c5, c6⟩, f1, f2, f3, f4, f5, f6⟩ := H.get 0 rfl
            go_wp2_with fail
            refine hK.out _ _ ?_ (fun hHeld => ?_)
            · exact HA.out _ H.1
            clear hK K
            try simp only [Act.put, List.setIfInBounds_toArray, List.set_cons_zero, List.set_cons_succ]
            refine take_at (i := 7) (v := ?_) rfl (by kernel_rfl) (by kernel_rfl) (by kernel_rfl) (fun _ _ _ h => h) (by kernel_rfl) (by assumption) ?_ ?_
            rotate_left
            · (intro w hSw; (try dsimp only at hSw); go_simp; try with_reducible rfl)
            simp only [Act.put, List.setIfInBounds_toArray, List.set_cons_zero, List.set_cons_succ]
            refine take_at (i := 8) (v := ?_) rfl (by kernel_rfl) (by kernel_rfl) (by kernel_rfl) (fun _ _ _ h => h) (by kernel_rfl) (by assumption) ?_ ?_
            rotate_left
            · (intro w hSw; (try dsimp only at hSw); go_simp; try with_reducible rfl)
            simp only [Act.put, List.setIfInBounds_toArray, List.set_cons_zero, List.set_cons_succ]
            refine take_at (i := 9) (v := ?_) rfl (by kernel_rfl) (by kernel_rfl) (by kernel_rfl) (fun _ _ _ h => h) (by kernel_rfl) (by assumption) ?_ ?_
            rotate_left
            · (intro w hSw; (try dsimp only at hSw); go_simp; try with_reducible rfl)
            simp only [Act.put, List.setIfInBounds_toArray, List.set_cons_zero, List.set_cons_succ]
            refine do_at (i := 10) rfl (by kernel_rfl) (by kernel_rfl) (fun K hK => ?_)
            go_simp
            have H' := H.put 0 rfl ⟨a', b', c', d', l', s'⟩
            clear H hHeld c1 c2 c3 c4 c5 c6 f1 f2 f3 f4 f5 f6
            have H := H'
            clear H'
            refine hK.out _ _ ?_ (fun hHeld => ?_)
            · exact HA.out _ H.1
            clear hK K
            try simp only [Act.put, List.setIfInBounds_toArray, List.set_cons_zero, List.set_cons_succ]
            refine wpAnyH_done (by kernel_rfl) ?_ _
            have H2 := Lib.hid H
            clear H HA q0 q1 q2 q3 hHeld
            go_wp2
            go_roundg (gk - 1)
            case measure => omega
            case rel => exact ⟨j + 1, ⟨a', b', c', d', l', s'⟩, by omega, by omega, by omega, by simp, HP.out.symm.trans HN.out.symm, H2⟩
    · have hmin : min len 40 = j := by omega
      have HK := Lib.hid hk
      obtain ⟨⟨c1, c2, c3, c4, c5, c6⟩, f1, f2, f3, f4, f5, f6⟩ := H1.out.get 0 rfl
      obtain ⟨⟨d1, d2, d3, d4, d5, d6⟩, g1, g2, g3, g4, g5, g6⟩ := H1.out.get 1 rfl
      have hcc : ¬ ((j : Int) < (len : Int)) ∨ ¬ ((j : Int) < 40) := by omega
      clear HT hk
      obtain ⟨ka, kb, kc, kd, kl, ks⟩ := k
      have HB := Lib.hid (H1.out.put 1 rfl ⟨ka, kb, kc, kd, kl, ks⟩)
      rcases hcc with hcc | hcc
      · clear hc
        go_wp2
        refine bodyPost_ret (v := (⟨ka, kb, kc, kd, kl, ks⟩ : Ch).val) (by simp [results, Try.results23, go_sem, d1, d2, d3, d4, d5, d6]) rfl ⟨by rw [← HK.out], HB.out.1⟩
      · by_cases hll : (j : Int) < (len : Int)
        · clear hc
          go_wp2
          refine bodyPost_ret (v := (⟨ka, kb, kc, kd, kl, ks⟩ : Ch).val) (by simp [results, Try.results23, go_sem, d1, d2, d3, d4, d5, d6]) rfl ⟨by rw [← HK.out], HB.out.1⟩
        · clear hc
          go_wp2
          refine bodyPost_ret (v := (⟨ka, kb, kc, kd, kl, ks⟩ : Ch).val) (by simp [results, Try.results23, go_sem, d1, d2, d3, d4, d5, d6]) rfl ⟨by rw [← HK.out], HB.out.1⟩
end Go.Proofs.Ytdphccjeikiciaa.Lab
