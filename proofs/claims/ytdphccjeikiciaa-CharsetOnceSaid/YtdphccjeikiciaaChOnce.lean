/- The Go law CharsetOnce: its walk. -/
import Derived.Test.YtdphccjeikiciaaChPlayed
import Derived.Deep.DeepCutAuto
import Derived.Deep.CutBlock
namespace Go.Proofs.Ytdphccjeikiciaa.Lab
open Go Go.RowKit Go.ChangeShapes Go.WideShapes Go.ChangeAt Go.Deep Go.Joins Go.ChangeMaps

theorem eqv_lit (a b c d l s a' b' c' d' l' s' : Int) (q : Bool) (h : eqC ⟨a, b, c, d, l, s⟩ ⟨a', b', c', d', l', s'⟩ = q) (w : World) :
    (Op.equalIn 10000 25 (.agg #[.int .i64 a, .int .i64 b, .int .i64 c, .int .i64 d, .int .i64 l, .int .i64 s]) (.agg #[.int .i64 a', .int .i64 b', .int .i64 c', .int .i64 d', .int .i64 l', .int .i64 s'])).run Try.prog w = .ok q w := by
  subst h
  exact eqVal ⟨a, b, c, d, l, s⟩ ⟨a', b', c', d', l', s'⟩ w
theorem Lies.tail {w0 w : World} {p : Nat × Ch} {L : List (Nat × Ch)} (H : Lies w0 w (p :: L)) : Lies w0 w L :=
  ⟨H.1, (List.pairwise_cons.1 H.2.1).2, fun q hq => H.2.2 q (List.mem_cons_of_mem _ hq)⟩
theorem eqC_self (k : Ch) : eqC k k = true := (eqC_iff k k).2 rfl
theorem eqSets_self (a b c d : Int) (w : World) : (Op.equalIn 10000 23 (.agg #[.int .i64 a, .int .i64 b, .int .i64 c, .int .i64 d]) (.agg #[.int .i64 a, .int .i64 b, .int .i64 c, .int .i64 d])).run Try.prog w = .ok true w := by
  have := eqSets ⟨a, b, c, d, 0, 0⟩ ⟨a, b, c, d, 0, 0⟩ w
  simpa using this
theorem idx_sets (a b c d : Int) (k : Nat) (hk : k < 4) (x : Int) (hx : (#[.int .i64 a, .int .i64 b, .int .i64 c, .int .i64 d] : Array Value)[k]? = some (.int .i64 x)) (i : Int) (hi : i = k) (w : World) :
    (Instr.index 23 (.agg #[.int .i64 a, .int .i64 b, .int .i64 c, .int .i64 d]) (.int .i64 i)).run Try.prog w = .ok (.int .i64 x) w :=
  idx_arr 23 3 4 Try.underlying23 Try.isAgg3 Try.sizeOf3 _ k hk _ hx .i64 i hi w
theorem played_lit (ap : Option Addr) (len cap : Nat) (T : Nat → ActV) (ka kb kc kd kl ks : Int) (hk : playedN T (min len 40) = ⟨ka, kb, kc, kd, kl, ks⟩) {w w' : World} (hT : IsActs w ap len cap T) (hb : Below w.heap.size w w') :
    Calls Try.prog 23 #[.slice ap len cap] w' fun e w'' => e = .returned (.agg #[.int .i64 ka, .int .i64 kb, .int .i64 kc, .int .i64 kd, .int .i64 kl, .int .i64 ks]) ∧ Below w'.heap.size w' w'' := by
  have := played_any ap len cap T w' (hT.below hb)
  rw [hk] at this
  exact this

set_option maxRecDepth 100000 in
set_option maxHeartbeats 16000000 in
theorem charsetOnce_any (ap : Option Addr) (len cap : Nat) (T : Nat → ActV) (a b : Int) (w : World) (hT : IsActs w ap len cap T) :
    Calls Try.prog 6 #[.slice ap len cap, .int .i32 a, .int .i32 b] w fun e w' => e = .returned (.bool true) ∧ Below w.heap.size w w' := by
  have hok := playedN_ok T (min len 40)
  obtain ⟨⟨ka, kb, kc, kd, kl, ks⟩, hk⟩ : ∃ k, playedN T (min len 40) = k := ⟨_, rfl⟩
  have PL := Lib.hid (fun (w' : World) (hb : Below w.heap.size w w') => played_lit ap len cap T ka kb kc kd kl ks hk hT hb)
  rw [hk] at hok
  have hl : kl = 0 ∨ kl = 1 := hok.2
  have HOK := Lib.hid hok
  have HL := Lib.hid hl
  clear hT hk hok hl
  have H0 := Lib.hid (Lies.start w)
  go_enter Try.func6, Try.ntmps6
  go_wp2_with fail
  refine (works_any _).mono ?_
  rintro e w1 ⟨rfl, hb⟩
  have H1 := Lib.hid (H0.out.on hb)
  clear hb H0
  have C := fun (wx : World) (hx : wx = w1) => (by rw [hx]; exact PL.out w1 H1.out.1 : Calls Try.prog 23 #[.slice ap len cap] wx fun e w'' => e = .returned (.agg #[.int .i64 ka, .int .i64 kb, .int .i64 kc, .int .i64 kd, .int .i64 kl, .int .i64 ks]) ∧ Below wx.heap.size wx w'')
  go_wp2_with fail
  refine (C _ rfl).mono ?_
  rintro e w2 ⟨rfl, hb⟩
  have H2 := Lib.hid (H1.out.on hb)
  clear hb H1 C
  have hq := fun w => eqv_lit ka kb kc kd kl ks ka kb kc kd kl ks true (eqC_self _) w
  go_upto_region 4 with (fail)
  have H := (H2.out.new ka kb kc kd kl ks 25).drew
  clear H2
  refine wp_region_held_drew (S := fun w' => (w'.cell? ⟨w2.heap.size, 0, none⟩ = some (.int .i64 ka) ∧ w'.cell? ⟨w2.heap.size, 1, none⟩ = some (.int .i64 kb) ∧ w'.cell? ⟨w2.heap.size, 2, none⟩ = some (.int .i64 kc) ∧ w'.cell? ⟨w2.heap.size, 3, none⟩ = some (.int .i64 kd) ∧ w'.cell? ⟨w2.heap.size, 4, none⟩ = some (.int .i64 kl) ∧ w'.cell? ⟨w2.heap.size, 5, none⟩ = some (.int .i64 ks))) (by kernel_rfl) ?_ (fun hHeld => ?_)
  · exact (H.get 0 rfl).1
  refine take_at (i := 0) (v := ?_) rfl (by kernel_rfl) (by kernel_rfl) (by kernel_rfl) (fun _ _ _ h => h) (by kernel_rfl) (by assumption) ?_ ?_
  rotate_left
  · (intro w hSw; (try dsimp only at hSw); go_simp; try with_reducible rfl)
  simp only [Act.put, List.setIfInBounds_toArray, List.set_cons_zero, List.set_cons_succ]
  refine take_at (i := 1) (v := ?_) rfl (by kernel_rfl) (by kernel_rfl) (by kernel_rfl) (fun _ _ _ h => h) (by kernel_rfl) (by assumption) ?_ ?_
  rotate_left
  · (intro w hSw; (try dsimp only at hSw); go_simp; try with_reducible rfl)
  simp only [Act.put, List.setIfInBounds_toArray, List.set_cons_zero, List.set_cons_succ]
  refine do_at (i := 2) rfl (by kernel_rfl) (by kernel_rfl) (fun K hK => ?_)
  go_simp
  refine (PL.out _ H.1).mono ?_
  rintro e v4_2 ⟨rfl, hb⟩
  have H' := H.on hb
  clear H hb hHeld
  have H := H'
  clear H'
  go_wp2_with fail
  refine hK.out _ _ ?_ (fun hHeld => ?_)
  · exact (H.get 0 rfl).1
  clear hK K
  try simp only [Act.put, List.setIfInBounds_toArray, List.set_cons_zero, List.set_cons_succ]
  refine take_at (i := 3) (v := ?_) rfl (by kernel_rfl) (by kernel_rfl) (by kernel_rfl) (fun _ _ _ h => h) (by kernel_rfl) (by assumption) ?_ ?_
  rotate_left
  · (intro w hSw; (try dsimp only at hSw); go_simp; try with_reducible rfl)
  simp only [Act.put, List.setIfInBounds_toArray, List.set_cons_zero, List.set_cons_succ]
  refine wpAnyH_done (by kernel_rfl) ?_ _
  have H3 := Lib.hid H
  clear H hHeld
  obtain ⟨w3, hw3⟩ : ∃ wx : World, wx = v4_2 := ⟨_, rfl⟩
  rw [← hw3] at H3
  rw [← hw3]
  clear hw3
  clear hq PL
  have C := fun w => map_lit ka kb kc kd kl ks 120 ka kb kc kd kl 0 (ofM (Ch.at ⟨ka, kb, kc, kd, kl, ks⟩ (Ch.now ⟨ka, kb, kc, kd, kl, ks⟩)) 120) rfl HOK.out w
  generalize ofM (Ch.at ⟨ka, kb, kc, kd, kl, ks⟩ (Ch.now ⟨ka, kb, kc, kd, kl, ks⟩)) 120 = ox at *
  obtain ⟨⟨cc1, cc2, cc3, cc4, cc5, cc6⟩, fc1, fc2, fc3, fc4, fc5, fc6⟩ := H3.out.get 0 rfl
  go_wp2_with fail
  refine (C _).mono ?_
  rintro e w4 ⟨rfl, hb⟩
  have H4 := Lib.hid (H3.out.on hb)
  clear cc1 cc2 cc3 cc4 cc5 cc6 fc1 fc2 fc3 fc4 fc5 fc6
  clear hb H3
  clear C
  obtain ⟨⟨cc1, cc2, cc3, cc4, cc5, cc6⟩, fc1, fc2, fc3, fc4, fc5, fc6⟩ := H4.out.get 0 rfl
  go_wp2_with fail
  refine (now_lit ka kb kc kd kl 0 kl rfl _).mono ?_
  rintro e w5 ⟨rfl, hb⟩
  have H5 := Lib.hid ((H4.out.put 0 rfl ⟨ka, kb, kc, kd, kl, 0⟩).on hb)
  simp only [List.set_cons_zero] at H5
  clear cc1 cc2 cc3 cc4 cc5 cc6 fc1 fc2 fc3 fc4 fc5 fc6
  clear hb H4
  go_upto_region 8 with (fail)
  go_cut [45] (fun v wc => v = .bool false ∧ wc = w5)
  case first =>
    rcases HL.out with h | h
    · have e1 : (kl != 0) = false := by simp [h]
      clear h
      go_wp2_with fail
      go_meet
      case rel => exact ⟨rfl, rfl⟩
    · have e1 : (kl != 0) = true := by simp [h]
      have e2 : (kl != 1) = false := by simp [h]
      clear h
      go_wp2_with fail
      go_meet
      case rel => exact ⟨rfl, rfl⟩
  case rest =>
    obtain ⟨rfl, rfl⟩ := hcut
    obtain ⟨w5, rfl⟩ : ∃ wx : World, wx = wc := ⟨_, rfl⟩
    generalize w2.heap.size = n7 at *
    go_wp2_with fail
    go_loopg [9] 2 (fun g v wr => ∃ p : Int, v = .int .i64 p ∧ ((g = 2 ∧ p = 2) ∨ (g = 1 ∧ p = 3) ∨ (g = 0 ∧ p = 4)) ∧ Hid (Lies w wr [(n7, ⟨ka, kb, kc, kd, kl, 0⟩)]))
    case atStart => exact ⟨2, rfl, .inl ⟨rfl, rfl⟩, H5⟩
    case round =>
      obtain ⟨p, rfl, hp, H0⟩ := hrel
      clear H5
      obtain ⟨w0, rfl⟩ : ∃ wo : World, wo = wr := ⟨_, rfl⟩
      rcases hp with ⟨hg, rfl⟩ | ⟨hg, rfl⟩ | ⟨hg, rfl⟩
      · have HL0 := HL
        obtain ⟨⟨cc1, cc2, cc3, cc4, cc5, cc6⟩, fc1, fc2, fc3, fc4, fc5, fc6⟩ := H0.out.get 0 rfl
        go_wp2_with fail
        refine (one_lit ka kb kc kd kl 0 2 ka kb kc kd kl 2 true (by rfl) _).mono ?_
        rintro e w1 ⟨rfl, hb⟩
        have H1 := Lib.hid (H0.out.on hb)
        clear cc1 cc2 cc3 cc4 cc5 cc6 fc1 fc2 fc3 fc4 fc5 fc6
        clear hb H0
        go_wp2_with fail
        refine (one_lit ka kb kc kd kl 2 3 ka kb kc kd kl 3 true (by rfl) _).mono ?_
        rintro e w2 ⟨rfl, hb⟩
        have H2 := Lib.hid ((H1.out.new ka kb kc kd kl 2 25).on hb)
        clear hb H1
        go_wp2_with fail
        refine (one_lit ka kb kc kd kl 3 2 ka kb kc kd kl 2 true (by rfl) _).mono ?_
        rintro e w3 ⟨rfl, hb⟩
        have H3 := Lib.hid ((H2.out.new ka kb kc kd kl 3 25).on hb)
        clear hb H2
        obtain ⟨⟨ce1, ce2, ce3, ce4, ce5, ce6⟩, fe1, fe2, fe3, fe4, fe5, fe6⟩ := H3.out.get 0 rfl
        have hq := fun w => eqv_lit ka kb kc kd kl 2 ka kb kc kd kl 2 true (eqC_self _) w
        have hq2 := fun w => eqSets_self ka kb kc kd w
        go_upto_region 16 with (fail)
        have H := (H3.out.put 0 rfl ⟨ka, kb, kc, kd, kl, 2⟩).drew
        simp only [List.set_cons_zero] at H
        clear ce1 ce2 ce3 ce4 ce5 ce6 fe1 fe2 fe3 fe4 fe5 fe6
        clear H3
        refine wp_region_held_drew (S := fun w' => (w'.cell? ⟨w1.heap.size, 0, none⟩ = some (.int .i64 ka) ∧ w'.cell? ⟨w1.heap.size, 1, none⟩ = some (.int .i64 kb) ∧ w'.cell? ⟨w1.heap.size, 2, none⟩ = some (.int .i64 kc) ∧ w'.cell? ⟨w1.heap.size, 3, none⟩ = some (.int .i64 kd) ∧ w'.cell? ⟨w1.heap.size, 4, none⟩ = some (.int .i64 kl) ∧ w'.cell? ⟨w1.heap.size, 5, none⟩ = some (.int .i64 2)) ∧ (w'.cell? ⟨w2.heap.size, 0, none⟩ = some (.int .i64 ka) ∧ w'.cell? ⟨w2.heap.size, 1, none⟩ = some (.int .i64 kb) ∧ w'.cell? ⟨w2.heap.size, 2, none⟩ = some (.int .i64 kc) ∧ w'.cell? ⟨w2.heap.size, 3, none⟩ = some (.int .i64 kd) ∧ w'.cell? ⟨w2.heap.size, 4, none⟩ = some (.int .i64 kl) ∧ w'.cell? ⟨w2.heap.size, 5, none⟩ = some (.int .i64 2)) ∧ (w'.cell? ⟨n7, 0, none⟩ = some (.int .i64 ka) ∧ w'.cell? ⟨n7, 1, none⟩ = some (.int .i64 kb) ∧ w'.cell? ⟨n7, 2, none⟩ = some (.int .i64 kc) ∧ w'.cell? ⟨n7, 3, none⟩ = some (.int .i64 kd) ∧ w'.cell? ⟨n7, 4, none⟩ = some (.int .i64 kl) ∧ w'.cell? ⟨n7, 5, none⟩ = some (.int .i64 0))) (by kernel_rfl) ?_ (fun hHeld => ?_)
        · exact ⟨(H.get 1 rfl).1, (H.get 0 rfl).1, (H.get 2 rfl).1⟩
        refine take_at (i := 0) (v := ?_) rfl (by kernel_rfl) (by kernel_rfl) (by kernel_rfl) (fun _ _ _ h => h) (by kernel_rfl) (by assumption) ?_ ?_
        rotate_left
        · (intro w hSw; (try dsimp only at hSw); go_simp; try with_reducible rfl)
        simp only [Act.put, List.setIfInBounds_toArray, List.set_cons_zero, List.set_cons_succ]
        refine take_at (i := 1) (v := ?_) rfl (by kernel_rfl) (by kernel_rfl) (by kernel_rfl) (fun _ _ _ h => h) (by kernel_rfl) (by assumption) ?_ ?_
        rotate_left
        · (intro w hSw; (try dsimp only at hSw); go_simp; try with_reducible rfl)
        simp only [Act.put, List.setIfInBounds_toArray, List.set_cons_zero, List.set_cons_succ]
        refine take_at (i := 2) (v := ?_) rfl (by kernel_rfl) (by kernel_rfl) (by kernel_rfl) (fun _ _ _ h => h) (by kernel_rfl) (by assumption) ?_ ?_
        rotate_left
        · (intro w hSw; (try dsimp only at hSw); go_simp; try with_reducible rfl)
        simp only [Act.put, List.setIfInBounds_toArray, List.set_cons_zero, List.set_cons_succ]
        refine take_at (i := 3) (v := ?_) rfl (by kernel_rfl) (by kernel_rfl) (by kernel_rfl) (fun _ _ _ h => h) (by kernel_rfl) (by assumption) ?_ ?_
        rotate_left
        · (intro w hSw; (try dsimp only at hSw); go_simp; try with_reducible rfl)
        simp only [Act.put, List.setIfInBounds_toArray, List.set_cons_zero, List.set_cons_succ]
        refine take_at (i := 4) (v := ?_) rfl (by kernel_rfl) (by kernel_rfl) (by kernel_rfl) (fun _ _ _ h => h) (by kernel_rfl) (by assumption) ?_ ?_
        rotate_left
        · (intro w hSw; (try dsimp only at hSw); go_simp; try with_reducible rfl)
        simp only [Act.put, List.setIfInBounds_toArray, List.set_cons_zero, List.set_cons_succ]
        refine take_at (i := 5) (v := ?_) rfl (by kernel_rfl) (by kernel_rfl) (by kernel_rfl) (fun _ _ _ h => h) (by kernel_rfl) (by assumption) ?_ ?_
        rotate_left
        · (intro w hSw; (try dsimp only at hSw); go_simp; try with_reducible rfl)
        simp only [Act.put, List.setIfInBounds_toArray, List.set_cons_zero, List.set_cons_succ]
        refine take_at (i := 6) (v := ?_) rfl (by kernel_rfl) (by kernel_rfl) (by kernel_rfl) (fun _ _ _ h => h) (by kernel_rfl) (by assumption) ?_ ?_
        rotate_left
        · (intro w hSw; (try dsimp only at hSw); go_simp; try with_reducible rfl)
        simp only [Act.put, List.setIfInBounds_toArray, List.set_cons_zero, List.set_cons_succ]
        refine take_at (i := 7) (v := ?_) rfl (by kernel_rfl) (by kernel_rfl) (by kernel_rfl) (fun _ _ _ h => h) (by kernel_rfl) (by assumption) ?_ ?_
        rotate_left
        · (intro w hSw; (try dsimp only at hSw); go_simp; try with_reducible rfl)
        simp only [Act.put, List.setIfInBounds_toArray, List.set_cons_zero, List.set_cons_succ]
        refine take_at (i := 8) (v := ?_) rfl (by kernel_rfl) (by kernel_rfl) (by kernel_rfl) (fun _ _ _ h => h) (by kernel_rfl) (by assumption) ?_ ?_
        rotate_left
        · (intro w hSw; (try dsimp only at hSw); go_simp; try with_reducible rfl)
        simp only [Act.put, List.setIfInBounds_toArray, List.set_cons_zero, List.set_cons_succ]
        refine take_at (i := 9) (v := ?_) rfl (by kernel_rfl) (by kernel_rfl) (by kernel_rfl) (fun _ _ _ h => h) (by kernel_rfl) (by assumption) ?_ ?_
        rotate_left
        · (intro w hSw; (try dsimp only at hSw); go_simp; try with_reducible rfl)
        simp only [Act.put, List.setIfInBounds_toArray, List.set_cons_zero, List.set_cons_succ]
        refine take_at (i := 10) (v := ?_) rfl (by kernel_rfl) (by kernel_rfl) (by kernel_rfl) (fun _ _ _ h => h) (by kernel_rfl) (by assumption) ?_ ?_
        rotate_left
        · (intro w hSw; (try dsimp only at hSw); go_simp; try with_reducible rfl)
        simp only [Act.put, List.setIfInBounds_toArray, List.set_cons_zero, List.set_cons_succ]
        refine take_at (i := 11) (v := ?_) rfl (by kernel_rfl) (by kernel_rfl) (by kernel_rfl) (fun _ _ _ h => h) (by kernel_rfl) (by assumption) ?_ ?_
        rotate_left
        · (intro w hSw; (try dsimp only at hSw); go_simp; try with_reducible rfl)
        simp only [Act.put, List.setIfInBounds_toArray, List.set_cons_zero, List.set_cons_succ]
        refine take_at (i := 12) (v := ?_) rfl (by kernel_rfl) (by kernel_rfl) (by kernel_rfl) (fun _ _ _ h => h) (by kernel_rfl) (by assumption) ?_ ?_
        rotate_left
        · (intro w hSw; (try dsimp only at hSw); go_simp; try with_reducible rfl)
        simp only [Act.put, List.setIfInBounds_toArray, List.set_cons_zero, List.set_cons_succ]
        refine take_at (i := 13) (v := ?_) rfl (by kernel_rfl) (by kernel_rfl) (by kernel_rfl) (fun _ _ _ h => h) (by kernel_rfl) (by assumption) ?_ ?_
        rotate_left
        · (intro w hSw; (try dsimp only at hSw); go_simp; try with_reducible rfl)
        simp only [Act.put, List.setIfInBounds_toArray, List.set_cons_zero, List.set_cons_succ]
        refine take_at (i := 14) (v := ?_) rfl (by kernel_rfl) (by kernel_rfl) (by kernel_rfl) (fun _ _ _ h => h) (by kernel_rfl) (by assumption) ?_ ?_
        rotate_left
        · (intro w hSw; (try dsimp only at hSw); go_simp; try with_reducible rfl)
        simp only [Act.put, List.setIfInBounds_toArray, List.set_cons_zero, List.set_cons_succ]
        refine take_at (i := 15) (v := ?_) rfl (by kernel_rfl) (by kernel_rfl) (by kernel_rfl) (fun _ _ _ h => h) (by kernel_rfl) (by assumption) ?_ ?_
        rotate_left
        · (intro w hSw; (try dsimp only at hSw); go_simp; try with_reducible rfl)
        simp only [Act.put, List.setIfInBounds_toArray, List.set_cons_zero, List.set_cons_succ]
        refine take_at (i := 16) (v := ?_) rfl (by kernel_rfl) (by kernel_rfl) (by kernel_rfl) (fun _ _ _ h => h) (by kernel_rfl) (by assumption) ?_ ?_
        rotate_left
        · (intro w hSw; (try dsimp only at hSw); go_simp; try with_reducible rfl)
        simp only [Act.put, List.setIfInBounds_toArray, List.set_cons_zero, List.set_cons_succ]
        refine take_at (i := 18) (v := ?_) rfl (by kernel_rfl) (by kernel_rfl) (by kernel_rfl) (fun _ _ _ h => h) (by kernel_rfl) (by assumption) ?_ ?_
        rotate_left
        · (intro w hSw; (try dsimp only at hSw); go_simp; try with_reducible rfl)
        simp only [Act.put, List.setIfInBounds_toArray, List.set_cons_zero, List.set_cons_succ]
        refine do_at (i := 17) rfl (by kernel_rfl) (by kernel_rfl) (fun K hK => ?_)
        go_simp
        refine (now_lit ka kb kc kd kl 2 2 (by rfl) _).mono ?_
        rintro e v16_17 ⟨rfl, hb⟩
        have H' := H.on hb
        clear H hb hHeld
        have H := H'
        clear H'
        go_wp2_with fail
        refine hK.out _ _ ?_ (fun hHeld => ?_)
        · exact ⟨(H.get 1 rfl).1, (H.get 0 rfl).1, (H.get 2 rfl).1⟩
        clear hK K
        try simp only [Act.put, List.setIfInBounds_toArray, List.set_cons_zero, List.set_cons_succ]
        refine take_at (i := 19) (v := ?_) rfl (by kernel_rfl) (by kernel_rfl) (by kernel_rfl) (fun _ _ _ h => h) (by kernel_rfl) (by assumption) ?_ ?_
        rotate_left
        · (intro w hSw; (try dsimp only at hSw); go_simp; try with_reducible rfl)
        simp only [Act.put, List.setIfInBounds_toArray, List.set_cons_zero, List.set_cons_succ]
        refine take_at (i := 20) (v := ?_) rfl (by kernel_rfl) (by kernel_rfl) (by kernel_rfl) (fun _ _ _ h => h) (by kernel_rfl) (by assumption) ?_ ?_
        rotate_left
        · (intro w hSw; (try dsimp only at hSw); go_simp; try with_reducible rfl)
        simp only [Act.put, List.setIfInBounds_toArray, List.set_cons_zero, List.set_cons_succ]
        refine take_at (i := 21) (v := ?_) rfl (by kernel_rfl) (by kernel_rfl) (by kernel_rfl) (fun _ _ _ h => h) (by kernel_rfl) (by assumption) ?_ ?_
        rotate_left
        · (intro w hSw; (try dsimp only at hSw); go_simp; try with_reducible rfl)
        simp only [Act.put, List.setIfInBounds_toArray, List.set_cons_zero, List.set_cons_succ]
        refine take_at (i := 22) (v := ?_) rfl (by kernel_rfl) (by kernel_rfl) (by kernel_rfl) (fun _ _ _ h => h) (by kernel_rfl) (by assumption) ?_ ?_
        rotate_left
        · (intro w hSw; (try dsimp only at hSw); go_simp; try with_reducible rfl)
        simp only [Act.put, List.setIfInBounds_toArray, List.set_cons_zero, List.set_cons_succ]
        refine take_at (i := 24) (v := ?_) rfl (by kernel_rfl) (by kernel_rfl) (by kernel_rfl) (fun _ _ _ h => h) (by kernel_rfl) (by assumption) ?_ ?_
        rotate_left
        · (intro w hSw; (try dsimp only at hSw); go_simp; try with_reducible rfl)
        simp only [Act.put, List.setIfInBounds_toArray, List.set_cons_zero, List.set_cons_succ]
        refine do_at (i := 23) rfl (by kernel_rfl) (by kernel_rfl) (fun K hK => ?_)
        go_simp
        refine (sets_lit ka kb kc kd kl 2 _).mono ?_
        rintro e v16_23 ⟨rfl, hb⟩
        have H' := H.on hb
        clear H hb hHeld
        have H := H'
        clear H'
        go_wp2_with fail
        refine hK.out _ _ ?_ (fun hHeld => ?_)
        · exact ⟨(H.get 1 rfl).1, (H.get 0 rfl).1, (H.get 2 rfl).1⟩
        clear hK K
        try simp only [Act.put, List.setIfInBounds_toArray, List.set_cons_zero, List.set_cons_succ]
        refine do_at (i := 25) rfl (by kernel_rfl) (by kernel_rfl) (fun K hK => ?_)
        go_simp
        refine (sets_lit ka kb kc kd kl 0 _).mono ?_
        rintro e v16_25 ⟨rfl, hb⟩
        have H' := H.on hb
        clear H hb hHeld
        have H := H'
        clear H'
        go_wp2_with fail
        refine hK.out _ _ ?_ (fun hHeld => ?_)
        · exact ⟨(H.get 1 rfl).1, (H.get 0 rfl).1, (H.get 2 rfl).1⟩
        clear hK K
        try simp only [Act.put, List.setIfInBounds_toArray, List.set_cons_zero, List.set_cons_succ]
        refine take_at (i := 26) (v := ?_) rfl (by kernel_rfl) (by kernel_rfl) (by kernel_rfl) (fun _ _ _ h => h) (by kernel_rfl) (by assumption) ?_ ?_
        rotate_left
        · (intro w hSw; (try dsimp only at hSw); go_simp; try with_reducible rfl)
        simp only [Act.put, List.setIfInBounds_toArray, List.set_cons_zero, List.set_cons_succ]
        refine take_at (i := 27) (v := ?_) rfl (by kernel_rfl) (by kernel_rfl) (by kernel_rfl) (fun _ _ _ h => h) (by kernel_rfl) (by assumption) ?_ ?_
        rotate_left
        · (intro w hSw; (try dsimp only at hSw); go_simp; try with_reducible rfl)
        simp only [Act.put, List.setIfInBounds_toArray, List.set_cons_zero, List.set_cons_succ]
        refine wpAnyH_done (by kernel_rfl) ?_ _
        have H4 := Lib.hid H
        clear H hHeld
        obtain ⟨w4, hw4⟩ : ∃ wx : World, wx = v16_25 := ⟨_, rfl⟩
        rw [← hw4] at H4
        rw [← hw4]
        clear hw4
        clear hq hq2
        have C := fun w => map_lit ka kb kc kd kl 2 a ka kb kc kd kl 0 (ofM kc a) rfl ⟨by simp, HL0.out⟩ w
        obtain ⟨⟨cd1, cd2, cd3, cd4, cd5, cd6⟩, fd1, fd2, fd3, fd4, fd5, fd6⟩ := H4.out.get 1 rfl
        go_wp2_with fail
        refine (C _).mono ?_
        rintro e w5 ⟨rfl, hb⟩
        have H5 := Lib.hid (H4.out.on hb)
        clear cd1 cd2 cd3 cd4 cd5 cd6 fd1 fd2 fd3 fd4 fd5 fd6
        clear hb H4
        clear C
        have hq := fun w => eqv_lit ka kb kc kd kl 0 ka kb kc kd kl 0 true (eqC_self _) w
        have C := fun w => of_lit kc a (ofM kc a) rfl w
        generalize ofM kc a = ox at *
        have hix := fun w => idx_sets ka kb kc kd 2 (by decide) kc rfl 2 rfl w
        obtain ⟨⟨cc1, cc2, cc3, cc4, cc5, cc6⟩, fc1, fc2, fc3, fc4, fc5, fc6⟩ := H5.out.get 2 rfl
        have lc := (H5.out.at 2 rfl).2.1
        go_wp2_with fail
        refine (sets_lit ka kb kc kd kl 0 _).mono ?_
        rintro e w6 ⟨rfl, hb⟩
        have H6 := Lib.hid ((H5.out.new ka kb kc kd kl 0 25).on hb)
        clear cc1 cc2 cc3 cc4 cc5 cc6 fc1 fc2 fc3 fc4 fc5 fc6 lc
        clear hb H5
        go_wp2_with fail
        refine (C _).mono ?_
        rintro e w7 ⟨rfl, hb⟩
        have H7 := Lib.hid (H6.out.on hb)
        clear hb H6
        obtain ⟨⟨cf1, cf2, cf3, cf4, cf5, cf6⟩, ff1, ff2, ff3, ff4, ff5, ff6⟩ := H7.out.get 0 rfl
        go_wp2_with fail
        refine (now_lit ka kb kc kd kl 0 kl rfl _).mono ?_
        rintro e w8 ⟨rfl, hb⟩
        have H8 := Lib.hid (H7.out.on hb)
        clear cf1 cf2 cf3 cf4 cf5 cf6 ff1 ff2 ff3 ff4 ff5 ff6
        clear hb H7
        clear hq C hix
        have HZ := Lib.hid (H8.out.tail.tail.tail)
        clear H8
        go_wp2
        go_roundg (gk - 1)
        case measure => omega
        case rel => exact ⟨3, rfl, .inr (.inl ⟨by omega, rfl⟩), HZ⟩
      · have HL0 := HL
        obtain ⟨⟨cc1, cc2, cc3, cc4, cc5, cc6⟩, fc1, fc2, fc3, fc4, fc5, fc6⟩ := H0.out.get 0 rfl
        go_wp2_with fail
        refine (one_lit ka kb kc kd kl 0 3 ka kb kc kd kl 3 true (by rfl) _).mono ?_
        rintro e w1 ⟨rfl, hb⟩
        have H1 := Lib.hid (H0.out.on hb)
        clear cc1 cc2 cc3 cc4 cc5 cc6 fc1 fc2 fc3 fc4 fc5 fc6
        clear hb H0
        go_wp2_with fail
        refine (one_lit ka kb kc kd kl 3 2 ka kb kc kd kl 2 true (by rfl) _).mono ?_
        rintro e w2 ⟨rfl, hb⟩
        have H2 := Lib.hid ((H1.out.new ka kb kc kd kl 3 25).on hb)
        clear hb H1
        go_wp2_with fail
        refine (one_lit ka kb kc kd kl 2 3 ka kb kc kd kl 3 true (by rfl) _).mono ?_
        rintro e w3 ⟨rfl, hb⟩
        have H3 := Lib.hid ((H2.out.new ka kb kc kd kl 2 25).on hb)
        clear hb H2
        obtain ⟨⟨ce1, ce2, ce3, ce4, ce5, ce6⟩, fe1, fe2, fe3, fe4, fe5, fe6⟩ := H3.out.get 0 rfl
        have hq := fun w => eqv_lit ka kb kc kd kl 3 ka kb kc kd kl 3 true (eqC_self _) w
        have hq2 := fun w => eqSets_self ka kb kc kd w
        go_upto_region 16 with (fail)
        have H := (H3.out.put 0 rfl ⟨ka, kb, kc, kd, kl, 3⟩).drew
        simp only [List.set_cons_zero] at H
        clear ce1 ce2 ce3 ce4 ce5 ce6 fe1 fe2 fe3 fe4 fe5 fe6
        clear H3
        refine wp_region_held_drew (S := fun w' => (w'.cell? ⟨w1.heap.size, 0, none⟩ = some (.int .i64 ka) ∧ w'.cell? ⟨w1.heap.size, 1, none⟩ = some (.int .i64 kb) ∧ w'.cell? ⟨w1.heap.size, 2, none⟩ = some (.int .i64 kc) ∧ w'.cell? ⟨w1.heap.size, 3, none⟩ = some (.int .i64 kd) ∧ w'.cell? ⟨w1.heap.size, 4, none⟩ = some (.int .i64 kl) ∧ w'.cell? ⟨w1.heap.size, 5, none⟩ = some (.int .i64 3)) ∧ (w'.cell? ⟨w2.heap.size, 0, none⟩ = some (.int .i64 ka) ∧ w'.cell? ⟨w2.heap.size, 1, none⟩ = some (.int .i64 kb) ∧ w'.cell? ⟨w2.heap.size, 2, none⟩ = some (.int .i64 kc) ∧ w'.cell? ⟨w2.heap.size, 3, none⟩ = some (.int .i64 kd) ∧ w'.cell? ⟨w2.heap.size, 4, none⟩ = some (.int .i64 kl) ∧ w'.cell? ⟨w2.heap.size, 5, none⟩ = some (.int .i64 3)) ∧ (w'.cell? ⟨n7, 0, none⟩ = some (.int .i64 ka) ∧ w'.cell? ⟨n7, 1, none⟩ = some (.int .i64 kb) ∧ w'.cell? ⟨n7, 2, none⟩ = some (.int .i64 kc) ∧ w'.cell? ⟨n7, 3, none⟩ = some (.int .i64 kd) ∧ w'.cell? ⟨n7, 4, none⟩ = some (.int .i64 kl) ∧ w'.cell? ⟨n7, 5, none⟩ = some (.int .i64 0))) (by kernel_rfl) ?_ (fun hHeld => ?_)
        · exact ⟨(H.get 1 rfl).1, (H.get 0 rfl).1, (H.get 2 rfl).1⟩
        refine take_at (i := 0) (v := ?_) rfl (by kernel_rfl) (by kernel_rfl) (by kernel_rfl) (fun _ _ _ h => h) (by kernel_rfl) (by assumption) ?_ ?_
        rotate_left
        · (intro w hSw; (try dsimp only at hSw); go_simp; try with_reducible rfl)
        simp only [Act.put, List.setIfInBounds_toArray, List.set_cons_zero, List.set_cons_succ]
        refine take_at (i := 1) (v := ?_) rfl (by kernel_rfl) (by kernel_rfl) (by kernel_rfl) (fun _ _ _ h => h) (by kernel_rfl) (by assumption) ?_ ?_
        rotate_left
        · (intro w hSw; (try dsimp only at hSw); go_simp; try with_reducible rfl)
        simp only [Act.put, List.setIfInBounds_toArray, List.set_cons_zero, List.set_cons_succ]
        refine take_at (i := 2) (v := ?_) rfl (by kernel_rfl) (by kernel_rfl) (by kernel_rfl) (fun _ _ _ h => h) (by kernel_rfl) (by assumption) ?_ ?_
        rotate_left
        · (intro w hSw; (try dsimp only at hSw); go_simp; try with_reducible rfl)
        simp only [Act.put, List.setIfInBounds_toArray, List.set_cons_zero, List.set_cons_succ]
        refine take_at (i := 3) (v := ?_) rfl (by kernel_rfl) (by kernel_rfl) (by kernel_rfl) (fun _ _ _ h => h) (by kernel_rfl) (by assumption) ?_ ?_
        rotate_left
        · (intro w hSw; (try dsimp only at hSw); go_simp; try with_reducible rfl)
        simp only [Act.put, List.setIfInBounds_toArray, List.set_cons_zero, List.set_cons_succ]
        refine take_at (i := 4) (v := ?_) rfl (by kernel_rfl) (by kernel_rfl) (by kernel_rfl) (fun _ _ _ h => h) (by kernel_rfl) (by assumption) ?_ ?_
        rotate_left
        · (intro w hSw; (try dsimp only at hSw); go_simp; try with_reducible rfl)
        simp only [Act.put, List.setIfInBounds_toArray, List.set_cons_zero, List.set_cons_succ]
        refine take_at (i := 5) (v := ?_) rfl (by kernel_rfl) (by kernel_rfl) (by kernel_rfl) (fun _ _ _ h => h) (by kernel_rfl) (by assumption) ?_ ?_
        rotate_left
        · (intro w hSw; (try dsimp only at hSw); go_simp; try with_reducible rfl)
        simp only [Act.put, List.setIfInBounds_toArray, List.set_cons_zero, List.set_cons_succ]
        refine take_at (i := 6) (v := ?_) rfl (by kernel_rfl) (by kernel_rfl) (by kernel_rfl) (fun _ _ _ h => h) (by kernel_rfl) (by assumption) ?_ ?_
        rotate_left
        · (intro w hSw; (try dsimp only at hSw); go_simp; try with_reducible rfl)
        simp only [Act.put, List.setIfInBounds_toArray, List.set_cons_zero, List.set_cons_succ]
        refine take_at (i := 7) (v := ?_) rfl (by kernel_rfl) (by kernel_rfl) (by kernel_rfl) (fun _ _ _ h => h) (by kernel_rfl) (by assumption) ?_ ?_
        rotate_left
        · (intro w hSw; (try dsimp only at hSw); go_simp; try with_reducible rfl)
        simp only [Act.put, List.setIfInBounds_toArray, List.set_cons_zero, List.set_cons_succ]
        refine take_at (i := 8) (v := ?_) rfl (by kernel_rfl) (by kernel_rfl) (by kernel_rfl) (fun _ _ _ h => h) (by kernel_rfl) (by assumption) ?_ ?_
        rotate_left
        · (intro w hSw; (try dsimp only at hSw); go_simp; try with_reducible rfl)
        simp only [Act.put, List.setIfInBounds_toArray, List.set_cons_zero, List.set_cons_succ]
        refine take_at (i := 9) (v := ?_) rfl (by kernel_rfl) (by kernel_rfl) (by kernel_rfl) (fun _ _ _ h => h) (by kernel_rfl) (by assumption) ?_ ?_
        rotate_left
        · (intro w hSw; (try dsimp only at hSw); go_simp; try with_reducible rfl)
        simp only [Act.put, List.setIfInBounds_toArray, List.set_cons_zero, List.set_cons_succ]
        refine take_at (i := 10) (v := ?_) rfl (by kernel_rfl) (by kernel_rfl) (by kernel_rfl) (fun _ _ _ h => h) (by kernel_rfl) (by assumption) ?_ ?_
        rotate_left
        · (intro w hSw; (try dsimp only at hSw); go_simp; try with_reducible rfl)
        simp only [Act.put, List.setIfInBounds_toArray, List.set_cons_zero, List.set_cons_succ]
        refine take_at (i := 11) (v := ?_) rfl (by kernel_rfl) (by kernel_rfl) (by kernel_rfl) (fun _ _ _ h => h) (by kernel_rfl) (by assumption) ?_ ?_
        rotate_left
        · (intro w hSw; (try dsimp only at hSw); go_simp; try with_reducible rfl)
        simp only [Act.put, List.setIfInBounds_toArray, List.set_cons_zero, List.set_cons_succ]
        refine take_at (i := 12) (v := ?_) rfl (by kernel_rfl) (by kernel_rfl) (by kernel_rfl) (fun _ _ _ h => h) (by kernel_rfl) (by assumption) ?_ ?_
        rotate_left
        · (intro w hSw; (try dsimp only at hSw); go_simp; try with_reducible rfl)
        simp only [Act.put, List.setIfInBounds_toArray, List.set_cons_zero, List.set_cons_succ]
        refine take_at (i := 13) (v := ?_) rfl (by kernel_rfl) (by kernel_rfl) (by kernel_rfl) (fun _ _ _ h => h) (by kernel_rfl) (by assumption) ?_ ?_
        rotate_left
        · (intro w hSw; (try dsimp only at hSw); go_simp; try with_reducible rfl)
        simp only [Act.put, List.setIfInBounds_toArray, List.set_cons_zero, List.set_cons_succ]
        refine take_at (i := 14) (v := ?_) rfl (by kernel_rfl) (by kernel_rfl) (by kernel_rfl) (fun _ _ _ h => h) (by kernel_rfl) (by assumption) ?_ ?_
        rotate_left
        · (intro w hSw; (try dsimp only at hSw); go_simp; try with_reducible rfl)
        simp only [Act.put, List.setIfInBounds_toArray, List.set_cons_zero, List.set_cons_succ]
        refine take_at (i := 15) (v := ?_) rfl (by kernel_rfl) (by kernel_rfl) (by kernel_rfl) (fun _ _ _ h => h) (by kernel_rfl) (by assumption) ?_ ?_
        rotate_left
        · (intro w hSw; (try dsimp only at hSw); go_simp; try with_reducible rfl)
        simp only [Act.put, List.setIfInBounds_toArray, List.set_cons_zero, List.set_cons_succ]
        refine take_at (i := 16) (v := ?_) rfl (by kernel_rfl) (by kernel_rfl) (by kernel_rfl) (fun _ _ _ h => h) (by kernel_rfl) (by assumption) ?_ ?_
        rotate_left
        · (intro w hSw; (try dsimp only at hSw); go_simp; try with_reducible rfl)
        simp only [Act.put, List.setIfInBounds_toArray, List.set_cons_zero, List.set_cons_succ]
        refine take_at (i := 18) (v := ?_) rfl (by kernel_rfl) (by kernel_rfl) (by kernel_rfl) (fun _ _ _ h => h) (by kernel_rfl) (by assumption) ?_ ?_
        rotate_left
        · (intro w hSw; (try dsimp only at hSw); go_simp; try with_reducible rfl)
        simp only [Act.put, List.setIfInBounds_toArray, List.set_cons_zero, List.set_cons_succ]
        refine do_at (i := 17) rfl (by kernel_rfl) (by kernel_rfl) (fun K hK => ?_)
        go_simp
        refine (now_lit ka kb kc kd kl 3 3 (by rfl) _).mono ?_
        rintro e v16_17 ⟨rfl, hb⟩
        have H' := H.on hb
        clear H hb hHeld
        have H := H'
        clear H'
        go_wp2_with fail
        refine hK.out _ _ ?_ (fun hHeld => ?_)
        · exact ⟨(H.get 1 rfl).1, (H.get 0 rfl).1, (H.get 2 rfl).1⟩
        clear hK K
        try simp only [Act.put, List.setIfInBounds_toArray, List.set_cons_zero, List.set_cons_succ]
        refine take_at (i := 19) (v := ?_) rfl (by kernel_rfl) (by kernel_rfl) (by kernel_rfl) (fun _ _ _ h => h) (by kernel_rfl) (by assumption) ?_ ?_
        rotate_left
        · (intro w hSw; (try dsimp only at hSw); go_simp; try with_reducible rfl)
        simp only [Act.put, List.setIfInBounds_toArray, List.set_cons_zero, List.set_cons_succ]
        refine take_at (i := 20) (v := ?_) rfl (by kernel_rfl) (by kernel_rfl) (by kernel_rfl) (fun _ _ _ h => h) (by kernel_rfl) (by assumption) ?_ ?_
        rotate_left
        · (intro w hSw; (try dsimp only at hSw); go_simp; try with_reducible rfl)
        simp only [Act.put, List.setIfInBounds_toArray, List.set_cons_zero, List.set_cons_succ]
        refine take_at (i := 21) (v := ?_) rfl (by kernel_rfl) (by kernel_rfl) (by kernel_rfl) (fun _ _ _ h => h) (by kernel_rfl) (by assumption) ?_ ?_
        rotate_left
        · (intro w hSw; (try dsimp only at hSw); go_simp; try with_reducible rfl)
        simp only [Act.put, List.setIfInBounds_toArray, List.set_cons_zero, List.set_cons_succ]
        refine take_at (i := 22) (v := ?_) rfl (by kernel_rfl) (by kernel_rfl) (by kernel_rfl) (fun _ _ _ h => h) (by kernel_rfl) (by assumption) ?_ ?_
        rotate_left
        · (intro w hSw; (try dsimp only at hSw); go_simp; try with_reducible rfl)
        simp only [Act.put, List.setIfInBounds_toArray, List.set_cons_zero, List.set_cons_succ]
        refine take_at (i := 24) (v := ?_) rfl (by kernel_rfl) (by kernel_rfl) (by kernel_rfl) (fun _ _ _ h => h) (by kernel_rfl) (by assumption) ?_ ?_
        rotate_left
        · (intro w hSw; (try dsimp only at hSw); go_simp; try with_reducible rfl)
        simp only [Act.put, List.setIfInBounds_toArray, List.set_cons_zero, List.set_cons_succ]
        refine do_at (i := 23) rfl (by kernel_rfl) (by kernel_rfl) (fun K hK => ?_)
        go_simp
        refine (sets_lit ka kb kc kd kl 3 _).mono ?_
        rintro e v16_23 ⟨rfl, hb⟩
        have H' := H.on hb
        clear H hb hHeld
        have H := H'
        clear H'
        go_wp2_with fail
        refine hK.out _ _ ?_ (fun hHeld => ?_)
        · exact ⟨(H.get 1 rfl).1, (H.get 0 rfl).1, (H.get 2 rfl).1⟩
        clear hK K
        try simp only [Act.put, List.setIfInBounds_toArray, List.set_cons_zero, List.set_cons_succ]
        refine do_at (i := 25) rfl (by kernel_rfl) (by kernel_rfl) (fun K hK => ?_)
        go_simp
        refine (sets_lit ka kb kc kd kl 0 _).mono ?_
        rintro e v16_25 ⟨rfl, hb⟩
        have H' := H.on hb
        clear H hb hHeld
        have H := H'
        clear H'
        go_wp2_with fail
        refine hK.out _ _ ?_ (fun hHeld => ?_)
        · exact ⟨(H.get 1 rfl).1, (H.get 0 rfl).1, (H.get 2 rfl).1⟩
        clear hK K
        try simp only [Act.put, List.setIfInBounds_toArray, List.set_cons_zero, List.set_cons_succ]
        refine take_at (i := 26) (v := ?_) rfl (by kernel_rfl) (by kernel_rfl) (by kernel_rfl) (fun _ _ _ h => h) (by kernel_rfl) (by assumption) ?_ ?_
        rotate_left
        · (intro w hSw; (try dsimp only at hSw); go_simp; try with_reducible rfl)
        simp only [Act.put, List.setIfInBounds_toArray, List.set_cons_zero, List.set_cons_succ]
        refine take_at (i := 27) (v := ?_) rfl (by kernel_rfl) (by kernel_rfl) (by kernel_rfl) (fun _ _ _ h => h) (by kernel_rfl) (by assumption) ?_ ?_
        rotate_left
        · (intro w hSw; (try dsimp only at hSw); go_simp; try with_reducible rfl)
        simp only [Act.put, List.setIfInBounds_toArray, List.set_cons_zero, List.set_cons_succ]
        refine wpAnyH_done (by kernel_rfl) ?_ _
        have H4 := Lib.hid H
        clear H hHeld
        obtain ⟨w4, hw4⟩ : ∃ wx : World, wx = v16_25 := ⟨_, rfl⟩
        rw [← hw4] at H4
        rw [← hw4]
        clear hw4
        clear hq hq2
        have C := fun w => map_lit ka kb kc kd kl 3 a ka kb kc kd kl 0 (ofM kd a) rfl ⟨by simp, HL0.out⟩ w
        obtain ⟨⟨cd1, cd2, cd3, cd4, cd5, cd6⟩, fd1, fd2, fd3, fd4, fd5, fd6⟩ := H4.out.get 1 rfl
        go_wp2_with fail
        refine (C _).mono ?_
        rintro e w5 ⟨rfl, hb⟩
        have H5 := Lib.hid (H4.out.on hb)
        clear cd1 cd2 cd3 cd4 cd5 cd6 fd1 fd2 fd3 fd4 fd5 fd6
        clear hb H4
        clear C
        have hq := fun w => eqv_lit ka kb kc kd kl 0 ka kb kc kd kl 0 true (eqC_self _) w
        have C := fun w => of_lit kd a (ofM kd a) rfl w
        generalize ofM kd a = ox at *
        have hix := fun w => idx_sets ka kb kc kd 3 (by decide) kd rfl 3 rfl w
        obtain ⟨⟨cc1, cc2, cc3, cc4, cc5, cc6⟩, fc1, fc2, fc3, fc4, fc5, fc6⟩ := H5.out.get 2 rfl
        have lc := (H5.out.at 2 rfl).2.1
        go_wp2_with fail
        refine (sets_lit ka kb kc kd kl 0 _).mono ?_
        rintro e w6 ⟨rfl, hb⟩
        have H6 := Lib.hid ((H5.out.new ka kb kc kd kl 0 25).on hb)
        clear cc1 cc2 cc3 cc4 cc5 cc6 fc1 fc2 fc3 fc4 fc5 fc6 lc
        clear hb H5
        go_wp2_with fail
        refine (C _).mono ?_
        rintro e w7 ⟨rfl, hb⟩
        have H7 := Lib.hid (H6.out.on hb)
        clear hb H6
        obtain ⟨⟨cf1, cf2, cf3, cf4, cf5, cf6⟩, ff1, ff2, ff3, ff4, ff5, ff6⟩ := H7.out.get 0 rfl
        go_wp2_with fail
        refine (now_lit ka kb kc kd kl 0 kl rfl _).mono ?_
        rintro e w8 ⟨rfl, hb⟩
        have H8 := Lib.hid (H7.out.on hb)
        clear cf1 cf2 cf3 cf4 cf5 cf6 ff1 ff2 ff3 ff4 ff5 ff6
        clear hb H7
        clear hq C hix
        have HZ := Lib.hid (H8.out.tail.tail.tail)
        clear H8
        go_wp2
        go_roundg (gk - 1)
        case measure => omega
        case rel => exact ⟨4, rfl, .inr (.inr ⟨by omega, rfl⟩), HZ⟩
      · rcases HL.out with rfl | rfl
        · have C1 := fun w => map_lit ka kb kc kd 0 0 a ka kb kc kd 0 0 (ofM ka a) rfl ⟨by simp, by simp⟩ w
          have C2 := fun w => map_lit ka kb kc kd 0 0 b ka kb kc kd 0 0 (ofM ka b) rfl ⟨by simp, by simp⟩ w
          have C3 := fun w => of_lit ka a (ofM ka a) rfl w
          have C4 := fun w => of_lit ka b (ofM ka b) rfl w
          generalize ofM ka a = oa at *
          generalize ofM ka b = ob at *
          clear HOK HL
          have hq := fun w => eqv_lit ka kb kc kd 0 0 ka kb kc kd 0 0 true (eqC_self _) w
          have hix := fun w => idx_sets ka kb kc kd 0 (by decide) ka rfl 0 rfl w
          obtain ⟨⟨cc1, cc2, cc3, cc4, cc5, cc6⟩, fc1, fc2, fc3, fc4, fc5, fc6⟩ := H0.out.get 0 rfl
          go_wp2_with fail
          refine (C1 _).mono ?_
          rintro e w1 ⟨rfl, hb⟩
          have H1 := Lib.hid (H0.out.on hb)
          clear cc1 cc2 cc3 cc4 cc5 cc6 fc1 fc2 fc3 fc4 fc5 fc6
          clear hb H0
          go_wp2_with fail
          refine (C2 _).mono ?_
          rintro e w2 ⟨rfl, hb⟩
          have H2 := Lib.hid ((H1.out.new ka kb kc kd 0 0 25).on hb)
          clear hb H1
          obtain ⟨⟨cd1, cd2, cd3, cd4, cd5, cd6⟩, fd1, fd2, fd3, fd4, fd5, fd6⟩ := H2.out.get 0 rfl
          have ld := (H2.out.at 0 rfl).2.1
          obtain ⟨⟨cc1, cc2, cc3, cc4, cc5, cc6⟩, fc1, fc2, fc3, fc4, fc5, fc6⟩ := H2.out.get 1 rfl
          have lc := (H2.out.at 1 rfl).2.1
          go_wp2_with fail
          refine (sets_lit ka kb kc kd 0 0 _).mono ?_
          rintro e w3 ⟨rfl, hb⟩
          have H3 := Lib.hid ((H2.out.new ka kb kc kd 0 0 25).on hb)
          clear cd1 cd2 cd3 cd4 cd5 cd6 fd1 fd2 fd3 fd4 fd5 fd6 ld
          clear cc1 cc2 cc3 cc4 cc5 cc6 fc1 fc2 fc3 fc4 fc5 fc6 lc
          clear hb H2
          go_wp2_with fail
          refine (C3 _).mono ?_
          rintro e w4 ⟨rfl, hb⟩
          have H4 := Lib.hid (H3.out.on hb)
          clear hb H3
          obtain ⟨⟨cc1, cc2, cc3, cc4, cc5, cc6⟩, fc1, fc2, fc3, fc4, fc5, fc6⟩ := H4.out.get 2 rfl
          go_wp2_with fail
          refine (sets_lit ka kb kc kd 0 0 _).mono ?_
          rintro e w5 ⟨rfl, hb⟩
          have H5 := Lib.hid (H4.out.on hb)
          clear cc1 cc2 cc3 cc4 cc5 cc6 fc1 fc2 fc3 fc4 fc5 fc6
          clear hb H4
          go_wp2_with fail
          refine (C4 _).mono ?_
          rintro e w6 ⟨rfl, hb⟩
          have H6 := Lib.hid (H5.out.on hb)
          clear hb H5
          clear C1 C2 C3 C4
          obtain ⟨⟨cc1, cc2, cc3, cc4, cc5, cc6⟩, fc1, fc2, fc3, fc4, fc5, fc6⟩ := H6.out.get 2 rfl
          go_wp2_with fail
          refine (lock_lit ka kb kc kd 0 0 14 ka kb kc kd 1 0 true rfl _).mono ?_
          rintro e w7 ⟨rfl, hb⟩
          have H7 := Lib.hid (H6.out.on hb)
          clear cc1 cc2 cc3 cc4 cc5 cc6 fc1 fc2 fc3 fc4 fc5 fc6
          clear hb H6
          go_wp2_with fail
          refine (lock_lit ka kb kc kd 1 0 15 ka kb kc kd 0 0 true rfl _).mono ?_
          rintro e w8 ⟨rfl, hb⟩
          have H8 := Lib.hid ((H7.out.new ka kb kc kd 1 0 25).on hb)
          clear hb H7
          clear hq hix
          have hq := fun w => eqv_lit ka kb kc kd 0 0 ka kb kc kd 0 0 true (eqC_self _) w
          have hq2 := fun w => eqSets_self ka kb kc kd w
          go_upto_region 27 with (fail)
          have H := (H8.out.new ka kb kc kd 0 0 25).drew
          clear H8
          refine wp_region_held_drew (S := fun w' => (w'.cell? ⟨w7.heap.size, 0, none⟩ = some (.int .i64 ka) ∧ w'.cell? ⟨w7.heap.size, 1, none⟩ = some (.int .i64 kb) ∧ w'.cell? ⟨w7.heap.size, 2, none⟩ = some (.int .i64 kc) ∧ w'.cell? ⟨w7.heap.size, 3, none⟩ = some (.int .i64 kd) ∧ w'.cell? ⟨w7.heap.size, 4, none⟩ = some (.int .i64 1) ∧ w'.cell? ⟨w7.heap.size, 5, none⟩ = some (.int .i64 0)) ∧ (w'.cell? ⟨w8.heap.size, 0, none⟩ = some (.int .i64 ka) ∧ w'.cell? ⟨w8.heap.size, 1, none⟩ = some (.int .i64 kb) ∧ w'.cell? ⟨w8.heap.size, 2, none⟩ = some (.int .i64 kc) ∧ w'.cell? ⟨w8.heap.size, 3, none⟩ = some (.int .i64 kd) ∧ w'.cell? ⟨w8.heap.size, 4, none⟩ = some (.int .i64 0) ∧ w'.cell? ⟨w8.heap.size, 5, none⟩ = some (.int .i64 0)) ∧ (w'.cell? ⟨n7, 0, none⟩ = some (.int .i64 ka) ∧ w'.cell? ⟨n7, 1, none⟩ = some (.int .i64 kb) ∧ w'.cell? ⟨n7, 2, none⟩ = some (.int .i64 kc) ∧ w'.cell? ⟨n7, 3, none⟩ = some (.int .i64 kd) ∧ w'.cell? ⟨n7, 4, none⟩ = some (.int .i64 0) ∧ w'.cell? ⟨n7, 5, none⟩ = some (.int .i64 0))) (by kernel_rfl) ?_ (fun hHeld => ?_)
          · exact ⟨(H.get 1 rfl).1, (H.get 0 rfl).1, (H.get 4 rfl).1⟩
          refine take_at (i := 0) (v := ?_) rfl (by kernel_rfl) (by kernel_rfl) (by kernel_rfl) (fun _ _ _ h => h) (by kernel_rfl) (by assumption) ?_ ?_
          rotate_left
          · (intro w hSw; (try dsimp only at hSw); go_simp; try with_reducible rfl)
          simp only [Act.put, List.setIfInBounds_toArray, List.set_cons_zero, List.set_cons_succ]
          refine do_at (i := 1) rfl (by kernel_rfl) (by kernel_rfl) (fun K hK => ?_)
          go_simp
          refine (now_lit ka kb kc kd 1 0 1 rfl _).mono ?_
          rintro e v27_1 ⟨rfl, hb⟩
          have H' := H.on hb
          clear H hb hHeld
          have H := H'
          clear H'
          go_wp2_with fail
          refine hK.out _ _ ?_ (fun hHeld => ?_)
          · exact ⟨(H.get 1 rfl).1, (H.get 0 rfl).1, (H.get 4 rfl).1⟩
          clear hK K
          try simp only [Act.put, List.setIfInBounds_toArray, List.set_cons_zero, List.set_cons_succ]
          refine take_at (i := 2) (v := ?_) rfl (by kernel_rfl) (by kernel_rfl) (by kernel_rfl) (fun _ _ _ h => h) (by kernel_rfl) (by assumption) ?_ ?_
          rotate_left
          · (intro w hSw; (try dsimp only at hSw); go_simp; try with_reducible rfl)
          simp only [Act.put, List.setIfInBounds_toArray, List.set_cons_zero, List.set_cons_succ]
          refine take_at (i := 3) (v := ?_) rfl (by kernel_rfl) (by kernel_rfl) (by kernel_rfl) (fun _ _ _ h => h) (by kernel_rfl) (by assumption) ?_ ?_
          rotate_left
          · (intro w hSw; (try dsimp only at hSw); go_simp; try with_reducible rfl)
          simp only [Act.put, List.setIfInBounds_toArray, List.set_cons_zero, List.set_cons_succ]
          refine take_at (i := 4) (v := ?_) rfl (by kernel_rfl) (by kernel_rfl) (by kernel_rfl) (fun _ _ _ h => h) (by kernel_rfl) (by assumption) ?_ ?_
          rotate_left
          · (intro w hSw; (try dsimp only at hSw); go_simp; try with_reducible rfl)
          simp only [Act.put, List.setIfInBounds_toArray, List.set_cons_zero, List.set_cons_succ]
          refine do_at (i := 5) rfl (by kernel_rfl) (by kernel_rfl) (fun K hK => ?_)
          go_simp
          refine (now_lit ka kb kc kd 0 0 0 rfl _).mono ?_
          rintro e v27_5 ⟨rfl, hb⟩
          have H' := H.on hb
          clear H hb hHeld
          have H := H'
          clear H'
          go_wp2_with fail
          refine hK.out _ _ ?_ (fun hHeld => ?_)
          · exact ⟨(H.get 1 rfl).1, (H.get 0 rfl).1, (H.get 4 rfl).1⟩
          clear hK K
          try simp only [Act.put, List.setIfInBounds_toArray, List.set_cons_zero, List.set_cons_succ]
          refine take_at (i := 6) (v := ?_) rfl (by kernel_rfl) (by kernel_rfl) (by kernel_rfl) (fun _ _ _ h => h) (by kernel_rfl) (by assumption) ?_ ?_
          rotate_left
          · (intro w hSw; (try dsimp only at hSw); go_simp; try with_reducible rfl)
          simp only [Act.put, List.setIfInBounds_toArray, List.set_cons_zero, List.set_cons_succ]
          refine take_at (i := 7) (v := ?_) rfl (by kernel_rfl) (by kernel_rfl) (by kernel_rfl) (fun _ _ _ h => h) (by kernel_rfl) (by assumption) ?_ ?_
          rotate_left
          · (intro w hSw; (try dsimp only at hSw); go_simp; try with_reducible rfl)
          simp only [Act.put, List.setIfInBounds_toArray, List.set_cons_zero, List.set_cons_succ]
          refine take_at (i := 8) (v := ?_) rfl (by kernel_rfl) (by kernel_rfl) (by kernel_rfl) (fun _ _ _ h => h) (by kernel_rfl) (by assumption) ?_ ?_
          rotate_left
          · (intro w hSw; (try dsimp only at hSw); go_simp; try with_reducible rfl)
          simp only [Act.put, List.setIfInBounds_toArray, List.set_cons_zero, List.set_cons_succ]
          refine take_at (i := 9) (v := ?_) rfl (by kernel_rfl) (by kernel_rfl) (by kernel_rfl) (fun _ _ _ h => h) (by kernel_rfl) (by assumption) ?_ ?_
          rotate_left
          · (intro w hSw; (try dsimp only at hSw); go_simp; try with_reducible rfl)
          simp only [Act.put, List.setIfInBounds_toArray, List.set_cons_zero, List.set_cons_succ]
          refine take_at (i := 11) (v := ?_) rfl (by kernel_rfl) (by kernel_rfl) (by kernel_rfl) (fun _ _ _ h => h) (by kernel_rfl) (by assumption) ?_ ?_
          rotate_left
          · (intro w hSw; (try dsimp only at hSw); go_simp; try with_reducible rfl)
          simp only [Act.put, List.setIfInBounds_toArray, List.set_cons_zero, List.set_cons_succ]
          refine do_at (i := 10) rfl (by kernel_rfl) (by kernel_rfl) (fun K hK => ?_)
          go_simp
          refine (sets_lit ka kb kc kd 1 0 _).mono ?_
          rintro e v27_10 ⟨rfl, hb⟩
          have H' := H.on hb
          clear H hb hHeld
          have H := H'
          clear H'
          go_wp2_with fail
          refine hK.out _ _ ?_ (fun hHeld => ?_)
          · exact ⟨(H.get 1 rfl).1, (H.get 0 rfl).1, (H.get 4 rfl).1⟩
          clear hK K
          try simp only [Act.put, List.setIfInBounds_toArray, List.set_cons_zero, List.set_cons_succ]
          refine do_at (i := 12) rfl (by kernel_rfl) (by kernel_rfl) (fun K hK => ?_)
          go_simp
          refine (sets_lit ka kb kc kd 0 0 _).mono ?_
          rintro e v27_12 ⟨rfl, hb⟩
          have H' := H.on hb
          clear H hb hHeld
          have H := H'
          clear H'
          go_wp2_with fail
          refine hK.out _ _ ?_ (fun hHeld => ?_)
          · exact ⟨(H.get 1 rfl).1, (H.get 0 rfl).1, (H.get 4 rfl).1⟩
          clear hK K
          try simp only [Act.put, List.setIfInBounds_toArray, List.set_cons_zero, List.set_cons_succ]
          refine take_at (i := 13) (v := ?_) rfl (by kernel_rfl) (by kernel_rfl) (by kernel_rfl) (fun _ _ _ h => h) (by kernel_rfl) (by assumption) ?_ ?_
          rotate_left
          · (intro w hSw; (try dsimp only at hSw); go_simp; try with_reducible rfl)
          simp only [Act.put, List.setIfInBounds_toArray, List.set_cons_zero, List.set_cons_succ]
          refine take_at (i := 14) (v := ?_) rfl (by kernel_rfl) (by kernel_rfl) (by kernel_rfl) (fun _ _ _ h => h) (by kernel_rfl) (by assumption) ?_ ?_
          rotate_left
          · (intro w hSw; (try dsimp only at hSw); go_simp; try with_reducible rfl)
          simp only [Act.put, List.setIfInBounds_toArray, List.set_cons_zero, List.set_cons_succ]
          refine take_at (i := 15) (v := ?_) rfl (by kernel_rfl) (by kernel_rfl) (by kernel_rfl) (fun _ _ _ h => h) (by kernel_rfl) (by assumption) ?_ ?_
          rotate_left
          · (intro w hSw; (try dsimp only at hSw); go_simp; try with_reducible rfl)
          simp only [Act.put, List.setIfInBounds_toArray, List.set_cons_zero, List.set_cons_succ]
          refine take_at (i := 16) (v := ?_) rfl (by kernel_rfl) (by kernel_rfl) (by kernel_rfl) (fun _ _ _ h => h) (by kernel_rfl) (by assumption) ?_ ?_
          rotate_left
          · (intro w hSw; (try dsimp only at hSw); go_simp; try with_reducible rfl)
          simp only [Act.put, List.setIfInBounds_toArray, List.set_cons_zero, List.set_cons_succ]
          refine take_at (i := 17) (v := ?_) rfl (by kernel_rfl) (by kernel_rfl) (by kernel_rfl) (fun _ _ _ h => h) (by kernel_rfl) (by assumption) ?_ ?_
          rotate_left
          · (intro w hSw; (try dsimp only at hSw); go_simp; try with_reducible rfl)
          simp only [Act.put, List.setIfInBounds_toArray, List.set_cons_zero, List.set_cons_succ]
          refine take_at (i := 18) (v := ?_) rfl (by kernel_rfl) (by kernel_rfl) (by kernel_rfl) (fun _ _ _ h => h) (by kernel_rfl) (by assumption) ?_ ?_
          rotate_left
          · (intro w hSw; (try dsimp only at hSw); go_simp; try with_reducible rfl)
          simp only [Act.put, List.setIfInBounds_toArray, List.set_cons_zero, List.set_cons_succ]
          refine take_at (i := 19) (v := ?_) rfl (by kernel_rfl) (by kernel_rfl) (by kernel_rfl) (fun _ _ _ h => h) (by kernel_rfl) (by assumption) ?_ ?_
          rotate_left
          · (intro w hSw; (try dsimp only at hSw); go_simp; try with_reducible rfl)
          simp only [Act.put, List.setIfInBounds_toArray, List.set_cons_zero, List.set_cons_succ]
          refine skip_at (i := 20) rfl (by kernel_rfl) (by kernel_rfl) (by kernel_rfl) (fun _ _ _ h => h) (by kernel_rfl) (by assumption) ?_
          simp only [Act.put, List.setIfInBounds_toArray, List.set_cons_zero, List.set_cons_succ]
          refine skip_at (i := 21) rfl (by kernel_rfl) (by kernel_rfl) (by kernel_rfl) (fun _ _ _ h => h) (by kernel_rfl) (by assumption) ?_
          simp only [Act.put, List.setIfInBounds_toArray, List.set_cons_zero, List.set_cons_succ]
          refine skip_at (i := 22) rfl (by kernel_rfl) (by kernel_rfl) (by kernel_rfl) (fun _ _ _ h => h) (by kernel_rfl) (by assumption) ?_
          simp only [Act.put, List.setIfInBounds_toArray, List.set_cons_zero, List.set_cons_succ]
          refine take_at (i := 23) (v := ?_) rfl (by kernel_rfl) (by kernel_rfl) (by kernel_rfl) (fun _ _ _ h => h) (by kernel_rfl) (by assumption) ?_ ?_
          rotate_left
          · (intro w hSw; (try dsimp only at hSw); go_simp; try with_reducible rfl)
          simp only [Act.put, List.setIfInBounds_toArray, List.set_cons_zero, List.set_cons_succ]
          refine take_at (i := 24) (v := ?_) rfl (by kernel_rfl) (by kernel_rfl) (by kernel_rfl) (fun _ _ _ h => h) (by kernel_rfl) (by assumption) ?_ ?_
          rotate_left
          · (intro w hSw; (try dsimp only at hSw); go_simp; try with_reducible rfl)
          simp only [Act.put, List.setIfInBounds_toArray, List.set_cons_zero, List.set_cons_succ]
          refine take_at (i := 25) (v := ?_) rfl (by kernel_rfl) (by kernel_rfl) (by kernel_rfl) (fun _ _ _ h => h) (by kernel_rfl) (by assumption) ?_ ?_
          rotate_left
          · (intro w hSw; (try dsimp only at hSw); go_simp; try with_reducible rfl)
          simp only [Act.put, List.setIfInBounds_toArray, List.set_cons_zero, List.set_cons_succ]
          refine wpAnyH_done (by kernel_rfl) ?_ _
          have H9 := Lib.hid H
          clear H hHeld
          obtain ⟨w9, hw9⟩ : ∃ wx : World, wx = v27_12 := ⟨_, rfl⟩
          rw [← hw9] at H9
          rw [← hw9]
          clear hw9
          go_wp2
          go_ret
          exact ⟨rfl, H9.out.1⟩
        · have C1 := fun w => map_lit ka kb kc kd 1 0 a ka kb kc kd 1 0 (ofM kb a) rfl ⟨by simp, by simp⟩ w
          have C2 := fun w => map_lit ka kb kc kd 1 0 b ka kb kc kd 1 0 (ofM kb b) rfl ⟨by simp, by simp⟩ w
          have C3 := fun w => of_lit kb a (ofM kb a) rfl w
          have C4 := fun w => of_lit kb b (ofM kb b) rfl w
          generalize ofM kb a = oa at *
          generalize ofM kb b = ob at *
          clear HOK HL
          have hq := fun w => eqv_lit ka kb kc kd 1 0 ka kb kc kd 1 0 true (eqC_self _) w
          have hix := fun w => idx_sets ka kb kc kd 1 (by decide) kb rfl 1 rfl w
          obtain ⟨⟨cc1, cc2, cc3, cc4, cc5, cc6⟩, fc1, fc2, fc3, fc4, fc5, fc6⟩ := H0.out.get 0 rfl
          go_wp2_with fail
          refine (C1 _).mono ?_
          rintro e w1 ⟨rfl, hb⟩
          have H1 := Lib.hid (H0.out.on hb)
          clear cc1 cc2 cc3 cc4 cc5 cc6 fc1 fc2 fc3 fc4 fc5 fc6
          clear hb H0
          go_wp2_with fail
          refine (C2 _).mono ?_
          rintro e w2 ⟨rfl, hb⟩
          have H2 := Lib.hid ((H1.out.new ka kb kc kd 1 0 25).on hb)
          clear hb H1
          obtain ⟨⟨cd1, cd2, cd3, cd4, cd5, cd6⟩, fd1, fd2, fd3, fd4, fd5, fd6⟩ := H2.out.get 0 rfl
          have ld := (H2.out.at 0 rfl).2.1
          obtain ⟨⟨cc1, cc2, cc3, cc4, cc5, cc6⟩, fc1, fc2, fc3, fc4, fc5, fc6⟩ := H2.out.get 1 rfl
          have lc := (H2.out.at 1 rfl).2.1
          go_wp2_with fail
          refine (sets_lit ka kb kc kd 1 0 _).mono ?_
          rintro e w3 ⟨rfl, hb⟩
          have H3 := Lib.hid ((H2.out.new ka kb kc kd 1 0 25).on hb)
          clear cd1 cd2 cd3 cd4 cd5 cd6 fd1 fd2 fd3 fd4 fd5 fd6 ld
          clear cc1 cc2 cc3 cc4 cc5 cc6 fc1 fc2 fc3 fc4 fc5 fc6 lc
          clear hb H2
          go_wp2_with fail
          refine (C3 _).mono ?_
          rintro e w4 ⟨rfl, hb⟩
          have H4 := Lib.hid (H3.out.on hb)
          clear hb H3
          obtain ⟨⟨cc1, cc2, cc3, cc4, cc5, cc6⟩, fc1, fc2, fc3, fc4, fc5, fc6⟩ := H4.out.get 2 rfl
          go_wp2_with fail
          refine (sets_lit ka kb kc kd 1 0 _).mono ?_
          rintro e w5 ⟨rfl, hb⟩
          have H5 := Lib.hid (H4.out.on hb)
          clear cc1 cc2 cc3 cc4 cc5 cc6 fc1 fc2 fc3 fc4 fc5 fc6
          clear hb H4
          go_wp2_with fail
          refine (C4 _).mono ?_
          rintro e w6 ⟨rfl, hb⟩
          have H6 := Lib.hid (H5.out.on hb)
          clear hb H5
          clear C1 C2 C3 C4
          obtain ⟨⟨cc1, cc2, cc3, cc4, cc5, cc6⟩, fc1, fc2, fc3, fc4, fc5, fc6⟩ := H6.out.get 2 rfl
          go_wp2_with fail
          refine (lock_lit ka kb kc kd 1 0 14 ka kb kc kd 1 0 true rfl _).mono ?_
          rintro e w7 ⟨rfl, hb⟩
          have H7 := Lib.hid (H6.out.on hb)
          clear cc1 cc2 cc3 cc4 cc5 cc6 fc1 fc2 fc3 fc4 fc5 fc6
          clear hb H6
          go_wp2_with fail
          refine (lock_lit ka kb kc kd 1 0 15 ka kb kc kd 0 0 true rfl _).mono ?_
          rintro e w8 ⟨rfl, hb⟩
          have H8 := Lib.hid ((H7.out.new ka kb kc kd 1 0 25).on hb)
          clear hb H7
          clear hq hix
          have hq := fun w => eqv_lit ka kb kc kd 0 0 ka kb kc kd 1 0 false (by simp [eqC]) w
          have hq3 := fun w => eqv_lit ka kb kc kd 1 0 ka kb kc kd 1 0 true (eqC_self _) w
          have hq2 := fun w => eqSets_self ka kb kc kd w
          go_upto_region 27 with (fail)
          have H := (H8.out.new ka kb kc kd 0 0 25).drew
          clear H8
          refine wp_region_held_drew (S := fun w' => (w'.cell? ⟨w7.heap.size, 0, none⟩ = some (.int .i64 ka) ∧ w'.cell? ⟨w7.heap.size, 1, none⟩ = some (.int .i64 kb) ∧ w'.cell? ⟨w7.heap.size, 2, none⟩ = some (.int .i64 kc) ∧ w'.cell? ⟨w7.heap.size, 3, none⟩ = some (.int .i64 kd) ∧ w'.cell? ⟨w7.heap.size, 4, none⟩ = some (.int .i64 1) ∧ w'.cell? ⟨w7.heap.size, 5, none⟩ = some (.int .i64 0)) ∧ (w'.cell? ⟨w8.heap.size, 0, none⟩ = some (.int .i64 ka) ∧ w'.cell? ⟨w8.heap.size, 1, none⟩ = some (.int .i64 kb) ∧ w'.cell? ⟨w8.heap.size, 2, none⟩ = some (.int .i64 kc) ∧ w'.cell? ⟨w8.heap.size, 3, none⟩ = some (.int .i64 kd) ∧ w'.cell? ⟨w8.heap.size, 4, none⟩ = some (.int .i64 0) ∧ w'.cell? ⟨w8.heap.size, 5, none⟩ = some (.int .i64 0)) ∧ (w'.cell? ⟨n7, 0, none⟩ = some (.int .i64 ka) ∧ w'.cell? ⟨n7, 1, none⟩ = some (.int .i64 kb) ∧ w'.cell? ⟨n7, 2, none⟩ = some (.int .i64 kc) ∧ w'.cell? ⟨n7, 3, none⟩ = some (.int .i64 kd) ∧ w'.cell? ⟨n7, 4, none⟩ = some (.int .i64 1) ∧ w'.cell? ⟨n7, 5, none⟩ = some (.int .i64 0))) (by kernel_rfl) ?_ (fun hHeld => ?_)
          · exact ⟨(H.get 1 rfl).1, (H.get 0 rfl).1, (H.get 4 rfl).1⟩
          refine take_at (i := 0) (v := ?_) rfl (by kernel_rfl) (by kernel_rfl) (by kernel_rfl) (fun _ _ _ h => h) (by kernel_rfl) (by assumption) ?_ ?_
          rotate_left
          · (intro w hSw; (try dsimp only at hSw); go_simp; try with_reducible rfl)
          simp only [Act.put, List.setIfInBounds_toArray, List.set_cons_zero, List.set_cons_succ]
          refine do_at (i := 1) rfl (by kernel_rfl) (by kernel_rfl) (fun K hK => ?_)
          go_simp
          refine (now_lit ka kb kc kd 1 0 1 rfl _).mono ?_
          rintro e v27_1 ⟨rfl, hb⟩
          have H' := H.on hb
          clear H hb hHeld
          have H := H'
          clear H'
          go_wp2_with fail
          refine hK.out _ _ ?_ (fun hHeld => ?_)
          · exact ⟨(H.get 1 rfl).1, (H.get 0 rfl).1, (H.get 4 rfl).1⟩
          clear hK K
          try simp only [Act.put, List.setIfInBounds_toArray, List.set_cons_zero, List.set_cons_succ]
          refine take_at (i := 2) (v := ?_) rfl (by kernel_rfl) (by kernel_rfl) (by kernel_rfl) (fun _ _ _ h => h) (by kernel_rfl) (by assumption) ?_ ?_
          rotate_left
          · (intro w hSw; (try dsimp only at hSw); go_simp; try with_reducible rfl)
          simp only [Act.put, List.setIfInBounds_toArray, List.set_cons_zero, List.set_cons_succ]
          refine take_at (i := 3) (v := ?_) rfl (by kernel_rfl) (by kernel_rfl) (by kernel_rfl) (fun _ _ _ h => h) (by kernel_rfl) (by assumption) ?_ ?_
          rotate_left
          · (intro w hSw; (try dsimp only at hSw); go_simp; try with_reducible rfl)
          simp only [Act.put, List.setIfInBounds_toArray, List.set_cons_zero, List.set_cons_succ]
          refine take_at (i := 4) (v := ?_) rfl (by kernel_rfl) (by kernel_rfl) (by kernel_rfl) (fun _ _ _ h => h) (by kernel_rfl) (by assumption) ?_ ?_
          rotate_left
          · (intro w hSw; (try dsimp only at hSw); go_simp; try with_reducible rfl)
          simp only [Act.put, List.setIfInBounds_toArray, List.set_cons_zero, List.set_cons_succ]
          refine do_at (i := 5) rfl (by kernel_rfl) (by kernel_rfl) (fun K hK => ?_)
          go_simp
          refine (now_lit ka kb kc kd 0 0 0 rfl _).mono ?_
          rintro e v27_5 ⟨rfl, hb⟩
          have H' := H.on hb
          clear H hb hHeld
          have H := H'
          clear H'
          go_wp2_with fail
          refine hK.out _ _ ?_ (fun hHeld => ?_)
          · exact ⟨(H.get 1 rfl).1, (H.get 0 rfl).1, (H.get 4 rfl).1⟩
          clear hK K
          try simp only [Act.put, List.setIfInBounds_toArray, List.set_cons_zero, List.set_cons_succ]
          refine take_at (i := 6) (v := ?_) rfl (by kernel_rfl) (by kernel_rfl) (by kernel_rfl) (fun _ _ _ h => h) (by kernel_rfl) (by assumption) ?_ ?_
          rotate_left
          · (intro w hSw; (try dsimp only at hSw); go_simp; try with_reducible rfl)
          simp only [Act.put, List.setIfInBounds_toArray, List.set_cons_zero, List.set_cons_succ]
          refine take_at (i := 7) (v := ?_) rfl (by kernel_rfl) (by kernel_rfl) (by kernel_rfl) (fun _ _ _ h => h) (by kernel_rfl) (by assumption) ?_ ?_
          rotate_left
          · (intro w hSw; (try dsimp only at hSw); go_simp; try with_reducible rfl)
          simp only [Act.put, List.setIfInBounds_toArray, List.set_cons_zero, List.set_cons_succ]
          refine take_at (i := 8) (v := ?_) rfl (by kernel_rfl) (by kernel_rfl) (by kernel_rfl) (fun _ _ _ h => h) (by kernel_rfl) (by assumption) ?_ ?_
          rotate_left
          · (intro w hSw; (try dsimp only at hSw); go_simp; try with_reducible rfl)
          simp only [Act.put, List.setIfInBounds_toArray, List.set_cons_zero, List.set_cons_succ]
          refine take_at (i := 9) (v := ?_) rfl (by kernel_rfl) (by kernel_rfl) (by kernel_rfl) (fun _ _ _ h => h) (by kernel_rfl) (by assumption) ?_ ?_
          rotate_left
          · (intro w hSw; (try dsimp only at hSw); go_simp; try with_reducible rfl)
          simp only [Act.put, List.setIfInBounds_toArray, List.set_cons_zero, List.set_cons_succ]
          refine take_at (i := 11) (v := ?_) rfl (by kernel_rfl) (by kernel_rfl) (by kernel_rfl) (fun _ _ _ h => h) (by kernel_rfl) (by assumption) ?_ ?_
          rotate_left
          · (intro w hSw; (try dsimp only at hSw); go_simp; try with_reducible rfl)
          simp only [Act.put, List.setIfInBounds_toArray, List.set_cons_zero, List.set_cons_succ]
          refine do_at (i := 10) rfl (by kernel_rfl) (by kernel_rfl) (fun K hK => ?_)
          go_simp
          refine (sets_lit ka kb kc kd 1 0 _).mono ?_
          rintro e v27_10 ⟨rfl, hb⟩
          have H' := H.on hb
          clear H hb hHeld
          have H := H'
          clear H'
          go_wp2_with fail
          refine hK.out _ _ ?_ (fun hHeld => ?_)
          · exact ⟨(H.get 1 rfl).1, (H.get 0 rfl).1, (H.get 4 rfl).1⟩
          clear hK K
          try simp only [Act.put, List.setIfInBounds_toArray, List.set_cons_zero, List.set_cons_succ]
          refine do_at (i := 12) rfl (by kernel_rfl) (by kernel_rfl) (fun K hK => ?_)
          go_simp
          refine (sets_lit ka kb kc kd 1 0 _).mono ?_
          rintro e v27_12 ⟨rfl, hb⟩
          have H' := H.on hb
          clear H hb hHeld
          have H := H'
          clear H'
          go_wp2_with fail
          refine hK.out _ _ ?_ (fun hHeld => ?_)
          · exact ⟨(H.get 1 rfl).1, (H.get 0 rfl).1, (H.get 4 rfl).1⟩
          clear hK K
          try simp only [Act.put, List.setIfInBounds_toArray, List.set_cons_zero, List.set_cons_succ]
          refine take_at (i := 13) (v := ?_) rfl (by kernel_rfl) (by kernel_rfl) (by kernel_rfl) (fun _ _ _ h => h) (by kernel_rfl) (by assumption) ?_ ?_
          rotate_left
          · (intro w hSw; (try dsimp only at hSw); go_simp; try with_reducible rfl)
          simp only [Act.put, List.setIfInBounds_toArray, List.set_cons_zero, List.set_cons_succ]
          refine take_at (i := 14) (v := ?_) rfl (by kernel_rfl) (by kernel_rfl) (by kernel_rfl) (fun _ _ _ h => h) (by kernel_rfl) (by assumption) ?_ ?_
          rotate_left
          · (intro w hSw; (try dsimp only at hSw); go_simp; try with_reducible rfl)
          simp only [Act.put, List.setIfInBounds_toArray, List.set_cons_zero, List.set_cons_succ]
          refine take_at (i := 15) (v := ?_) rfl (by kernel_rfl) (by kernel_rfl) (by kernel_rfl) (fun _ _ _ h => h) (by kernel_rfl) (by assumption) ?_ ?_
          rotate_left
          · (intro w hSw; (try dsimp only at hSw); go_simp; try with_reducible rfl)
          simp only [Act.put, List.setIfInBounds_toArray, List.set_cons_zero, List.set_cons_succ]
          refine take_at (i := 16) (v := ?_) rfl (by kernel_rfl) (by kernel_rfl) (by kernel_rfl) (fun _ _ _ h => h) (by kernel_rfl) (by assumption) ?_ ?_
          rotate_left
          · (intro w hSw; (try dsimp only at hSw); go_simp; try with_reducible rfl)
          simp only [Act.put, List.setIfInBounds_toArray, List.set_cons_zero, List.set_cons_succ]
          refine take_at (i := 17) (v := ?_) rfl (by kernel_rfl) (by kernel_rfl) (by kernel_rfl) (fun _ _ _ h => h) (by kernel_rfl) (by assumption) ?_ ?_
          rotate_left
          · (intro w hSw; (try dsimp only at hSw); go_simp; try with_reducible rfl)
          simp only [Act.put, List.setIfInBounds_toArray, List.set_cons_zero, List.set_cons_succ]
          refine take_at (i := 18) (v := ?_) rfl (by kernel_rfl) (by kernel_rfl) (by kernel_rfl) (fun _ _ _ h => h) (by kernel_rfl) (by assumption) ?_ ?_
          rotate_left
          · (intro w hSw; (try dsimp only at hSw); go_simp; try with_reducible rfl)
          simp only [Act.put, List.setIfInBounds_toArray, List.set_cons_zero, List.set_cons_succ]
          refine take_at (i := 19) (v := ?_) rfl (by kernel_rfl) (by kernel_rfl) (by kernel_rfl) (fun _ _ _ h => h) (by kernel_rfl) (by assumption) ?_ ?_
          rotate_left
          · (intro w hSw; (try dsimp only at hSw); go_simp; try with_reducible rfl)
          simp only [Act.put, List.setIfInBounds_toArray, List.set_cons_zero, List.set_cons_succ]
          refine take_at (i := 20) (v := ?_) rfl (by kernel_rfl) (by kernel_rfl) (by kernel_rfl) (fun _ _ _ h => h) (by kernel_rfl) (by assumption) ?_ ?_
          rotate_left
          · (intro w hSw; (try dsimp only at hSw); go_simp; try with_reducible rfl)
          simp only [Act.put, List.setIfInBounds_toArray, List.set_cons_zero, List.set_cons_succ]
          refine take_at (i := 21) (v := ?_) rfl (by kernel_rfl) (by kernel_rfl) (by kernel_rfl) (fun _ _ _ h => h) (by kernel_rfl) (by assumption) ?_ ?_
          rotate_left
          · (intro w hSw; (try dsimp only at hSw); go_simp; try with_reducible rfl)
          simp only [Act.put, List.setIfInBounds_toArray, List.set_cons_zero, List.set_cons_succ]
          refine take_at (i := 22) (v := ?_) rfl (by kernel_rfl) (by kernel_rfl) (by kernel_rfl) (fun _ _ _ h => h) (by kernel_rfl) (by assumption) ?_ ?_
          rotate_left
          · (intro w hSw; (try dsimp only at hSw); go_simp; try with_reducible rfl)
          simp only [Act.put, List.setIfInBounds_toArray, List.set_cons_zero, List.set_cons_succ]
          refine take_at (i := 23) (v := ?_) rfl (by kernel_rfl) (by kernel_rfl) (by kernel_rfl) (fun _ _ _ h => h) (by kernel_rfl) (by assumption) ?_ ?_
          rotate_left
          · (intro w hSw; (try dsimp only at hSw); go_simp; try with_reducible rfl)
          simp only [Act.put, List.setIfInBounds_toArray, List.set_cons_zero, List.set_cons_succ]
          refine take_at (i := 24) (v := ?_) rfl (by kernel_rfl) (by kernel_rfl) (by kernel_rfl) (fun _ _ _ h => h) (by kernel_rfl) (by assumption) ?_ ?_
          rotate_left
          · (intro w hSw; (try dsimp only at hSw); go_simp; try with_reducible rfl)
          simp only [Act.put, List.setIfInBounds_toArray, List.set_cons_zero, List.set_cons_succ]
          refine take_at (i := 25) (v := ?_) rfl (by kernel_rfl) (by kernel_rfl) (by kernel_rfl) (fun _ _ _ h => h) (by kernel_rfl) (by assumption) ?_ ?_
          rotate_left
          · (intro w hSw; (try dsimp only at hSw); go_simp; try with_reducible rfl)
          simp only [Act.put, List.setIfInBounds_toArray, List.set_cons_zero, List.set_cons_succ]
          refine wpAnyH_done (by kernel_rfl) ?_ _
          have H9 := Lib.hid H
          clear H hHeld
          obtain ⟨w9, hw9⟩ : ∃ wx : World, wx = v27_12 := ⟨_, rfl⟩
          rw [← hw9] at H9
          rw [← hw9]
          clear hw9
          go_wp2
          go_ret
          exact ⟨rfl, H9.out.1⟩

theorem charsetOnce_walk {H : Type} (enc : TypeId × Value → H) (base : Nat) (W : World)
    (v0 : Value) (d0 : DataW H) (p0 : List MemPlace) (ok0 : Value.okWide Try.prog W .any base 22 v0) (k0 : DataW.Trod enc Try.prog W 0 (fun _ => true) true 22 v0 d0 p0)
    (v1 : Value) (d1 : DataW H) (p1 : List MemPlace) (ok1 : Value.okWide Try.prog W .any base 21 v1) (k1 : DataW.Trod enc Try.prog W 0 (fun _ => true) true 21 v1 d1 p1)
    (v2 : Value) (d2 : DataW H) (p2 : List MemPlace) (ok2 : Value.okWide Try.prog W .any base 21 v2) (k2 : DataW.Trod enc Try.prog W 0 (fun _ => true) true 21 v2 d2 p2) :
    Calls Try.prog 6 #[v0, v1, v2] W fun e w' => e = .returned (.bool true) ∧ Below W.heap.size W w' := by
  obtain ⟨ap, len, cap, T, rfl, hT⟩ := open_acts enc base W ok0 k0
  obtain ⟨a, rfl, _⟩ := open_int Try.underlying21 ok1 k1
  obtain ⟨b, rfl, _⟩ := open_int Try.underlying21 ok2 k2
  exact charsetOnce_any ap len cap T a b W hT
end Go.Proofs.Ytdphccjeikiciaa.Lab
