/- The project's Whole, of whole rows; Level. -/
import Derived.Test.YtdeahnphcfcfpaaRpWide
import Derived.Test.YtdeahnphcfcfpaaRpRaise
import Derived.Test.YtdeahnphcfcfpaaRoSame
namespace Go.Proofs.Ytdeahnphcfcfpaa.Lab
open Go Go.RowKit

theorem pair_is {R : Cls} (h : Wh R) {i : Nat} (hi : i < R.length) (hk : (gc R i).k = 1) : i + 1 < R.length ∧ gc R (i + 1) = rightC (gc R i) := by
  obtain ⟨a1, a2, a3, a4⟩ := (h i hi).1 hk
  obtain ⟨_, _, b1, b2, b3⟩ := (h (i + 1) a1).2.1 a2
  refine ⟨a1, ?_⟩
  obtain ⟨x, hx⟩ : ∃ x, x = gc R (i + 1) := ⟨_, rfl⟩
  rw [← hx] at a2 a3 a4 b1 b2 b3 ⊢
  obtain ⟨ru, m0, m1, k, a, l⟩ := x
  unfold rightC
  simp only at a2 a3 a4 b1 b2 b3
  subst a2 b1 b2 b3
  rw [a3, a4]
set_option maxHeartbeats 8000000 in
set_option maxRecDepth 100000 in
theorem whole_any (w : World) (v : Value) (R : Cls) (h : RowIn w v R) (hw : Wh R) (hl : R.length ≤ 1000) : Calls Try.prog 24 #[v] w fun e w' => e = .returned (.bool true) ∧ Below w.heap.size w w' := by
  obtain ⟨va, vc, rfl⟩ := h.shape
  have HW := Lib.hid hw
  obtain ⟨n, hn⟩ : ∃ n, n = R.length := ⟨_, rfl⟩
  have HN := Lib.hid hn
  have HB0 := Lib.hid (Below.refl w.heap.size w)
  have HV := Lib.hid h
  rw [← hn] at HV hl ⊢
  clear h hw hn
  go_enter Try.func24, Try.ntmps24
  go_wp2
  go_loopg [7] n (fun G i wr => ∃ k : Nat, i = .int .i64 k ∧ k ≤ n ∧ n - k ≤ G ∧ Hid (Below w.heap.size w wr))
  case atStart => exact ⟨0, rfl, Nat.zero_le _, Nat.sub_le _ _, HB0⟩
  case round =>
    obtain ⟨i, rfl, hin, hgk, HB⟩ := hrel
    clear HB0
    by_cases hlt : i < n
    · obtain ⟨g, o, cp, e, _, hg, hC⟩ := (HV.out.below HB.out).open (by rw [← HN.out]; omega)
      injection e with e1 e2 e3
      subst e1 e3
      obtain ⟨c, hc⟩ : ∃ c, c = gc R i := ⟨_, rfl⟩
      have HC := Lib.hid hc
      have hat := hC i (by rw [← HN.out]; exact hlt)
      rw [← hc] at hat
      obtain ⟨x0, x1, x2, x3, x4, x5, x6, x7, x8, x9, x10, x11, x12, x13⟩ := hat
      obtain ⟨w1, hw1⟩ : ∃ y, y = wr.alloc (.cells #[.int .i32 c.ru, .int .i32 c.m0, .int .i32 c.m1, .int .u8 c.k, .int .u8 c.a.fg.k, .int .u8 c.a.fg.r, .int .u8 c.a.fg.g, .int .u8 c.a.fg.b, .int .u8 c.a.bg.k, .int .u8 c.a.bg.r, .int .u8 c.a.bg.g, .int .u8 c.a.bg.b, .int .u16 (c.a.fl : Nat), .int .u8 c.l] 42) := ⟨_, rfl⟩
      obtain ⟨z, hz⟩ : ∃ y, y = wr.heap.size := ⟨_, rfl⟩
      have b1 : Below wr.heap.size wr w1 := by rw [hw1]; exact (Below.refl _ _).alloc (Nat.le_refl _) _
      have HA1 := Lib.hid (show BAt w1 z c by rw [hw1]; exact BAt.newAt wr z hz c _)
      have HB1 := Lib.hid (HB.out.trans (b1.mono HB.out.size))
      have HR1 := Lib.hid (show RowIn w1 (.slice (some ⟨g, o, none⟩) n vc) R from (HV.out.below HB.out).below b1)
      have hinR : i < R.length := by rw [← HN.out]; exact hlt
      clear hC hc hg b1 e2
      go_upto_region 4 with (fail)
      rw [← hw1, ← hz]
      clear hw1 hz HB x0 x1 x2 x3 x4 x5 x6 x7 x8 x9 x10 x11 x12 x13
      by_cases h1 : c.k = 1
      · obtain ⟨hj, hpair⟩ := pair_is HW.out hinR (by rw [← HC.out]; exact h1)
        rw [← HC.out] at hpair
        obtain ⟨d, hd⟩ : ∃ d, d = rightC c := ⟨_, rfl⟩
        rw [← hd] at hpair
        obtain ⟨j, hj0⟩ : ∃ j, j = i + 1 := ⟨_, rfl⟩
        rw [← hj0] at hpair hj
        have HJ0 := Lib.hid hj0
        have s1 : IntKind.i64.wrap ((i : Int) + 1) = (j : Int) := by rw [IntKind.wrap_i64]; omega
        have hjn : j < n := by rw [HN.out]; exact hj
        have jn : ((j : Int) == (n : Int)) = false := by simp; omega
        have k1 : (c.k == 1) = true := by simp [h1]
        have k2 : (c.k == 2) = false := by simp [h1]
        have CR := Lib.hid (show ∀ W, Calls Try.prog 55 #[celV c] W fun e w' => e = .returned (celV d) ∧ Below W.heap.size W w' from fun W => by rw [hd]; exact rightOf_any W c)
        have hq := fun w => eqCel w d d
        rw [show decide (d = d) = true from decide_eq_true rfl] at hq
        have KP := Lib.hid (show ∀ W, BAt W z c → RowIn W (.slice (some ⟨g, o, none⟩) n vc) R → (fun w' => w'.cell? ⟨z, 0, none⟩ = some (.int .i32 c.ru) ∧ w'.cell? ⟨z, 1, none⟩ = some (.int .i32 c.m0) ∧ w'.cell? ⟨z, 2, none⟩ = some (.int .i32 c.m1) ∧ w'.cell? ⟨z, 3, none⟩ = some (.int .u8 c.k) ∧ w'.cell? ⟨z, 4, none⟩ = some (.int .u8 c.a.fg.k) ∧ w'.cell? ⟨z, 5, none⟩ = some (.int .u8 c.a.fg.r) ∧ w'.cell? ⟨z, 6, none⟩ = some (.int .u8 c.a.fg.g) ∧ w'.cell? ⟨z, 7, none⟩ = some (.int .u8 c.a.fg.b) ∧ w'.cell? ⟨z, 8, none⟩ = some (.int .u8 c.a.bg.k) ∧ w'.cell? ⟨z, 9, none⟩ = some (.int .u8 c.a.bg.r) ∧ w'.cell? ⟨z, 10, none⟩ = some (.int .u8 c.a.bg.g) ∧ w'.cell? ⟨z, 11, none⟩ = some (.int .u8 c.a.bg.b) ∧ w'.cell? ⟨z, 12, none⟩ = some (.int .u16 (c.a.fl : Nat)) ∧ w'.cell? ⟨z, 13, none⟩ = some (.int .u8 c.l) ∧ w'.cell? ⟨g, o + j * 14, none⟩ = some (.int .i32 d.ru) ∧ w'.cell? ⟨g, o + j * 14 + 1, none⟩ = some (.int .i32 d.m0) ∧ w'.cell? ⟨g, o + j * 14 + 2, none⟩ = some (.int .i32 d.m1) ∧ w'.cell? ⟨g, o + j * 14 + 3, none⟩ = some (.int .u8 d.k) ∧ w'.cell? ⟨g, o + j * 14 + 4, none⟩ = some (.int .u8 d.a.fg.k) ∧ w'.cell? ⟨g, o + j * 14 + 5, none⟩ = some (.int .u8 d.a.fg.r) ∧ w'.cell? ⟨g, o + j * 14 + 6, none⟩ = some (.int .u8 d.a.fg.g) ∧ w'.cell? ⟨g, o + j * 14 + 7, none⟩ = some (.int .u8 d.a.fg.b) ∧ w'.cell? ⟨g, o + j * 14 + 8, none⟩ = some (.int .u8 d.a.bg.k) ∧ w'.cell? ⟨g, o + j * 14 + 9, none⟩ = some (.int .u8 d.a.bg.r) ∧ w'.cell? ⟨g, o + j * 14 + 10, none⟩ = some (.int .u8 d.a.bg.g) ∧ w'.cell? ⟨g, o + j * 14 + 11, none⟩ = some (.int .u8 d.a.bg.b) ∧ w'.cell? ⟨g, o + j * 14 + 12, none⟩ = some (.int .u16 (d.a.fl : Nat)) ∧ w'.cell? ⟨g, o + j * 14 + 13, none⟩ = some (.int .u8 d.l)) W from fun W hA hR => by
          obtain ⟨_, ⟨y0, y1, y2, y3, y4, y5, y6, y7, y8, y9, y10, y11, y12, y13⟩, _⟩ := hA
          obtain ⟨g', o', c', e, _, _, hC⟩ := hR.open (by omega)
          injection e with e1 e2 e3
          injection e1 with e1
          injection e1 with e1 e4
          subst e1 e4
          have hat := hC j hj
          rw [hpair] at hat
          exact ⟨y0, y1, y2, y3, y4, y5, y6, y7, y8, y9, y10, y11, y12, y13, hat⟩)
        dsimp only at KP
        clear h1 hd hj hj0 hpair hinR
        refine wp_region_held_drew (S := fun w' => w'.cell? ⟨z, 0, none⟩ = some (.int .i32 c.ru) ∧ w'.cell? ⟨z, 1, none⟩ = some (.int .i32 c.m0) ∧ w'.cell? ⟨z, 2, none⟩ = some (.int .i32 c.m1) ∧ w'.cell? ⟨z, 3, none⟩ = some (.int .u8 c.k) ∧ w'.cell? ⟨z, 4, none⟩ = some (.int .u8 c.a.fg.k) ∧ w'.cell? ⟨z, 5, none⟩ = some (.int .u8 c.a.fg.r) ∧ w'.cell? ⟨z, 6, none⟩ = some (.int .u8 c.a.fg.g) ∧ w'.cell? ⟨z, 7, none⟩ = some (.int .u8 c.a.fg.b) ∧ w'.cell? ⟨z, 8, none⟩ = some (.int .u8 c.a.bg.k) ∧ w'.cell? ⟨z, 9, none⟩ = some (.int .u8 c.a.bg.r) ∧ w'.cell? ⟨z, 10, none⟩ = some (.int .u8 c.a.bg.g) ∧ w'.cell? ⟨z, 11, none⟩ = some (.int .u8 c.a.bg.b) ∧ w'.cell? ⟨z, 12, none⟩ = some (.int .u16 (c.a.fl : Nat)) ∧ w'.cell? ⟨z, 13, none⟩ = some (.int .u8 c.l) ∧ w'.cell? ⟨g, o + j * 14, none⟩ = some (.int .i32 d.ru) ∧ w'.cell? ⟨g, o + j * 14 + 1, none⟩ = some (.int .i32 d.m0) ∧ w'.cell? ⟨g, o + j * 14 + 2, none⟩ = some (.int .i32 d.m1) ∧ w'.cell? ⟨g, o + j * 14 + 3, none⟩ = some (.int .u8 d.k) ∧ w'.cell? ⟨g, o + j * 14 + 4, none⟩ = some (.int .u8 d.a.fg.k) ∧ w'.cell? ⟨g, o + j * 14 + 5, none⟩ = some (.int .u8 d.a.fg.r) ∧ w'.cell? ⟨g, o + j * 14 + 6, none⟩ = some (.int .u8 d.a.fg.g) ∧ w'.cell? ⟨g, o + j * 14 + 7, none⟩ = some (.int .u8 d.a.fg.b) ∧ w'.cell? ⟨g, o + j * 14 + 8, none⟩ = some (.int .u8 d.a.bg.k) ∧ w'.cell? ⟨g, o + j * 14 + 9, none⟩ = some (.int .u8 d.a.bg.r) ∧ w'.cell? ⟨g, o + j * 14 + 10, none⟩ = some (.int .u8 d.a.bg.g) ∧ w'.cell? ⟨g, o + j * 14 + 11, none⟩ = some (.int .u8 d.a.bg.b) ∧ w'.cell? ⟨g, o + j * 14 + 12, none⟩ = some (.int .u16 (d.a.fl : Nat)) ∧ w'.cell? ⟨g, o + j * 14 + 13, none⟩ = some (.int .u8 d.l)) (by kernel_rfl) ?_ (fun hHeld => ?_)
        · exact KP.out _ HA1.out HR1.out
        obtain ⟨u0, hu0⟩ : ∃ y, y = w1.drew := ⟨_, rfl⟩
        have bd : Below w1.heap.size w1 u0 := by rw [hu0]; exact ⟨rfl, rfl, rfl, Nat.le_refl _, fun _ _ => rfl⟩
        have HAu := Lib.hid (HA1.out.below bd)
        have HBu := Lib.hid (HB1.out.trans (bd.mono HB1.out.size))
        have HRu := Lib.hid (HR1.out.below bd)
        replace hHeld := KP.out _ HAu.out HRu.out
        rw [← hu0]
        clear hu0 bd HA1 HB1 HR1
        refine take_at (i := 0) (v := ?_) rfl (by kernel_rfl) (by kernel_rfl) (by kernel_rfl) (fun _ _ _ h => h) (by kernel_rfl) (by assumption) ?_ ?_
        rotate_left
        · (intro w hSw; (try dsimp only at hSw); go_simp; try with_reducible rfl)
        simp only [Act.put, List.setIfInBounds_toArray, List.set_cons_zero, List.set_cons_succ]
        refine take_at (i := 1) (v := ?_) rfl (by kernel_rfl) (by kernel_rfl) (by kernel_rfl) (fun _ _ _ h => h) (by kernel_rfl) (by assumption) ?_ ?_
        rotate_left
        · (intro w hSw; (try dsimp only at hSw); go_simp; try with_reducible rfl)
        simp only [Act.put, List.setIfInBounds_toArray, List.set_cons_zero, List.set_cons_succ]
        refine take_at (i := 2) (v := ?_) rfl (by kernel_rfl) (by kernel_rfl) (by kernel_rfl) (fun _ _ _ h => h) (by kernel_rfl) (by assumption) ?_ ?_
        rotate_left
        · (intro w hSw; (try dsimp only at hSw); go_simp; try with_reducible rfl)
        simp only [Act.put, List.setIfInBounds_toArray, List.set_cons_zero, List.set_cons_succ]
        refine take_at (i := 3) (v := ?_) rfl (by kernel_rfl) (by kernel_rfl) (by kernel_rfl) (fun _ _ _ h => h) (by kernel_rfl) (by assumption) ?_ ?_
        rotate_left
        · (intro w hSw; (try dsimp only at hSw); go_simp; try with_reducible rfl)
        simp only [Act.put, List.setIfInBounds_toArray, List.set_cons_zero, List.set_cons_succ]
        refine take_at (i := 4) (v := ?_) rfl (by kernel_rfl) (by kernel_rfl) (by kernel_rfl) (fun _ _ _ h => h) (by kernel_rfl) (by assumption) ?_ ?_
        rotate_left
        · (intro w hSw; (try dsimp only at hSw); go_simp; try with_reducible rfl)
        simp only [Act.put, List.setIfInBounds_toArray, List.set_cons_zero, List.set_cons_succ]
        refine take_at (i := 5) (v := ?_) rfl (by kernel_rfl) (by kernel_rfl) (by kernel_rfl) (fun _ _ _ h => h) (by kernel_rfl) (by assumption) ?_ ?_
        rotate_left
        · (intro w hSw; (try dsimp only at hSw); go_simp; try with_reducible rfl)
        simp only [Act.put, List.setIfInBounds_toArray, List.set_cons_zero, List.set_cons_succ]
        refine take_at (i := 6) (v := ?_) rfl (by kernel_rfl) (by kernel_rfl) (by kernel_rfl) (fun _ _ _ h => h) (by kernel_rfl) (by assumption) ?_ ?_
        rotate_left
        · (intro w hSw; (try dsimp only at hSw); go_simp; try with_reducible rfl)
        simp only [Act.put, List.setIfInBounds_toArray, List.set_cons_zero, List.set_cons_succ]
        refine take_at (i := 7) (v := ?_) rfl (by kernel_rfl) (by kernel_rfl) (by kernel_rfl) (fun _ _ _ h => h) (by kernel_rfl) (by assumption) ?_ ?_
        rotate_left
        · (intro w hSw; (try dsimp only at hSw); go_simp; try with_reducible rfl)
        simp only [Act.put, List.setIfInBounds_toArray, List.set_cons_zero, List.set_cons_succ]
        refine take_at (i := 8) (v := ?_) rfl (by kernel_rfl) (by kernel_rfl) (by kernel_rfl) (fun _ _ _ h => h) (by kernel_rfl) (by assumption) ?_ ?_
        rotate_left
        · (intro w hSw; (try dsimp only at hSw); go_simp; try with_reducible rfl)
        simp only [Act.put, List.setIfInBounds_toArray, List.set_cons_zero, List.set_cons_succ]
        refine take_at (i := 9) (v := ?_) rfl (by kernel_rfl) (by kernel_rfl) (by kernel_rfl) (fun _ _ _ h => h) (by kernel_rfl) (by assumption) ?_ ?_
        rotate_left
        · (intro w hSw; (try dsimp only at hSw); go_simp; try with_reducible rfl)
        simp only [Act.put, List.setIfInBounds_toArray, List.set_cons_zero, List.set_cons_succ]
        refine take_at (i := 10) (v := ?_) rfl (by kernel_rfl) (by kernel_rfl) (by kernel_rfl) (fun _ _ _ h => h) (by kernel_rfl) (by assumption) ?_ ?_
        rotate_left
        · (intro w hSw; (try dsimp only at hSw); go_simp; try with_reducible rfl)
        simp only [Act.put, List.setIfInBounds_toArray, List.set_cons_zero, List.set_cons_succ]
        refine take_at (i := 11) (v := ?_) rfl (by kernel_rfl) (by kernel_rfl) (by kernel_rfl) (fun _ _ _ h => h) (by kernel_rfl) (by assumption) ?_ ?_
        rotate_left
        · (intro w hSw; (try dsimp only at hSw); go_simp; try with_reducible rfl)
        simp only [Act.put, List.setIfInBounds_toArray, List.set_cons_zero, List.set_cons_succ]
        refine take_at (i := 12) (v := ?_) rfl (by kernel_rfl) (by kernel_rfl) (by kernel_rfl) (fun _ _ _ h => h) (by kernel_rfl) (by assumption) ?_ ?_
        rotate_left
        · (intro w hSw; (try dsimp only at hSw); go_simp; try with_reducible rfl)
        simp only [Act.put, List.setIfInBounds_toArray, List.set_cons_zero, List.set_cons_succ]
        refine take_at (i := 13) (v := ?_) rfl (by kernel_rfl) (by kernel_rfl) (by kernel_rfl) (fun _ _ _ h => h) (by kernel_rfl) (by assumption) ?_ ?_
        rotate_left
        · (intro w hSw; (try dsimp only at hSw); go_simp; try with_reducible rfl)
        simp only [Act.put, List.setIfInBounds_toArray, List.set_cons_zero, List.set_cons_succ]
        refine take_at (i := 14) (v := ?_) rfl (by kernel_rfl) (by kernel_rfl) (by kernel_rfl) (fun _ _ _ h => h) (by kernel_rfl) (by assumption) ?_ ?_
        rotate_left
        · (intro w hSw; (try dsimp only at hSw); go_simp; try with_reducible rfl)
        simp only [Act.put, List.setIfInBounds_toArray, List.set_cons_zero, List.set_cons_succ]
        refine take_at (i := 15) (v := ?_) rfl (by kernel_rfl) (by kernel_rfl) (by kernel_rfl) (fun _ _ _ h => h) (by kernel_rfl) (by assumption) ?_ ?_
        rotate_left
        · (intro w hSw; (try dsimp only at hSw); go_simp; try with_reducible rfl)
        simp only [Act.put, List.setIfInBounds_toArray, List.set_cons_zero, List.set_cons_succ]
        refine do_at (i := 16) rfl (by kernel_rfl) (by kernel_rfl) (fun K hK => ?_)
        go_wp2_with fail
        refine (CR.out _).mono ?_
        rintro e0 w3 ⟨rfl, b3⟩
        have HA3 := Lib.hid (HAu.out.below b3)
        have HB3 := Lib.hid (HBu.out.trans (b3.mono HBu.out.size))
        have HR3 := Lib.hid (HRu.out.below b3)
        clear b3 HAu HBu HRu CR
        go_wp2_with fail
        refine hK.out _ _ ?_ (fun hHeld => ?_)
        · exact KP.out _ HA3.out HR3.out
        clear hK K
        try simp only [Act.put, List.setIfInBounds_toArray, List.set_cons_zero, List.set_cons_succ]
        refine take_at (i := 17) (v := ?_) rfl (by kernel_rfl) (by kernel_rfl) (by kernel_rfl) (fun _ _ _ h => h) (by kernel_rfl) (by assumption) ?_ ?_
        rotate_left
        · (intro w hSw; (try dsimp only at hSw); go_simp; try with_reducible rfl)
        simp only [Act.put, List.setIfInBounds_toArray, List.set_cons_zero, List.set_cons_succ]
        refine take_at (i := 18) (v := ?_) rfl (by kernel_rfl) (by kernel_rfl) (by kernel_rfl) (fun _ _ _ h => h) (by kernel_rfl) (by assumption) ?_ ?_
        rotate_left
        · (intro w hSw; (try dsimp only at hSw); go_simp; try with_reducible rfl)
        simp only [Act.put, List.setIfInBounds_toArray, List.set_cons_zero, List.set_cons_succ]
        refine take_at (i := 19) (v := ?_) rfl (by kernel_rfl) (by kernel_rfl) (by kernel_rfl) (fun _ _ _ h => h) (by kernel_rfl) (by assumption) ?_ ?_
        rotate_left
        · (intro w hSw; (try dsimp only at hSw); go_simp; try with_reducible rfl)
        simp only [Act.put, List.setIfInBounds_toArray, List.set_cons_zero, List.set_cons_succ]
        refine take_at (i := 20) (v := ?_) rfl (by kernel_rfl) (by kernel_rfl) (by kernel_rfl) (fun _ _ _ h => h) (by kernel_rfl) (by assumption) ?_ ?_
        rotate_left
        · (intro w hSw; (try dsimp only at hSw); go_simp; try with_reducible rfl)
        simp only [Act.put, List.setIfInBounds_toArray, List.set_cons_zero, List.set_cons_succ]
        refine wpAnyH_done (by kernel_rfl) ?_ _
        clear hHeld KP hq
        have y3 := HA3.out.2.1.2.2.2.1
        go_wp2
        go_roundg (n - (i + 1))
        case rel => exact ⟨j, by go_num, by omega, by have := HJ0.out; omega, HB3⟩
        case measure => omega
      · have k1 : (c.k == 1) = false := by simp [h1]
        by_cases h2 : c.k = 2
        · obtain ⟨hi0, hkl, _⟩ := (HW.out i hinR).2.1 (by rw [← HC.out]; exact h2)
          obtain ⟨q, hq⟩ : ∃ q, q = i - 1 := ⟨_, rfl⟩
          rw [← hq] at hkl
          have s1 : IntKind.i64.wrap ((i : Int) - 1) = (q : Int) := by rw [IntKind.wrap_i64]; omega
          have hqn : q < n := by omega
          have k2 : (c.k == 2) = true := by simp [h2]
          have i0 : ((i : Int) == 0) = false := by simp; omega
          have HQ := Lib.hid (show ∀ W, RowIn W (.slice (some ⟨g, o, none⟩) n vc) R → W.cell? ⟨g, o + q * 14 + 3, none⟩ = some (.int .u8 1) from fun W hR => by
            obtain ⟨g', o', c', e, _, _, hC⟩ := hR.open (by omega)
            injection e with e1 e2 e3
            injection e1 with e1
            injection e1 with e1 e4
            subst e1 e4
            have hat := (hC q (by rw [← HN.out]; exact hqn)).2.2.2.1
            rw [hkl] at hat
            exact hat)
          clear h1 h2 hkl hq hinR hi0
          refine wp_region_held_drew (S := fun w' => w'.cell? ⟨z, 0, none⟩ = some (.int .i32 c.ru) ∧ w'.cell? ⟨z, 1, none⟩ = some (.int .i32 c.m0) ∧ w'.cell? ⟨z, 2, none⟩ = some (.int .i32 c.m1) ∧ w'.cell? ⟨z, 3, none⟩ = some (.int .u8 c.k) ∧ w'.cell? ⟨z, 4, none⟩ = some (.int .u8 c.a.fg.k) ∧ w'.cell? ⟨z, 5, none⟩ = some (.int .u8 c.a.fg.r) ∧ w'.cell? ⟨z, 6, none⟩ = some (.int .u8 c.a.fg.g) ∧ w'.cell? ⟨z, 7, none⟩ = some (.int .u8 c.a.fg.b) ∧ w'.cell? ⟨z, 8, none⟩ = some (.int .u8 c.a.bg.k) ∧ w'.cell? ⟨z, 9, none⟩ = some (.int .u8 c.a.bg.r) ∧ w'.cell? ⟨z, 10, none⟩ = some (.int .u8 c.a.bg.g) ∧ w'.cell? ⟨z, 11, none⟩ = some (.int .u8 c.a.bg.b) ∧ w'.cell? ⟨z, 12, none⟩ = some (.int .u16 (c.a.fl : Nat)) ∧ w'.cell? ⟨z, 13, none⟩ = some (.int .u8 c.l)) (by kernel_rfl) ?_ (fun hHeld => ?_)
          · exact HA1.out.2.1
          obtain ⟨u0, hu0⟩ : ∃ y, y = w1.drew := ⟨_, rfl⟩
          have bd : Below w1.heap.size w1 u0 := by rw [hu0]; exact ⟨rfl, rfl, rfl, Nat.le_refl _, fun _ _ => rfl⟩
          have HAu := Lib.hid (HA1.out.below bd)
          have HBu := Lib.hid (HB1.out.trans (bd.mono HB1.out.size))
          have HRu := Lib.hid (HR1.out.below bd)
          replace hHeld := HAu.out.2.1
          unfold D14 at hHeld
          rw [← hu0]
          clear hu0 bd HA1 HB1 HR1
          refine take_at (i := 0) (v := ?_) rfl (by kernel_rfl) (by kernel_rfl) (by kernel_rfl) (fun _ _ _ h => h) (by kernel_rfl) (by assumption) ?_ ?_
          rotate_left
          · (intro w hSw; (try dsimp only at hSw); go_simp; try with_reducible rfl)
          simp only [Act.put, List.setIfInBounds_toArray, List.set_cons_zero, List.set_cons_succ]
          refine take_at (i := 1) (v := ?_) rfl (by kernel_rfl) (by kernel_rfl) (by kernel_rfl) (fun _ _ _ h => h) (by kernel_rfl) (by assumption) ?_ ?_
          rotate_left
          · (intro w hSw; (try dsimp only at hSw); go_simp; try with_reducible rfl)
          simp only [Act.put, List.setIfInBounds_toArray, List.set_cons_zero, List.set_cons_succ]
          refine take_at (i := 2) (v := ?_) rfl (by kernel_rfl) (by kernel_rfl) (by kernel_rfl) (fun _ _ _ h => h) (by kernel_rfl) (by assumption) ?_ ?_
          rotate_left
          · (intro w hSw; (try dsimp only at hSw); go_simp; try with_reducible rfl)
          simp only [Act.put, List.setIfInBounds_toArray, List.set_cons_zero, List.set_cons_succ]
          refine take_at (i := 3) (v := ?_) rfl (by kernel_rfl) (by kernel_rfl) (by kernel_rfl) (fun _ _ _ h => h) (by kernel_rfl) (by assumption) ?_ ?_
          rotate_left
          · (intro w hSw; (try dsimp only at hSw); go_simp; try with_reducible rfl)
          simp only [Act.put, List.setIfInBounds_toArray, List.set_cons_zero, List.set_cons_succ]
          refine skip_at (i := 4) rfl (by kernel_rfl) (by kernel_rfl) (by kernel_rfl) (fun _ _ _ h => h) (by kernel_rfl) (by assumption) ?_
          simp only [Act.put, List.setIfInBounds_toArray, List.set_cons_zero, List.set_cons_succ]
          refine skip_at (i := 5) rfl (by kernel_rfl) (by kernel_rfl) (by kernel_rfl) (fun _ _ _ h => h) (by kernel_rfl) (by assumption) ?_
          simp only [Act.put, List.setIfInBounds_toArray, List.set_cons_zero, List.set_cons_succ]
          refine skip_at (i := 6) rfl (by kernel_rfl) (by kernel_rfl) (by kernel_rfl) (fun _ _ _ h => h) (by kernel_rfl) (by assumption) ?_
          simp only [Act.put, List.setIfInBounds_toArray, List.set_cons_zero, List.set_cons_succ]
          refine skip_at (i := 7) rfl (by kernel_rfl) (by kernel_rfl) (by kernel_rfl) (fun _ _ _ h => h) (by kernel_rfl) (by assumption) ?_
          simp only [Act.put, List.setIfInBounds_toArray, List.set_cons_zero, List.set_cons_succ]
          refine skip_at (i := 8) rfl (by kernel_rfl) (by kernel_rfl) (by kernel_rfl) (fun _ _ _ h => h) (by kernel_rfl) (by assumption) ?_
          simp only [Act.put, List.setIfInBounds_toArray, List.set_cons_zero, List.set_cons_succ]
          refine skip_at (i := 9) rfl (by kernel_rfl) (by kernel_rfl) (by kernel_rfl) (fun _ _ _ h => h) (by kernel_rfl) (by assumption) ?_
          simp only [Act.put, List.setIfInBounds_toArray, List.set_cons_zero, List.set_cons_succ]
          refine skip_at (i := 10) rfl (by kernel_rfl) (by kernel_rfl) (by kernel_rfl) (fun _ _ _ h => h) (by kernel_rfl) (by assumption) ?_
          simp only [Act.put, List.setIfInBounds_toArray, List.set_cons_zero, List.set_cons_succ]
          refine skip_at (i := 11) rfl (by kernel_rfl) (by kernel_rfl) (by kernel_rfl) (fun _ _ _ h => h) (by kernel_rfl) (by assumption) ?_
          simp only [Act.put, List.setIfInBounds_toArray, List.set_cons_zero, List.set_cons_succ]
          refine skip_at (i := 12) rfl (by kernel_rfl) (by kernel_rfl) (by kernel_rfl) (fun _ _ _ h => h) (by kernel_rfl) (by assumption) ?_
          simp only [Act.put, List.setIfInBounds_toArray, List.set_cons_zero, List.set_cons_succ]
          refine skip_at (i := 13) rfl (by kernel_rfl) (by kernel_rfl) (by kernel_rfl) (fun _ _ _ h => h) (by kernel_rfl) (by assumption) ?_
          simp only [Act.put, List.setIfInBounds_toArray, List.set_cons_zero, List.set_cons_succ]
          refine skip_at (i := 14) rfl (by kernel_rfl) (by kernel_rfl) (by kernel_rfl) (fun _ _ _ h => h) (by kernel_rfl) (by assumption) ?_
          simp only [Act.put, List.setIfInBounds_toArray, List.set_cons_zero, List.set_cons_succ]
          refine skip_at (i := 15) rfl (by kernel_rfl) (by kernel_rfl) (by kernel_rfl) (fun _ _ _ h => h) (by kernel_rfl) (by assumption) ?_
          simp only [Act.put, List.setIfInBounds_toArray, List.set_cons_zero, List.set_cons_succ]
          refine skip_at (i := 16) rfl (by kernel_rfl) (by kernel_rfl) (by kernel_rfl) (fun _ _ _ h => h) (by kernel_rfl) (by assumption) ?_
          simp only [Act.put, List.setIfInBounds_toArray, List.set_cons_zero, List.set_cons_succ]
          refine skip_at (i := 17) rfl (by kernel_rfl) (by kernel_rfl) (by kernel_rfl) (fun _ _ _ h => h) (by kernel_rfl) (by assumption) ?_
          simp only [Act.put, List.setIfInBounds_toArray, List.set_cons_zero, List.set_cons_succ]
          refine skip_at (i := 18) rfl (by kernel_rfl) (by kernel_rfl) (by kernel_rfl) (fun _ _ _ h => h) (by kernel_rfl) (by assumption) ?_
          simp only [Act.put, List.setIfInBounds_toArray, List.set_cons_zero, List.set_cons_succ]
          refine take_at (i := 19) (v := ?_) rfl (by kernel_rfl) (by kernel_rfl) (by kernel_rfl) (fun _ _ _ h => h) (by kernel_rfl) (by assumption) ?_ ?_
          rotate_left
          · (intro w hSw; (try dsimp only at hSw); go_simp; try with_reducible rfl)
          simp only [Act.put, List.setIfInBounds_toArray, List.set_cons_zero, List.set_cons_succ]
          refine take_at (i := 20) (v := ?_) rfl (by kernel_rfl) (by kernel_rfl) (by kernel_rfl) (fun _ _ _ h => h) (by kernel_rfl) (by assumption) ?_ ?_
          rotate_left
          · (intro w hSw; (try dsimp only at hSw); go_simp; try with_reducible rfl)
          simp only [Act.put, List.setIfInBounds_toArray, List.set_cons_zero, List.set_cons_succ]
          refine wpAnyH_done (by kernel_rfl) ?_ _
          clear hHeld
          have y3 := HAu.out.2.1.2.2.2.1
          have q3 := HQ.out _ HRu.out
          go_wp2
          go_roundg (n - (i + 1))
          case rel => exact ⟨i + 1, by go_num, by omega, Nat.le_refl _, HBu⟩
          case measure => omega
        · have k2 : (c.k == 2) = false := by simp [h2]
          clear h1 h2 hinR
          refine wp_region_held_drew (S := fun w' => w'.cell? ⟨z, 0, none⟩ = some (.int .i32 c.ru) ∧ w'.cell? ⟨z, 1, none⟩ = some (.int .i32 c.m0) ∧ w'.cell? ⟨z, 2, none⟩ = some (.int .i32 c.m1) ∧ w'.cell? ⟨z, 3, none⟩ = some (.int .u8 c.k) ∧ w'.cell? ⟨z, 4, none⟩ = some (.int .u8 c.a.fg.k) ∧ w'.cell? ⟨z, 5, none⟩ = some (.int .u8 c.a.fg.r) ∧ w'.cell? ⟨z, 6, none⟩ = some (.int .u8 c.a.fg.g) ∧ w'.cell? ⟨z, 7, none⟩ = some (.int .u8 c.a.fg.b) ∧ w'.cell? ⟨z, 8, none⟩ = some (.int .u8 c.a.bg.k) ∧ w'.cell? ⟨z, 9, none⟩ = some (.int .u8 c.a.bg.r) ∧ w'.cell? ⟨z, 10, none⟩ = some (.int .u8 c.a.bg.g) ∧ w'.cell? ⟨z, 11, none⟩ = some (.int .u8 c.a.bg.b) ∧ w'.cell? ⟨z, 12, none⟩ = some (.int .u16 (c.a.fl : Nat)) ∧ w'.cell? ⟨z, 13, none⟩ = some (.int .u8 c.l)) (by kernel_rfl) ?_ (fun hHeld => ?_)
          · exact HA1.out.2.1
          obtain ⟨u0, hu0⟩ : ∃ y, y = w1.drew := ⟨_, rfl⟩
          have bd : Below w1.heap.size w1 u0 := by rw [hu0]; exact ⟨rfl, rfl, rfl, Nat.le_refl _, fun _ _ => rfl⟩
          have HAu := Lib.hid (HA1.out.below bd)
          have HBu := Lib.hid (HB1.out.trans (bd.mono HB1.out.size))
          have HRu := Lib.hid (HR1.out.below bd)
          replace hHeld := HAu.out.2.1
          unfold D14 at hHeld
          rw [← hu0]
          clear hu0 bd HA1 HB1 HR1
          refine take_at (i := 0) (v := ?_) rfl (by kernel_rfl) (by kernel_rfl) (by kernel_rfl) (fun _ _ _ h => h) (by kernel_rfl) (by assumption) ?_ ?_
          rotate_left
          · (intro w hSw; (try dsimp only at hSw); go_simp; try with_reducible rfl)
          simp only [Act.put, List.setIfInBounds_toArray, List.set_cons_zero, List.set_cons_succ]
          refine take_at (i := 1) (v := ?_) rfl (by kernel_rfl) (by kernel_rfl) (by kernel_rfl) (fun _ _ _ h => h) (by kernel_rfl) (by assumption) ?_ ?_
          rotate_left
          · (intro w hSw; (try dsimp only at hSw); go_simp; try with_reducible rfl)
          simp only [Act.put, List.setIfInBounds_toArray, List.set_cons_zero, List.set_cons_succ]
          refine take_at (i := 2) (v := ?_) rfl (by kernel_rfl) (by kernel_rfl) (by kernel_rfl) (fun _ _ _ h => h) (by kernel_rfl) (by assumption) ?_ ?_
          rotate_left
          · (intro w hSw; (try dsimp only at hSw); go_simp; try with_reducible rfl)
          simp only [Act.put, List.setIfInBounds_toArray, List.set_cons_zero, List.set_cons_succ]
          refine take_at (i := 3) (v := ?_) rfl (by kernel_rfl) (by kernel_rfl) (by kernel_rfl) (fun _ _ _ h => h) (by kernel_rfl) (by assumption) ?_ ?_
          rotate_left
          · (intro w hSw; (try dsimp only at hSw); go_simp; try with_reducible rfl)
          simp only [Act.put, List.setIfInBounds_toArray, List.set_cons_zero, List.set_cons_succ]
          refine skip_at (i := 4) rfl (by kernel_rfl) (by kernel_rfl) (by kernel_rfl) (fun _ _ _ h => h) (by kernel_rfl) (by assumption) ?_
          simp only [Act.put, List.setIfInBounds_toArray, List.set_cons_zero, List.set_cons_succ]
          refine skip_at (i := 5) rfl (by kernel_rfl) (by kernel_rfl) (by kernel_rfl) (fun _ _ _ h => h) (by kernel_rfl) (by assumption) ?_
          simp only [Act.put, List.setIfInBounds_toArray, List.set_cons_zero, List.set_cons_succ]
          refine skip_at (i := 6) rfl (by kernel_rfl) (by kernel_rfl) (by kernel_rfl) (fun _ _ _ h => h) (by kernel_rfl) (by assumption) ?_
          simp only [Act.put, List.setIfInBounds_toArray, List.set_cons_zero, List.set_cons_succ]
          refine skip_at (i := 7) rfl (by kernel_rfl) (by kernel_rfl) (by kernel_rfl) (fun _ _ _ h => h) (by kernel_rfl) (by assumption) ?_
          simp only [Act.put, List.setIfInBounds_toArray, List.set_cons_zero, List.set_cons_succ]
          refine skip_at (i := 8) rfl (by kernel_rfl) (by kernel_rfl) (by kernel_rfl) (fun _ _ _ h => h) (by kernel_rfl) (by assumption) ?_
          simp only [Act.put, List.setIfInBounds_toArray, List.set_cons_zero, List.set_cons_succ]
          refine skip_at (i := 9) rfl (by kernel_rfl) (by kernel_rfl) (by kernel_rfl) (fun _ _ _ h => h) (by kernel_rfl) (by assumption) ?_
          simp only [Act.put, List.setIfInBounds_toArray, List.set_cons_zero, List.set_cons_succ]
          refine skip_at (i := 10) rfl (by kernel_rfl) (by kernel_rfl) (by kernel_rfl) (fun _ _ _ h => h) (by kernel_rfl) (by assumption) ?_
          simp only [Act.put, List.setIfInBounds_toArray, List.set_cons_zero, List.set_cons_succ]
          refine skip_at (i := 11) rfl (by kernel_rfl) (by kernel_rfl) (by kernel_rfl) (fun _ _ _ h => h) (by kernel_rfl) (by assumption) ?_
          simp only [Act.put, List.setIfInBounds_toArray, List.set_cons_zero, List.set_cons_succ]
          refine skip_at (i := 12) rfl (by kernel_rfl) (by kernel_rfl) (by kernel_rfl) (fun _ _ _ h => h) (by kernel_rfl) (by assumption) ?_
          simp only [Act.put, List.setIfInBounds_toArray, List.set_cons_zero, List.set_cons_succ]
          refine skip_at (i := 13) rfl (by kernel_rfl) (by kernel_rfl) (by kernel_rfl) (fun _ _ _ h => h) (by kernel_rfl) (by assumption) ?_
          simp only [Act.put, List.setIfInBounds_toArray, List.set_cons_zero, List.set_cons_succ]
          refine skip_at (i := 14) rfl (by kernel_rfl) (by kernel_rfl) (by kernel_rfl) (fun _ _ _ h => h) (by kernel_rfl) (by assumption) ?_
          simp only [Act.put, List.setIfInBounds_toArray, List.set_cons_zero, List.set_cons_succ]
          refine skip_at (i := 15) rfl (by kernel_rfl) (by kernel_rfl) (by kernel_rfl) (fun _ _ _ h => h) (by kernel_rfl) (by assumption) ?_
          simp only [Act.put, List.setIfInBounds_toArray, List.set_cons_zero, List.set_cons_succ]
          refine skip_at (i := 16) rfl (by kernel_rfl) (by kernel_rfl) (by kernel_rfl) (fun _ _ _ h => h) (by kernel_rfl) (by assumption) ?_
          simp only [Act.put, List.setIfInBounds_toArray, List.set_cons_zero, List.set_cons_succ]
          refine skip_at (i := 17) rfl (by kernel_rfl) (by kernel_rfl) (by kernel_rfl) (fun _ _ _ h => h) (by kernel_rfl) (by assumption) ?_
          simp only [Act.put, List.setIfInBounds_toArray, List.set_cons_zero, List.set_cons_succ]
          refine skip_at (i := 18) rfl (by kernel_rfl) (by kernel_rfl) (by kernel_rfl) (fun _ _ _ h => h) (by kernel_rfl) (by assumption) ?_
          simp only [Act.put, List.setIfInBounds_toArray, List.set_cons_zero, List.set_cons_succ]
          refine take_at (i := 19) (v := ?_) rfl (by kernel_rfl) (by kernel_rfl) (by kernel_rfl) (fun _ _ _ h => h) (by kernel_rfl) (by assumption) ?_ ?_
          rotate_left
          · (intro w hSw; (try dsimp only at hSw); go_simp; try with_reducible rfl)
          simp only [Act.put, List.setIfInBounds_toArray, List.set_cons_zero, List.set_cons_succ]
          refine take_at (i := 20) (v := ?_) rfl (by kernel_rfl) (by kernel_rfl) (by kernel_rfl) (fun _ _ _ h => h) (by kernel_rfl) (by assumption) ?_ ?_
          rotate_left
          · (intro w hSw; (try dsimp only at hSw); go_simp; try with_reducible rfl)
          simp only [Act.put, List.setIfInBounds_toArray, List.set_cons_zero, List.set_cons_succ]
          refine wpAnyH_done (by kernel_rfl) ?_ _
          clear hHeld
          have y3 := HAu.out.2.1.2.2.2.1
          go_wp2
          go_roundg (n - (i + 1))
          case rel => exact ⟨i + 1, by go_num, by omega, Nat.le_refl _, HBu⟩
          case measure => omega
    · obtain rfl : i = n := by omega
      go_wp2
      go_ret
      exact ⟨rfl, HB.out⟩
end Go.Proofs.Ytdeahnphcfcfpaa.Lab
