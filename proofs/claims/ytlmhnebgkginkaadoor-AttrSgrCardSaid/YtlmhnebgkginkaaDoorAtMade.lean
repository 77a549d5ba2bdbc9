/- The colour that parts make; the one of the numbers of one parameter; the one of the parameters behind. -/
import Derived.Test.YtlmhnebgkginkaaDoorAtColor
namespace Go.Proofs.YtlmhnebgkginkaaDoor.Lab
open Go Go.RowKit

/-- A block's head holds a colour. -/
def ColAt (w : World) (b : Nat) (c : Cl) : Prop := b < w.heap.size ∧ (w.cell? ⟨b, 0, none⟩ = some (.int .u8 c.k) ∧ w.cell? ⟨b, 1, none⟩ = some (.int .u8 c.r) ∧ w.cell? ⟨b, 2, none⟩ = some (.int .u8 c.g) ∧ w.cell? ⟨b, 3, none⟩ = some (.int .u8 c.b)) ∧ ∀ i, w.frozen? ⟨b, i, none⟩ = false
theorem ColAt.same {w w' : World} {b : Nat} {c : Cl} (h : ColAt w b c) (hs : w.heap.size ≤ w'.heap.size) (e : w'.heap[b]? = w.heap[b]?) : ColAt w' b c := by
  have k : ∀ i, w'.cell? ⟨b, i, none⟩ = w.cell? ⟨b, i, none⟩ := fun i => World.cell?_of_block e
  obtain ⟨h0, ⟨h1, h2, h3, h4⟩, hf⟩ := h
  exact ⟨by omega, ⟨(k 0).trans h1, (k 1).trans h2, (k 2).trans h3, (k 3).trans h4⟩, fun i => (World.frozen?_of_block (a := ⟨b, i, none⟩) e).trans (hf i)⟩
theorem ColAt.below {w w' : World} {b : Nat} {c : Cl} (h : ColAt w b c) (hb : Below w.heap.size w w') : ColAt w' b c := h.same hb.size (hb.block b h.1)
theorem ColAt.but {w w' : World} {b B : Nat} {c : Cl} (h : ColAt w b c) (hb : But B w w') (ne : b ≠ B) : ColAt w' b c := h.same hb.size (hb.block b h.1 (by simp; omega))
theorem ColAt.newAt (w : World) (n : Nat) (hn : n = w.heap.size) (c : Cl) (T : TypeId) : ColAt (w.alloc (.cells #[.int .u8 c.k, .int .u8 c.r, .int .u8 c.g, .int .u8 c.b] T)) n c := by
  subst hn
  exact ⟨by simp, ⟨by simp, by simp, by simp, by simp⟩, fun i => by simp⟩
theorem ColAt.put {w : World} {b : Nat} {c0 : Cl} (h : ColAt w b c0) (c : Cl) : ColAt (putC w b 0 c) b c := by
  obtain ⟨h0, ⟨h1, h2, h3, h4⟩, hf⟩ := h
  refine ⟨by rw [putC_size]; exact h0, ?_, fun i => by simp [putC, hf i]⟩
  unfold putC
  refine ⟨?_, ?_, ?_, ?_⟩ <;> simp [World.cell?_setCell_other, World.cell?_setCell_same', h1, h2, h3, h4]
abbrev madeV (c : Option Cl) : Value := .tuple #[colV (c.getD Cl.zero), .bool c.isSome]
theorem needed_5 (w : World) : Calls Tryd.prog 77 #[.int .i64 5] w fun e w' => e = .returned (.int .i64 1) ∧ w = w' := needed_any 5 w
theorem needed_2 (w : World) : Calls Tryd.prog 77 #[.int .i64 2] w fun e w' => e = .returned (.int .i64 3) ∧ w = w' := needed_any 2 w
theorem needed_no (k : Int) (h5 : k ≠ 5) (h2 : k ≠ 2) (w : World) : Calls Tryd.prog 77 #[.int .i64 k] w fun e w' => e = .returned (.int .i64 0) ∧ w = w' := by
  have := needed_any k w
  rw [show needed k = 0 by unfold needed; rw [if_neg h5, if_neg h2]] at this
  exact this

set_option maxHeartbeats 4000000 in
theorem made_any (w : World) (lo : Nat) (k : Int) (v : Value) (l : List Int) (h : BRow w lo v l) : Calls Tryd.prog 75 #[.int .i64 k, v] w fun e w' => e = .returned (madeV (madeM k l)) ∧ Below w.heap.size w w' := by
  obtain ⟨a, c, rfl⟩ := h.shape
  obtain ⟨w0, hw0⟩ : ∃ w0, w0 = w.alloc (.cells #[.int .u8 0, .int .u8 0, .int .u8 0, .int .u8 0] 23) := ⟨_, rfl⟩
  have b0 : Below w.heap.size w w0 := by rw [hw0]; exact (Below.refl _ _).alloc (Nat.le_refl _) _
  have HZ : ColAt w0 w.heap.size Cl.zero := by rw [hw0]; exact ColAt.newAt w _ rfl Cl.zero _
  have h0 := h.below b0
  obtain ⟨n, hn⟩ : ∃ n, n = l.length := ⟨_, rfl⟩
  have HN := Lib.hid hn
  rw [← hn] at h h0 ⊢
  have HBB := Lib.hid b0
  have ZE := fun (x : Cl) => Lib.hid (HZ.put x)
  have BE := fun (x : Cl) => Lib.hid (b0.trans ((putC_but w0 w.heap.size 0 x).below (C := w.heap.size) (Nat.le_refl _) b0.size))
  obtain ⟨y0, ⟨y1, y2, y3, y4⟩, yf⟩ := HZ
  dsimp only at y1 y2 y3 y4
  clear hn
  by_cases h5 : k = 5
  · subst h5
    by_cases hl : n < 1
    · have HM := Lib.hid (show madeM 5 l = none by unfold madeM; rw [if_pos (by rw [← HN.out]; exact hl)])
      obtain rfl : n = 0 := by omega
      go_enter Tryd.func75, Tryd.ntmps75
      go_wp2_with fail
      rw [← hw0]
      clear hw0
      refine (needed_5 w0).mono ?_
      rintro e wx ⟨rfl, rfl⟩
      have Z := (ZE Cl.zero).out
      have HB4 := BE Cl.zero
      clear ZE BE
      go_wp2
      simp only [putC, Nat.zero_add] at Z HB4
      obtain ⟨z0, ⟨z1, z2, z3, z4⟩, zf⟩ := Z
      dsimp only at z1 z2 z3 z4
      rw [HM.out]
      exact bodyPost_ret (v := .tuple #[colV Cl.zero, .bool false]) (by simp [results, Tryd.results75, go_sem, z1, z2, z3, z4]) rfl ⟨rfl, HB4.out⟩
    · have HM := Lib.hid (show madeM 5 l = some ⟨1, l.getD 0 0, 0, 0⟩ by unfold madeM; rw [if_neg (by rw [← HN.out]; exact hl), if_pos rfl])
      obtain ⟨g, rfl, hg, hcell⟩ := BRow.cell h0 (by rw [← HN.out]; omega)
      have a0 := hcell 0 (by rw [← HN.out]; omega)
      obtain ⟨x0, hx0⟩ : ∃ x, x = l.getD 0 0 := ⟨_, rfl⟩
      rw [← hx0] at a0 HM
      clear hcell hx0
      go_enter Tryd.func75, Tryd.ntmps75
      go_wp2_with fail
      rw [← hw0]
      clear hw0
      refine (needed_5 w0).mono ?_
      rintro e wx ⟨rfl, rfl⟩
      have Z := (ZE ⟨1, x0, 0, 0⟩).out
      have HB4 := BE ⟨1, x0, 0, 0⟩
      clear ZE BE
      go_wp2
      simp only [putC, Nat.zero_add] at Z HB4
      obtain ⟨z0, ⟨z1, z2, z3, z4⟩, zf⟩ := Z
      dsimp only at z1 z2 z3 z4
      rw [HM.out]
      exact bodyPost_ret (v := .tuple #[colV ⟨1, x0, 0, 0⟩, .bool true]) (by simp [results, Tryd.results75, go_sem, z1, z2, z3, z4]) rfl ⟨rfl, HB4.out⟩
  · by_cases h2 : k = 2
    · subst h2
      by_cases hl : n < 3
      · have HM := Lib.hid (show madeM 2 l = none by unfold madeM; rw [if_pos (by rw [← HN.out]; exact hl)])
        go_enter Tryd.func75, Tryd.ntmps75
        go_wp2_with fail
        rw [← hw0]
        clear hw0
        refine (needed_2 w0).mono ?_
        rintro e wx ⟨rfl, rfl⟩
        have Z := (ZE Cl.zero).out
        have HB4 := BE Cl.zero
        clear ZE BE
        go_wp2
        simp only [putC, Nat.zero_add] at Z HB4
        obtain ⟨z0, ⟨z1, z2, z3, z4⟩, zf⟩ := Z
        dsimp only at z1 z2 z3 z4
        rw [HM.out]
        exact bodyPost_ret (v := .tuple #[colV Cl.zero, .bool false]) (by simp [results, Tryd.results75, go_sem, z1, z2, z3, z4]) rfl ⟨rfl, HB4.out⟩
      · have HM := Lib.hid (show madeM 2 l = some ⟨2, l.getD 0 0, l.getD 1 0, l.getD 2 0⟩ by unfold madeM; rw [if_neg (by rw [← HN.out]; exact hl), if_neg (by decide), if_pos rfl])
        obtain ⟨g, rfl, hg, hcell⟩ := BRow.cell h0 (by rw [← HN.out]; omega)
        have a0 := hcell 0 (by rw [← HN.out]; omega)
        have a1 := hcell 1 (by rw [← HN.out]; omega)
        have a2 := hcell 2 (by rw [← HN.out]; omega)
        obtain ⟨x0, hx0⟩ : ∃ x, x = l.getD 0 0 := ⟨_, rfl⟩
        obtain ⟨x1, hx1⟩ : ∃ x, x = l.getD 1 0 := ⟨_, rfl⟩
        obtain ⟨x2, hx2⟩ : ∃ x, x = l.getD 2 0 := ⟨_, rfl⟩
        rw [← hx0] at a0 HM
        rw [← hx1] at a1 HM
        rw [← hx2] at a2 HM
        simp only [Nat.zero_add] at a0 a1 a2
        clear hcell hx0 hx1 hx2
        obtain ⟨g', eg, hgw, _⟩ := BRow.cell h (by rw [← HN.out]; omega)
        obtain rfl : g = g' := by injection eg with eg; injection eg
        have hne : g ≠ w.heap.size := by omega
        have n0 : 0 < n := by omega
        have n1 : (1 : Int) < n := by omega
        have n2 : (2 : Int) < n := by omega
        have SS : ∀ W : World, W.heap[g]? = w0.heap[g]? → W.cell? ⟨g, 0, none⟩ = some (.int .u8 x0) ∧ W.cell? ⟨g, 1, none⟩ = some (.int .u8 x1) ∧ W.cell? ⟨g, 2, none⟩ = some (.int .u8 x2) := fun W e => ⟨(World.cell?_of_block (a := ⟨g, 0, none⟩) e).trans a0, (World.cell?_of_block (a := ⟨g, 1, none⟩) e).trans a1, (World.cell?_of_block (a := ⟨g, 2, none⟩) e).trans a2⟩
        have HSS := Lib.hid SS
        clear SS h h0 eg hgw
        go_enter Tryd.func75, Tryd.ntmps75
        go_wp2_with fail
        rw [← hw0]
        clear hw0
        refine (needed_2 w0).mono ?_
        rintro e wx ⟨rfl, rfl⟩
        go_wp2_with fail
        refine wp_region_held_drew (S := fun w' => w'.cell? ⟨g, 0, none⟩ = some (.int .u8 x0) ∧ w'.cell? ⟨g, 1, none⟩ = some (.int .u8 x1) ∧ w'.cell? ⟨g, 2, none⟩ = some (.int .u8 x2)) (by kernel_rfl) ?_ (fun hHeld => ?_)
        · exact HSS.out _ rfl
        obtain ⟨u0, hu0⟩ : ∃ u0, u0 = w0.drew := ⟨_, rfl⟩
        have HU := Lib.hid (show u0.heap[g]? = w0.heap[g]? by rw [hu0]; rfl)
        have HZU := Lib.hid (show ColAt u0 w.heap.size Cl.zero by rw [hu0]; exact ⟨y0, ⟨y1, y2, y3, y4⟩, yf⟩)
        have HBU := Lib.hid (show Below w.heap.size w u0 by rw [hu0]; exact HBB.out.drew)
        rw [← hu0] at hHeld ⊢
        clear hu0 y0 y1 y2 y3 y4 yf a0 a1 a2 ZE BE
        obtain ⟨y0, ⟨y1, y2, y3, y4⟩, yf⟩ := HZU.out
        dsimp only at y1 y2 y3 y4
        refine take_at (i := 0) (v := ?_) rfl (by kernel_rfl) (by kernel_rfl) (by kernel_rfl) (fun _ _ _ h => h) (by kernel_rfl) (by assumption) ?_ ?_
        rotate_left
        · (intro w hSw; (try dsimp only at hSw); go_simp; try with_reducible rfl)
        simp only [Act.put, List.setIfInBounds_toArray, List.set_cons_zero, List.set_cons_succ]
        refine take_at (i := 1) (v := ?_) rfl (by kernel_rfl) (by kernel_rfl) (by kernel_rfl) (fun _ _ _ h => h) (by kernel_rfl) (by assumption) ?_ ?_
        rotate_left
        · (intro w hSw; (try dsimp only at hSw); go_simp; try with_reducible rfl)
        simp only [Act.put, List.setIfInBounds_toArray, List.set_cons_zero, List.set_cons_succ]
        refine take_at (i := 2) (v := ?_) rfl (by kernel_rfl) (by kernel_rfl) (by kernel_rfl) (fun _ _ _ h => h) (by kernel_rfl) (by assumption) ?_ ?_
        rotate_left
        · (intro w hSw; (try dsimp only at hSw); go_simp; try with_reducible rfl)
        simp only [Act.put, List.setIfInBounds_toArray, List.set_cons_zero, List.set_cons_succ]
        refine take_at (i := 3) (v := ?_) rfl (by kernel_rfl) (by kernel_rfl) (by kernel_rfl) (fun _ _ _ h => h) (by kernel_rfl) (by assumption) ?_ ?_
        rotate_left
        · (intro w hSw; (try dsimp only at hSw); go_simp; try with_reducible rfl)
        simp only [Act.put, List.setIfInBounds_toArray, List.set_cons_zero, List.set_cons_succ]
        refine take_at (i := 4) (v := ?_) rfl (by kernel_rfl) (by kernel_rfl) (by kernel_rfl) (fun _ _ _ h => h) (by kernel_rfl) (by assumption) ?_ ?_
        rotate_left
        · (intro w hSw; (try dsimp only at hSw); go_simp; try with_reducible rfl)
        simp only [Act.put, List.setIfInBounds_toArray, List.set_cons_zero, List.set_cons_succ]
        refine take_at (i := 5) (v := ?_) rfl (by kernel_rfl) (by kernel_rfl) (by kernel_rfl) (fun _ _ _ h => h) (by kernel_rfl) (by assumption) ?_ ?_
        rotate_left
        · (intro w hSw; (try dsimp only at hSw); go_simp; try with_reducible rfl)
        simp only [Act.put, List.setIfInBounds_toArray, List.set_cons_zero, List.set_cons_succ]
        refine take_at (i := 6) (v := ?_) rfl (by kernel_rfl) (by kernel_rfl) (by kernel_rfl) (fun _ _ _ h => h) (by kernel_rfl) (by assumption) ?_ ?_
        rotate_left
        · (intro w hSw; (try dsimp only at hSw); go_simp; try with_reducible rfl)
        simp only [Act.put, List.setIfInBounds_toArray, List.set_cons_zero, List.set_cons_succ]
        refine take_at (i := 7) (v := ?_) rfl (by kernel_rfl) (by kernel_rfl) (by kernel_rfl) (fun _ _ _ h => h) (by kernel_rfl) (by assumption) ?_ ?_
        rotate_left
        · (intro w hSw; (try dsimp only at hSw); go_simp; try with_reducible rfl)
        simp only [Act.put, List.setIfInBounds_toArray, List.set_cons_zero, List.set_cons_succ]
        refine take_at (i := 8) (v := ?_) rfl (by kernel_rfl) (by kernel_rfl) (by kernel_rfl) (fun _ _ _ h => h) (by kernel_rfl) (by assumption) ?_ ?_
        rotate_left
        · (intro w hSw; (try dsimp only at hSw); go_simp; try with_reducible rfl)
        simp only [Act.put, List.setIfInBounds_toArray, List.set_cons_zero, List.set_cons_succ]
        refine take_at (i := 9) (v := ?_) rfl (by kernel_rfl) (by kernel_rfl) (by kernel_rfl) (fun _ _ _ h => h) (by kernel_rfl) (by assumption) ?_ ?_
        rotate_left
        · (intro w hSw; (try dsimp only at hSw); go_simp; try with_reducible rfl)
        simp only [Act.put, List.setIfInBounds_toArray, List.set_cons_zero, List.set_cons_succ]
        refine do_at (i := 10) rfl (by kernel_rfl) (by kernel_rfl) (fun K hK => ?_)
        go_wp2_with fail
        refine hK.out _ _ ?_ (fun hHeld => ?_)
        · exact HSS.out _ ((putC_heap u0 w.heap.size 0 g ⟨2, x0, x1, x2⟩ hne).trans HU.out)
        clear hK K
        try simp only [Act.put, List.setIfInBounds_toArray, List.set_cons_zero, List.set_cons_succ]
        refine take_at (i := 11) (v := ?_) rfl (by kernel_rfl) (by kernel_rfl) (by kernel_rfl) (fun _ _ _ h => h) (by kernel_rfl) (by assumption) ?_ ?_
        rotate_left
        · (intro w hSw; (try dsimp only at hSw); go_simp; try with_reducible rfl)
        simp only [Act.put, List.setIfInBounds_toArray, List.set_cons_zero, List.set_cons_succ]
        refine wpAnyH_done (by kernel_rfl) ?_ _
        have Z := HZU.out.put ⟨2, x0, x1, x2⟩
        have HB4 := Lib.hid (HBU.out.trans ((putC_but u0 w.heap.size 0 ⟨2, x0, x1, x2⟩).below (C := w.heap.size) (Nat.le_refl _) HBU.out.size))
        go_wp2
        simp only [putC, Nat.zero_add] at Z HB4
        obtain ⟨z0, ⟨z1, z2, z3, z4⟩, zf⟩ := Z
        dsimp only at z1 z2 z3 z4
        rw [HM.out]
        exact bodyPost_ret (v := .tuple #[colV ⟨2, x0, x1, x2⟩, .bool true]) (by simp [results, Tryd.results75, go_sem, z1, z2, z3, z4]) rfl ⟨rfl, HB4.out⟩
    · have e5 : (k == 5) = false := by simp [h5]
      have e2 : (k == 2) = false := by simp [h2]
      have HM := Lib.hid (show madeM k l = none by unfold madeM; rw [if_neg (by unfold needed; rw [if_neg h5, if_neg h2]; omega), if_neg h5, if_neg h2])
      go_enter Tryd.func75, Tryd.ntmps75
      go_wp2_with fail
      rw [← hw0]
      clear hw0
      refine (needed_no k h5 h2 w0).mono ?_
      rintro e wx ⟨rfl, rfl⟩
      have Z := (ZE Cl.zero).out
      have HB4 := BE Cl.zero
      clear ZE BE
      go_wp2
      simp only [putC, Nat.zero_add] at Z HB4
      obtain ⟨z0, ⟨z1, z2, z3, z4⟩, zf⟩ := Z
      dsimp only at z1 z2 z3 z4
      rw [HM.out]
      exact bodyPost_ret (v := .tuple #[colV Cl.zero, .bool false]) (by simp [results, Tryd.results75, go_sem, z1, z2, z3, z4]) rfl ⟨rfl, HB4.out⟩
end Go.Proofs.YtlmhnebgkginkaaDoor.Lab
