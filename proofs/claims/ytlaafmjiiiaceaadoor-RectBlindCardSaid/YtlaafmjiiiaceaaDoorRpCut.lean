/- The project's breaking of one pair. -/
import Derived.Test.YtlaafmjiiiaceaaDoorRpWide
import Derived.Test.YtlaafmjiiiaceaaDoorRoBrk
namespace Go.Proofs.YtlaafmjiiiaceaaDoor.Lab
open Go Go.RowKit

set_option maxHeartbeats 8000000 in
set_option maxRecDepth 100000 in
theorem cut_any (W : World) (lo g n c : Nat) (R : Cls) (q p : Nat) (H : CRow W lo (.slice (some ⟨g, 0, none⟩) n c) R) (hn : n = R.length) (hq : q < n) (hp : p < n) :
    Calls Tryd.prog 75 #[.pointer (some ⟨g, q * 14, none⟩), .pointer (some ⟨g, p * 14, none⟩)] W fun e w' => e = .returned (.tuple #[]) ∧ CRow w' lo (.slice (some ⟨g, 0, none⟩) n c) ((R.set q (gc R q).bare).set p (gc R p).bare) ∧ But g W w' := by
  have HN := Lib.hid hn
  have HQL := Lib.hid (show q < R.length by omega)
  have HPL := Lib.hid (show p < R.length by omega)
  obtain ⟨x, hx⟩ : ∃ x, x = gc R q := ⟨_, rfl⟩
  obtain ⟨y, hy⟩ : ∃ y, y = gc R p := ⟨_, rfl⟩
  obtain ⟨bx, hbx⟩ : ∃ b, b = x.bare := ⟨_, rfl⟩
  obtain ⟨bz, hbz⟩ : ∃ b, b = y.bare := ⟨_, rfl⟩
  have HX := Lib.hid hx
  have HY := Lib.hid hy
  have CX := Lib.hid (show ∀ W, Calls Tryd.prog 73 #[celV x] W fun e w' => e = .returned (celV bx) ∧ Below W.heap.size W w' from fun W => by rw [hbx]; exact half_any W x)
  have CY := Lib.hid (show ∀ W, Calls Tryd.prog 73 #[celV y] W fun e w' => e = .returned (celV bz) ∧ Below W.heap.size W w' from fun W => by rw [hbz]; exact half_any W y)
  have HPS := Lib.hid (show p < (R.set q bx).length by rw [List.length_set]; omega)
  have HNS := Lib.hid (show n = (R.set q bx).length by rw [List.length_set]; exact hn)
  rw [← hx, ← hy, ← hbx, ← hbz]
  clear hx hy hbx hbz hn hq hp
  go_enter Tryd.func75, Tryd.ntmps75
  go_upto_region 0 with (fail)
  refine wp_region_held_drew (S := fun _ => True) (by kernel_rfl) ?_ (fun hHeld => ?_)
  · trivial
  obtain ⟨u0, hu0⟩ : ∃ u0, u0 = W.drew := ⟨_, rfl⟩
  have bd : Below W.heap.size W u0 := by rw [hu0]; exact ⟨rfl, rfl, rfl, Nat.le_refl _, fun _ _ => rfl⟩
  have HRu0 := Lib.hid (H.below bd)
  have HBu0 := Lib.hid (But.of (B := g) bd)
  rw [← hu0]
  clear hu0 bd H
  refine tk 0 rfl (fun w hSw => by (try dsimp only at hSw); go_simp; try with_reducible rfl) ?_
  go_frame
  refine tk 1 rfl (fun w hSw => by (try dsimp only at hSw); go_simp; try with_reducible rfl) ?_
  go_frame
  refine tk 2 rfl (fun w hSw => by (try dsimp only at hSw); go_simp; try with_reducible rfl) ?_
  go_frame
  refine tk 3 rfl (fun w hSw => by (try dsimp only at hSw); go_simp; try with_reducible rfl) ?_
  go_frame
  refine tk 6 rfl (fun w hSw => by (try dsimp only at hSw); go_simp; try with_reducible rfl) ?_
  go_frame
  refine tk 7 rfl (fun w hSw => by (try dsimp only at hSw); go_simp; try with_reducible rfl) ?_
  go_frame
  refine two_at (i := 4) (j := 8) rfl rfl (by kernel_rfl) (by kernel_rfl) (by kernel_rfl) (fun K hK => ?_) (fun K hK => ?_)
  · have ha := HRu0.out.at HQL.out
    rw [← HX.out] at ha
    obtain ⟨a0, a1, a2, a3, a4, a5, a6, a7, a8, a9, a10, a11, a12, a13⟩ := ha
    go_wp2_with fail
    clear a0 a1 a2 a3 a4 a5 a6 a7 a8 a9 a10 a11 a12 a13
    refine hK.out _ _ ?_ (fun hHeld => ?_)
    · trivial
    clear hK K
    try go_frame
    refine two_at (i := 5) (j := 8) rfl rfl (by kernel_rfl) (by kernel_rfl) (by kernel_rfl) (fun K hK => ?_) (fun K hK => ?_)
    · go_wp2_with fail
      refine (CX.out _).mono ?_
      rintro e w1 ⟨rfl, bb⟩
      have HRw1 := Lib.hid (HRu0.out.below bb)
      have HBw1 := Lib.hid (HBu0.out.trans (But.of bb))
      clear bb HRu0 HBu0
      go_wp2_with fail
      refine hK.out _ _ ?_ (fun hHeld => ?_)
      · trivial
      clear hK K
      try go_frame
      refine do_at (i := 8) rfl (by kernel_rfl) (by kernel_rfl) (fun K hK => ?_)
      have ha := HRw1.out.at HPL.out
      rw [← HY.out] at ha
      obtain ⟨a0, a1, a2, a3, a4, a5, a6, a7, a8, a9, a10, a11, a12, a13⟩ := ha
      go_wp2_with fail
      clear a0 a1 a2 a3 a4 a5 a6 a7 a8 a9 a10 a11 a12 a13
      refine hK.out _ _ ?_ (fun hHeld => ?_)
      · trivial
      clear hK K
      try go_frame
      refine do_at (i := 9) rfl (by kernel_rfl) (by kernel_rfl) (fun K hK => ?_)
      go_wp2_with fail
      refine (CY.out _).mono ?_
      rintro e w2 ⟨rfl, bb⟩
      have HRw2 := Lib.hid (HRw1.out.below bb)
      have HBw2 := Lib.hid (HBw1.out.trans (But.of bb))
      clear bb HRw1 HBw1
      go_wp2_with fail
      refine hK.out _ _ ?_ (fun hHeld => ?_)
      · trivial
      clear hK K
      try go_frame
      refine tk 10 rfl (fun w hSw => by (try dsimp only at hSw); go_simp; try with_reducible rfl) ?_
      go_frame
      refine do_at (i := 11) rfl (by kernel_rfl) (by kernel_rfl) (fun K hK => ?_)
      obtain ⟨w3, hw3⟩ : ∃ w, w = put14 w2 g (q * 14) bx := ⟨_, rfl⟩
      have HRw3 := Lib.hid (show CRow w3 lo (.slice (some ⟨g, 0, none⟩) n c) (R.set q bx) by rw [hw3]; exact HRw2.out.put HN.out HQL.out bx)
      have HBw3 := Lib.hid (show But g W w3 by rw [hw3]; exact HBw2.out.trans (put14_but w2 g (q * 14) bx))
      have HF := fun j => HRw2.out.frozen HN.out j
      have ha := HRw2.out.at HQL.out
      obtain ⟨a0, a1, a2, a3, a4, a5, a6, a7, a8, a9, a10, a11, a12, a13⟩ := ha
      simp only [put14] at hw3
      go_wp2_with fail
      rw [← hw3]
      clear hw3 HF HRw2 HBw2 a0 a1 a2 a3 a4 a5 a6 a7 a8 a9 a10 a11 a12 a13
      refine hK.out _ _ ?_ (fun hHeld => ?_)
      · trivial
      clear hK K
      try go_frame
      refine tk 12 rfl (fun w hSw => by (try dsimp only at hSw); go_simp; try with_reducible rfl) ?_
      go_frame
      refine do_at (i := 13) rfl (by kernel_rfl) (by kernel_rfl) (fun K hK => ?_)
      obtain ⟨w4, hw4⟩ : ∃ w, w = put14 w3 g (p * 14) bz := ⟨_, rfl⟩
      have HRw4 := Lib.hid (show CRow w4 lo (.slice (some ⟨g, 0, none⟩) n c) ((R.set q bx).set p bz) by rw [hw4]; exact HRw3.out.put HNS.out HPS.out bz)
      have HBw4 := Lib.hid (show But g W w4 by rw [hw4]; exact HBw3.out.trans (put14_but w3 g (p * 14) bz))
      have HF := fun j => HRw3.out.frozen HNS.out j
      have ha := HRw3.out.at HPS.out
      obtain ⟨a0, a1, a2, a3, a4, a5, a6, a7, a8, a9, a10, a11, a12, a13⟩ := ha
      simp only [put14] at hw4
      go_wp2_with fail
      rw [← hw4]
      clear hw4 HF HRw3 HBw3 a0 a1 a2 a3 a4 a5 a6 a7 a8 a9 a10 a11 a12 a13
      refine hK.out _ _ ?_ (fun hHeld => ?_)
      · trivial
      clear hK K
      try go_frame
      refine wpAnyH_done (by kernel_rfl) ?_ _
      clear hHeld
      go_wp2
      go_end0
      exact ⟨rfl, HRw4.out, HBw4.out⟩
    · have ha := HRu0.out.at HPL.out
      rw [← HY.out] at ha
      obtain ⟨a0, a1, a2, a3, a4, a5, a6, a7, a8, a9, a10, a11, a12, a13⟩ := ha
      go_wp2_with fail
      clear a0 a1 a2 a3 a4 a5 a6 a7 a8 a9 a10 a11 a12 a13
      refine hK.out _ _ ?_ (fun hHeld => ?_)
      · trivial
      clear hK K
      try go_frame
      refine do_at (i := 5) rfl (by kernel_rfl) (by kernel_rfl) (fun K hK => ?_)
      go_wp2_with fail
      refine (CX.out _).mono ?_
      rintro e w1 ⟨rfl, bb⟩
      have HRw1 := Lib.hid (HRu0.out.below bb)
      have HBw1 := Lib.hid (HBu0.out.trans (But.of bb))
      clear bb HRu0 HBu0
      go_wp2_with fail
      refine hK.out _ _ ?_ (fun hHeld => ?_)
      · trivial
      clear hK K
      try go_frame
      refine do_at (i := 9) rfl (by kernel_rfl) (by kernel_rfl) (fun K hK => ?_)
      go_wp2_with fail
      refine (CY.out _).mono ?_
      rintro e w2 ⟨rfl, bb⟩
      have HRw2 := Lib.hid (HRw1.out.below bb)
      have HBw2 := Lib.hid (HBw1.out.trans (But.of bb))
      clear bb HRw1 HBw1
      go_wp2_with fail
      refine hK.out _ _ ?_ (fun hHeld => ?_)
      · trivial
      clear hK K
      try go_frame
      refine tk 10 rfl (fun w hSw => by (try dsimp only at hSw); go_simp; try with_reducible rfl) ?_
      go_frame
      refine do_at (i := 11) rfl (by kernel_rfl) (by kernel_rfl) (fun K hK => ?_)
      obtain ⟨w3, hw3⟩ : ∃ w, w = put14 w2 g (q * 14) bx := ⟨_, rfl⟩
      have HRw3 := Lib.hid (show CRow w3 lo (.slice (some ⟨g, 0, none⟩) n c) (R.set q bx) by rw [hw3]; exact HRw2.out.put HN.out HQL.out bx)
      have HBw3 := Lib.hid (show But g W w3 by rw [hw3]; exact HBw2.out.trans (put14_but w2 g (q * 14) bx))
      have HF := fun j => HRw2.out.frozen HN.out j
      have ha := HRw2.out.at HQL.out
      obtain ⟨a0, a1, a2, a3, a4, a5, a6, a7, a8, a9, a10, a11, a12, a13⟩ := ha
      simp only [put14] at hw3
      go_wp2_with fail
      rw [← hw3]
      clear hw3 HF HRw2 HBw2 a0 a1 a2 a3 a4 a5 a6 a7 a8 a9 a10 a11 a12 a13
      refine hK.out _ _ ?_ (fun hHeld => ?_)
      · trivial
      clear hK K
      try go_frame
      refine tk 12 rfl (fun w hSw => by (try dsimp only at hSw); go_simp; try with_reducible rfl) ?_
      go_frame
      refine do_at (i := 13) rfl (by kernel_rfl) (by kernel_rfl) (fun K hK => ?_)
      obtain ⟨w4, hw4⟩ : ∃ w, w = put14 w3 g (p * 14) bz := ⟨_, rfl⟩
      have HRw4 := Lib.hid (show CRow w4 lo (.slice (some ⟨g, 0, none⟩) n c) ((R.set q bx).set p bz) by rw [hw4]; exact HRw3.out.put HNS.out HPS.out bz)
      have HBw4 := Lib.hid (show But g W w4 by rw [hw4]; exact HBw3.out.trans (put14_but w3 g (p * 14) bz))
      have HF := fun j => HRw3.out.frozen HNS.out j
      have ha := HRw3.out.at HPS.out
      obtain ⟨a0, a1, a2, a3, a4, a5, a6, a7, a8, a9, a10, a11, a12, a13⟩ := ha
      simp only [put14] at hw4
      go_wp2_with fail
      rw [← hw4]
      clear hw4 HF HRw3 HBw3 a0 a1 a2 a3 a4 a5 a6 a7 a8 a9 a10 a11 a12 a13
      refine hK.out _ _ ?_ (fun hHeld => ?_)
      · trivial
      clear hK K
      try go_frame
      refine wpAnyH_done (by kernel_rfl) ?_ _
      clear hHeld
      go_wp2
      go_end0
      exact ⟨rfl, HRw4.out, HBw4.out⟩
  · have ha := HRu0.out.at HPL.out
    rw [← HY.out] at ha
    obtain ⟨a0, a1, a2, a3, a4, a5, a6, a7, a8, a9, a10, a11, a12, a13⟩ := ha
    go_wp2_with fail
    clear a0 a1 a2 a3 a4 a5 a6 a7 a8 a9 a10 a11 a12 a13
    refine hK.out _ _ ?_ (fun hHeld => ?_)
    · trivial
    clear hK K
    try go_frame
    refine do_at (i := 4) rfl (by kernel_rfl) (by kernel_rfl) (fun K hK => ?_)
    have ha := HRu0.out.at HQL.out
    rw [← HX.out] at ha
    obtain ⟨a0, a1, a2, a3, a4, a5, a6, a7, a8, a9, a10, a11, a12, a13⟩ := ha
    go_wp2_with fail
    clear a0 a1 a2 a3 a4 a5 a6 a7 a8 a9 a10 a11 a12 a13
    refine hK.out _ _ ?_ (fun hHeld => ?_)
    · trivial
    clear hK K
    try go_frame
    refine do_at (i := 5) rfl (by kernel_rfl) (by kernel_rfl) (fun K hK => ?_)
    go_wp2_with fail
    refine (CX.out _).mono ?_
    rintro e w1 ⟨rfl, bb⟩
    have HRw1 := Lib.hid (HRu0.out.below bb)
    have HBw1 := Lib.hid (HBu0.out.trans (But.of bb))
    clear bb HRu0 HBu0
    go_wp2_with fail
    refine hK.out _ _ ?_ (fun hHeld => ?_)
    · trivial
    clear hK K
    try go_frame
    refine do_at (i := 9) rfl (by kernel_rfl) (by kernel_rfl) (fun K hK => ?_)
    go_wp2_with fail
    refine (CY.out _).mono ?_
    rintro e w2 ⟨rfl, bb⟩
    have HRw2 := Lib.hid (HRw1.out.below bb)
    have HBw2 := Lib.hid (HBw1.out.trans (But.of bb))
    clear bb HRw1 HBw1
    go_wp2_with fail
    refine hK.out _ _ ?_ (fun hHeld => ?_)
    · trivial
    clear hK K
    try go_frame
    refine tk 10 rfl (fun w hSw => by (try dsimp only at hSw); go_simp; try with_reducible rfl) ?_
    go_frame
    refine do_at (i := 11) rfl (by kernel_rfl) (by kernel_rfl) (fun K hK => ?_)
    obtain ⟨w3, hw3⟩ : ∃ w, w = put14 w2 g (q * 14) bx := ⟨_, rfl⟩
    have HRw3 := Lib.hid (show CRow w3 lo (.slice (some ⟨g, 0, none⟩) n c) (R.set q bx) by rw [hw3]; exact HRw2.out.put HN.out HQL.out bx)
    have HBw3 := Lib.hid (show But g W w3 by rw [hw3]; exact HBw2.out.trans (put14_but w2 g (q * 14) bx))
    have HF := fun j => HRw2.out.frozen HN.out j
    have ha := HRw2.out.at HQL.out
    obtain ⟨a0, a1, a2, a3, a4, a5, a6, a7, a8, a9, a10, a11, a12, a13⟩ := ha
    simp only [put14] at hw3
    go_wp2_with fail
    rw [← hw3]
    clear hw3 HF HRw2 HBw2 a0 a1 a2 a3 a4 a5 a6 a7 a8 a9 a10 a11 a12 a13
    refine hK.out _ _ ?_ (fun hHeld => ?_)
    · trivial
    clear hK K
    try go_frame
    refine tk 12 rfl (fun w hSw => by (try dsimp only at hSw); go_simp; try with_reducible rfl) ?_
    go_frame
    refine do_at (i := 13) rfl (by kernel_rfl) (by kernel_rfl) (fun K hK => ?_)
    obtain ⟨w4, hw4⟩ : ∃ w, w = put14 w3 g (p * 14) bz := ⟨_, rfl⟩
    have HRw4 := Lib.hid (show CRow w4 lo (.slice (some ⟨g, 0, none⟩) n c) ((R.set q bx).set p bz) by rw [hw4]; exact HRw3.out.put HNS.out HPS.out bz)
    have HBw4 := Lib.hid (show But g W w4 by rw [hw4]; exact HBw3.out.trans (put14_but w3 g (p * 14) bz))
    have HF := fun j => HRw3.out.frozen HNS.out j
    have ha := HRw3.out.at HPS.out
    obtain ⟨a0, a1, a2, a3, a4, a5, a6, a7, a8, a9, a10, a11, a12, a13⟩ := ha
    simp only [put14] at hw4
    go_wp2_with fail
    rw [← hw4]
    clear hw4 HF HRw3 HBw3 a0 a1 a2 a3 a4 a5 a6 a7 a8 a9 a10 a11 a12 a13
    refine hK.out _ _ ?_ (fun hHeld => ?_)
    · trivial
    clear hK K
    try go_frame
    refine wpAnyH_done (by kernel_rfl) ?_ _
    clear hHeld
    go_wp2
    go_end0
    exact ⟨rfl, HRw4.out, HBw4.out⟩

end Go.Proofs.YtlaafmjiiiaceaaDoor.Lab
