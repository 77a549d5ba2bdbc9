/- The project's cells: what something takes in a row. -/
import Derived.Test.YthildghpgajgoaaRpRight
namespace Go.Proofs.Ythildghpgajgoaa.Lab
open Go Go.RowKit

def takesM (c : Cel) (wide : Bool) : Cls := if wide = true then [{ c with k := 1 }, rightC c] else [{ c with k := 0 }]
theorem CRow.lit1 (w : World) (n : Nat) (hn : n = w.heap.size) (c : Cel) : CRow (w.alloc (.cells #[.int .i32 c.ru, .int .i32 c.m0, .int .i32 c.m1, .int .u8 c.k, .int .u8 c.a.fg.k, .int .u8 c.a.fg.r, .int .u8 c.a.fg.g, .int .u8 c.a.fg.b, .int .u8 c.a.bg.k, .int .u8 c.a.bg.r, .int .u8 c.a.bg.g, .int .u8 c.a.bg.b, .int .u16 (c.a.fl : Nat), .int .u8 c.l] 44)) w.heap.size (.slice (some ⟨n, 0, none⟩) 1 1) [c] := by
  subst hn
  exact World.ownsRow_lit (e := 44) (base := w.heap.size) (size := 14) w #[.int .i32 c.ru, .int .i32 c.m0, .int .i32 c.m1, .int .u8 c.k, .int .u8 c.a.fg.k, .int .u8 c.a.fg.r, .int .u8 c.a.fg.g, .int .u8 c.a.fg.b, .int .u8 c.a.bg.k, .int .u8 c.a.bg.r, .int .u8 c.a.bg.g, .int .u8 c.a.bg.b, .int .u16 (c.a.fl : Nat), .int .u8 c.l] 1 (Nat.le_refl _) (by decide) rfl
theorem CRow.lit2 (w : World) (n : Nat) (hn : n = w.heap.size) (c d : Cel) : CRow (w.alloc (.cells #[.int .i32 c.ru, .int .i32 c.m0, .int .i32 c.m1, .int .u8 c.k, .int .u8 c.a.fg.k, .int .u8 c.a.fg.r, .int .u8 c.a.fg.g, .int .u8 c.a.fg.b, .int .u8 c.a.bg.k, .int .u8 c.a.bg.r, .int .u8 c.a.bg.g, .int .u8 c.a.bg.b, .int .u16 (c.a.fl : Nat), .int .u8 c.l, .int .i32 d.ru, .int .i32 d.m0, .int .i32 d.m1, .int .u8 d.k, .int .u8 d.a.fg.k, .int .u8 d.a.fg.r, .int .u8 d.a.fg.g, .int .u8 d.a.fg.b, .int .u8 d.a.bg.k, .int .u8 d.a.bg.r, .int .u8 d.a.bg.g, .int .u8 d.a.bg.b, .int .u16 (d.a.fl : Nat), .int .u8 d.l] 44)) w.heap.size (.slice (some ⟨n, 0, none⟩) 2 2) [c, d] := by
  subst hn
  exact World.ownsRow_lit (e := 44) (base := w.heap.size) (size := 14) w #[.int .i32 c.ru, .int .i32 c.m0, .int .i32 c.m1, .int .u8 c.k, .int .u8 c.a.fg.k, .int .u8 c.a.fg.r, .int .u8 c.a.fg.g, .int .u8 c.a.fg.b, .int .u8 c.a.bg.k, .int .u8 c.a.bg.r, .int .u8 c.a.bg.g, .int .u8 c.a.bg.b, .int .u16 (c.a.fl : Nat), .int .u8 c.l, .int .i32 d.ru, .int .i32 d.m0, .int .i32 d.m1, .int .u8 d.k, .int .u8 d.a.fg.k, .int .u8 d.a.fg.r, .int .u8 d.a.fg.g, .int .u8 d.a.fg.b, .int .u8 d.a.bg.k, .int .u8 d.a.bg.r, .int .u8 d.a.bg.g, .int .u8 d.a.bg.b, .int .u16 (d.a.fl : Nat), .int .u8 d.l] 2 (Nat.le_refl _) (by decide) rfl
theorem BAt.setK {w : World} {b : Nat} {c : Cel} (h : BAt w b c) (x : Int) : BAt (w.setCell ⟨b, 3, none⟩ (.int .u8 x)) b { c with k := x } := by
  obtain ⟨h0, ⟨a0, a1, a2, a3, a4, a5, a6, a7, a8, a9, a10, a11, a12, a13⟩, hf⟩ := h
  refine ⟨by simpa using h0, ⟨?_, ?_, ?_, ?_, ?_, ?_, ?_, ?_, ?_, ?_, ?_, ?_, ?_, ?_⟩, fun i => by simpa using hf i⟩
  all_goals first | (rw [World.cell?_setCell_other _ _ _ _ (by simp)]; assumption) | exact World.cell?_setCell_same _ _ _ a3
set_option maxHeartbeats 4000000 in
set_option maxRecDepth 100000 in
theorem cells_any (w : World) (c : Cel) (wide : Bool) : Calls Try.prog 46 #[celV c, .bool wide] w (NewRow w (takesM c wide)) := by
  obtain ⟨w0, hw0⟩ : ∃ x, x = w.alloc (.cells #[.int .i32 c.ru, .int .i32 c.m0, .int .i32 c.m1, .int .u8 c.k, .int .u8 c.a.fg.k, .int .u8 c.a.fg.r, .int .u8 c.a.fg.g, .int .u8 c.a.fg.b, .int .u8 c.a.bg.k, .int .u8 c.a.bg.r, .int .u8 c.a.bg.g, .int .u8 c.a.bg.b, .int .u16 (c.a.fl : Nat), .int .u8 c.l] 44) := ⟨_, rfl⟩
  obtain ⟨z, hz⟩ : ∃ x, x = w.heap.size := ⟨_, rfl⟩
  have b0 : Below w.heap.size w w0 := by rw [hw0]; exact (Below.refl _ _).alloc (Nat.le_refl _) _
  have HA0 := Lib.hid (show BAt w0 z c by rw [hw0, hz]; exact BAt.newAt w _ rfl c _)
  have HZ := Lib.hid (show w.heap.size ≤ z by omega)
  obtain ⟨w1, hw1⟩ : ∃ x, x = w0.setCell ⟨z, 3, none⟩ (.int .u8 0) := ⟨_, rfl⟩
  obtain ⟨x, hx⟩ : ∃ x : Cel, x = { c with k := 0 } := ⟨_, rfl⟩
  have HX := Lib.hid hx
  have HA1 := Lib.hid (show BAt w1 z x by rw [hw1, hx]; exact HA0.out.setK 0)
  have HB1 := Lib.hid (show Below w.heap.size w w1 by rw [hw1]; exact b0.trans ((But.set w0 z 3 _).below (C := w.heap.size) HZ.out b0.size))
  clear b0 hx
  go_enter Try.func46, Try.ntmps46
  go_upto_region 1 with (fail)
  rw [← hw0, ← hz]
  clear hw0 hz
  have y3 := HA0.out.2.1.2.2.2.1
  have yf := HA0.out.2.2
  go_upto_region 2 with (fail)
  rw [← hw1]
  clear hw1 y3 yf HA0
  cases wide
  · obtain ⟨_, ⟨y0, y1, y2, y3, y4, y5, y6, y7, y8, y9, y10, y11, y12, y13⟩, _⟩ := HA1.out
    obtain ⟨w2, hw2⟩ : ∃ y, y = w1.alloc (.cells #[.int .i32 x.ru, .int .i32 x.m0, .int .i32 x.m1, .int .u8 x.k, .int .u8 x.a.fg.k, .int .u8 x.a.fg.r, .int .u8 x.a.fg.g, .int .u8 x.a.fg.b, .int .u8 x.a.bg.k, .int .u8 x.a.bg.r, .int .u8 x.a.bg.g, .int .u8 x.a.bg.b, .int .u16 (x.a.fl : Nat), .int .u8 x.l] 44) := ⟨_, rfl⟩
    obtain ⟨g, hg⟩ : ∃ y, y = w1.heap.size := ⟨_, rfl⟩
    have HO := Lib.hid (show CRow w2 w1.heap.size (.slice (some ⟨g, 0, none⟩) 1 1) [x] by rw [hw2]; exact CRow.lit1 w1 g hg x)
    have HB2 := Lib.hid (show Below w.heap.size w w2 by rw [hw2]; exact HB1.out.trans (((Below.refl _ _).alloc (Nat.le_refl _) _).mono HB1.out.size))
    have HG := Lib.hid (show w.heap.size ≤ g ∧ g < w2.heap.size by rw [hw2, hg]; have := HB1.out.size; simp; omega)
    go_wp2_with fail
    rw [← hw2, ← hg]
    clear hw2 hg y0 y1 y2 y3 y4 y5 y6 y7 y8 y9 y10 y11 y12 y13
    go_ret
    have HE : takesM c false = [x] := by rw [HX.out]; rfl
    exact ⟨g, 1, by rw [HE]; rfl, by rw [HE]; exact Nat.le_refl _, by rw [HE]; exact HO.out.lower HB1.out.size, HG.out.1, HG.out.2, HB2.out⟩
  · obtain ⟨u1, hu1⟩ : ∃ y, y = w1.setCell ⟨z, 3, none⟩ (.int .u8 1) := ⟨_, rfl⟩
    obtain ⟨d, hd⟩ : ∃ y : Cel, y = { c with k := 1 } := ⟨_, rfl⟩
    have HD := Lib.hid hd
    have HAu := Lib.hid (show BAt u1 z d by rw [hu1, hd]; have := HA1.out.setK 1; rw [HX.out] at this; exact this)
    have HBu := Lib.hid (show Below w.heap.size w u1 by rw [hu1]; exact HB1.out.trans ((But.set w1 z 3 _).below (C := w.heap.size) HZ.out HB1.out.size))
    have y3 := HA1.out.2.1.2.2.2.1
    have yf := HA1.out.2.2
    clear hd
    go_upto_region 5 with (fail)
    rw [← hu1]
    clear hu1 y3 yf HA1 HB1
    obtain ⟨r, hr⟩ : ∃ y, y = rightC d := ⟨_, rfl⟩
    have HR := Lib.hid hr
    have CR := Lib.hid (show ∀ W, Calls Try.prog 31 #[celV d] W fun e w' => e = .returned (celV r) ∧ Below W.heap.size W w' from fun W => by rw [hr]; exact rightOf_any W d)
    clear hr
    refine wp_region_held_drew (S := fun w' => w'.cell? ⟨z, 0, none⟩ = some (.int .i32 d.ru) ∧ w'.cell? ⟨z, 1, none⟩ = some (.int .i32 d.m0) ∧ w'.cell? ⟨z, 2, none⟩ = some (.int .i32 d.m1) ∧ w'.cell? ⟨z, 3, none⟩ = some (.int .u8 d.k) ∧ w'.cell? ⟨z, 4, none⟩ = some (.int .u8 d.a.fg.k) ∧ w'.cell? ⟨z, 5, none⟩ = some (.int .u8 d.a.fg.r) ∧ w'.cell? ⟨z, 6, none⟩ = some (.int .u8 d.a.fg.g) ∧ w'.cell? ⟨z, 7, none⟩ = some (.int .u8 d.a.fg.b) ∧ w'.cell? ⟨z, 8, none⟩ = some (.int .u8 d.a.bg.k) ∧ w'.cell? ⟨z, 9, none⟩ = some (.int .u8 d.a.bg.r) ∧ w'.cell? ⟨z, 10, none⟩ = some (.int .u8 d.a.bg.g) ∧ w'.cell? ⟨z, 11, none⟩ = some (.int .u8 d.a.bg.b) ∧ w'.cell? ⟨z, 12, none⟩ = some (.int .u16 (d.a.fl : Nat)) ∧ w'.cell? ⟨z, 13, none⟩ = some (.int .u8 d.l)) (by kernel_rfl) ?_ (fun hHeld => ?_)
    · exact HAu.out.2.1
    obtain ⟨u0, hu0⟩ : ∃ y, y = u1.drew := ⟨_, rfl⟩
    have bd : Below u1.heap.size u1 u0 := by rw [hu0]; exact ⟨rfl, rfl, rfl, Nat.le_refl _, fun _ _ => rfl⟩
    have HAv := Lib.hid (HAu.out.below bd)
    have HBv := Lib.hid (HBu.out.trans (bd.mono HBu.out.size))
    replace hHeld := HAv.out.2.1
    unfold D14 at hHeld
    rw [← hu0]
    clear hu0 bd HAu HBu
    refine take_at (i := 0) (v := ?_) rfl (by kernel_rfl) (by kernel_rfl) (by kernel_rfl) (fun _ _ _ h => h) (by kernel_rfl) (by assumption) ?_ ?_
    rotate_left
    · (intro w hSw; (try dsimp only at hSw); go_simp; try with_reducible rfl)
    simp only [Act.put, List.setIfInBounds_toArray, List.set_cons_zero, List.set_cons_succ]
    refine take_at (i := 1) (v := ?_) rfl (by kernel_rfl) (by kernel_rfl) (by kernel_rfl) (fun _ _ _ h => h) (by kernel_rfl) (by assumption) ?_ ?_
    rotate_left
    · (intro w hSw; (try dsimp only at hSw); go_simp; try with_reducible rfl)
    simp only [Act.put, List.setIfInBounds_toArray, List.set_cons_zero, List.set_cons_succ]
    refine do_at (i := 2) rfl (by kernel_rfl) (by kernel_rfl) (fun K hK => ?_)
    go_wp2_with fail
    refine (CR.out _).mono ?_
    rintro e0 w3 ⟨rfl, b3⟩
    have HA3 := Lib.hid (HAv.out.below b3)
    have HB3 := Lib.hid (HBv.out.trans (b3.mono HBv.out.size))
    clear b3 HAv HBv CR
    go_wp2_with fail
    refine hK.out _ _ ?_ (fun hHeld => ?_)
    · exact HA3.out.2.1
    clear hK K
    try simp only [Act.put, List.setIfInBounds_toArray, List.set_cons_zero, List.set_cons_succ]
    refine do_at (i := 3) rfl (by kernel_rfl) (by kernel_rfl) (fun K hK => ?_)
    obtain ⟨w4, hw4⟩ : ∃ y, y = w3.alloc (.cells #[.int .i32 d.ru, .int .i32 d.m0, .int .i32 d.m1, .int .u8 d.k, .int .u8 d.a.fg.k, .int .u8 d.a.fg.r, .int .u8 d.a.fg.g, .int .u8 d.a.fg.b, .int .u8 d.a.bg.k, .int .u8 d.a.bg.r, .int .u8 d.a.bg.g, .int .u8 d.a.bg.b, .int .u16 (d.a.fl : Nat), .int .u8 d.l, .int .i32 r.ru, .int .i32 r.m0, .int .i32 r.m1, .int .u8 r.k, .int .u8 r.a.fg.k, .int .u8 r.a.fg.r, .int .u8 r.a.fg.g, .int .u8 r.a.fg.b, .int .u8 r.a.bg.k, .int .u8 r.a.bg.r, .int .u8 r.a.bg.g, .int .u8 r.a.bg.b, .int .u16 (r.a.fl : Nat), .int .u8 r.l] 44) := ⟨_, rfl⟩
    obtain ⟨g, hg⟩ : ∃ y, y = w3.heap.size := ⟨_, rfl⟩
    have bb : Below w3.heap.size w3 w4 := by rw [hw4]; exact (Below.refl _ _).alloc (Nat.le_refl _) _
    have HO := Lib.hid (show CRow w4 w3.heap.size (.slice (some ⟨g, 0, none⟩) 2 2) [d, r] by rw [hw4]; exact CRow.lit2 w3 g hg d r)
    have HA4 := Lib.hid (HA3.out.below bb)
    have HB4 := Lib.hid (HB3.out.trans (bb.mono HB3.out.size))
    have HG := Lib.hid (show w.heap.size ≤ g ∧ g < w4.heap.size by rw [hw4, hg]; have := HB3.out.size; simp; omega)
    have HS3 := Lib.hid HB3.out.size
    clear bb HA3 HB3
    go_wp2_with fail
    rw [← hw4, ← hg]
    clear hw4 hg
    refine hK.out _ _ ?_ (fun hHeld => ?_)
    · exact HA4.out.2.1
    clear hK K
    try simp only [Act.put, List.setIfInBounds_toArray, List.set_cons_zero, List.set_cons_succ]
    refine take_at (i := 4) (v := ?_) rfl (by kernel_rfl) (by kernel_rfl) (by kernel_rfl) (fun _ _ _ h => h) (by kernel_rfl) (by assumption) ?_ ?_
    rotate_left
    · (intro w hSw; (try dsimp only at hSw); go_simp; try with_reducible rfl)
    simp only [Act.put, List.setIfInBounds_toArray, List.set_cons_zero, List.set_cons_succ]
    refine wpAnyH_done (by kernel_rfl) ?_ _
    clear hHeld HA4
    go_wp2
    go_ret
    have HE : takesM c true = [d, r] := by rw [HR.out, HD.out]; rfl
    exact ⟨g, 2, by rw [HE]; rfl, by rw [HE]; exact Nat.le_refl _, by rw [HE]; exact HO.out.lower HS3.out, HG.out.1, HG.out.2, HB4.out⟩
end Go.Proofs.Ythildghpgajgoaa.Lab
