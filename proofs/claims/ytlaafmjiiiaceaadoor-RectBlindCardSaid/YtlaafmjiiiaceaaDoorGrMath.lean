/- The project's Insert, Delete, Resize, Erase. The project's cells: what something takes in a row. The project's Put. What Erase and Put make of a whole row. Grids, as lists of rows: those of whole rows of one length, those alike to Low; a row set, the region scrolled up or down, each row resized or raised. (For stage 11; no code is spoken of.) -/
import Derived.Test.YtlaafmjiiiaceaaDoorRpFill
import Derived.Test.YtlaafmjiiiaceaaDoorRoMove
import Derived.Test.YtlaafmjiiiaceaaDoorRpWide
import Derived.Test.YtlaafmjiiiaceaaDoorRoLow
namespace Go.Proofs.YtlaafmjiiiaceaaDoor.Lab
open Go Go.RowKit

def OwnRes (w : World) (R : Cls) (e : Ending) (w' : World) : Prop := ∃ v, e = .returned v ∧ CRow w' w.heap.size v R ∧ Below w.heap.size w w'
theorem breaks_two (R : Cls) {p q : Nat} (hp : p ≤ R.length) (hq : q ≤ R.length) : ([(p : Int), (q : Int)]).foldl breakM R = brk (brk R p) q := by
  show breakM (breakM R p) q = _
  unfold breakM
  rw [inN_nat hp, len_brk, inN_nat hq]
theorem resize_eq {R : Cls} (h : Wh R) (i : Int) (b : Cel) : (breakM R i).take (inN i R.length) ++ newM (i - (inN i R.length : Nat)).toNat b = resizeM R i b := by
  unfold resizeM resM newM breakM
  by_cases hi : i.toNat ≤ R.length
  · rw [if_pos hi, show inN i R.length = i.toNat by unfold inN; omega, show (i - (i.toNat : Int)).toNat = 0 by omega]
    simp
  · rw [if_neg hi, show inN i R.length = R.length by unfold inN; omega, show (i - (R.length : Int)).toNat = i.toNat - R.length by omega, brk_clean h (h.end (Nat.le_refl _)), List.take_length]
/-- Erased: broken at both, and blanks between. -/
def eraP (R : Cls) (p q : Nat) (b : Cel) : Cls := place (brk (brk R p) q) p (List.replicate (max p q - p) b)
def erasePM (R : Cls) (i j : Int) (b : Cel) : Cls := eraP R (inN i R.length) (inN j R.length) b

def takesM (c : Cel) (wide : Bool) : Cls := if wide = true then [{ c with k := 1 }, rightC c] else [{ c with k := 0 }]
theorem CRow.lit1 (w : World) (n : Nat) (hn : n = w.heap.size) (c : Cel) : CRow (w.alloc (.cells #[.int .i32 c.ru, .int .i32 c.m0, .int .i32 c.m1, .int .u8 c.k, .int .u8 c.a.fg.k, .int .u8 c.a.fg.r, .int .u8 c.a.fg.g, .int .u8 c.a.fg.b, .int .u8 c.a.bg.k, .int .u8 c.a.bg.r, .int .u8 c.a.bg.g, .int .u8 c.a.bg.b, .int .u16 (c.a.fl : Nat), .int .u8 c.l] 62)) w.heap.size (.slice (some ⟨n, 0, none⟩) 1 1) [c] := by
  subst hn
  exact World.ownsRow_lit (e := 62) (base := w.heap.size) (size := 14) w #[.int .i32 c.ru, .int .i32 c.m0, .int .i32 c.m1, .int .u8 c.k, .int .u8 c.a.fg.k, .int .u8 c.a.fg.r, .int .u8 c.a.fg.g, .int .u8 c.a.fg.b, .int .u8 c.a.bg.k, .int .u8 c.a.bg.r, .int .u8 c.a.bg.g, .int .u8 c.a.bg.b, .int .u16 (c.a.fl : Nat), .int .u8 c.l] 1 (Nat.le_refl _) (by decide) rfl
theorem CRow.lit2 (w : World) (n : Nat) (hn : n = w.heap.size) (c d : Cel) : CRow (w.alloc (.cells #[.int .i32 c.ru, .int .i32 c.m0, .int .i32 c.m1, .int .u8 c.k, .int .u8 c.a.fg.k, .int .u8 c.a.fg.r, .int .u8 c.a.fg.g, .int .u8 c.a.fg.b, .int .u8 c.a.bg.k, .int .u8 c.a.bg.r, .int .u8 c.a.bg.g, .int .u8 c.a.bg.b, .int .u16 (c.a.fl : Nat), .int .u8 c.l, .int .i32 d.ru, .int .i32 d.m0, .int .i32 d.m1, .int .u8 d.k, .int .u8 d.a.fg.k, .int .u8 d.a.fg.r, .int .u8 d.a.fg.g, .int .u8 d.a.fg.b, .int .u8 d.a.bg.k, .int .u8 d.a.bg.r, .int .u8 d.a.bg.g, .int .u8 d.a.bg.b, .int .u16 (d.a.fl : Nat), .int .u8 d.l] 62)) w.heap.size (.slice (some ⟨n, 0, none⟩) 2 2) [c, d] := by
  subst hn
  exact World.ownsRow_lit (e := 62) (base := w.heap.size) (size := 14) w #[.int .i32 c.ru, .int .i32 c.m0, .int .i32 c.m1, .int .u8 c.k, .int .u8 c.a.fg.k, .int .u8 c.a.fg.r, .int .u8 c.a.fg.g, .int .u8 c.a.fg.b, .int .u8 c.a.bg.k, .int .u8 c.a.bg.r, .int .u8 c.a.bg.g, .int .u8 c.a.bg.b, .int .u16 (c.a.fl : Nat), .int .u8 c.l, .int .i32 d.ru, .int .i32 d.m0, .int .i32 d.m1, .int .u8 d.k, .int .u8 d.a.fg.k, .int .u8 d.a.fg.r, .int .u8 d.a.fg.g, .int .u8 d.a.fg.b, .int .u8 d.a.bg.k, .int .u8 d.a.bg.r, .int .u8 d.a.bg.g, .int .u8 d.a.bg.b, .int .u16 (d.a.fl : Nat), .int .u8 d.l] 2 (Nat.le_refl _) (by decide) rfl
theorem BAt.setK {w : World} {b : Nat} {c : Cel} (h : BAt w b c) (x : Int) : BAt (w.setCell ⟨b, 3, none⟩ (.int .u8 x)) b { c with k := x } := by
  obtain ⟨h0, ⟨a0, a1, a2, a3, a4, a5, a6, a7, a8, a9, a10, a11, a12, a13⟩, hf⟩ := h
  refine ⟨by simpa using h0, ⟨?_, ?_, ?_, ?_, ?_, ?_, ?_, ?_, ?_, ?_, ?_, ?_, ?_, ?_⟩, fun i => by simpa using hf i⟩
  all_goals first | (rw [World.cell?_setCell_other _ _ _ _ (by simp)]; assumption) | exact World.cell?_setCell_same _ _ _ a3
set_option maxHeartbeats 4000000 in
set_option maxRecDepth 100000 in
theorem cells_any (w : World) (c : Cel) (wide : Bool) : Calls Tryd.prog 67 #[celV c, .bool wide] w (NewRow w (takesM c wide)) := by
  obtain ⟨w0, hw0⟩ : ∃ x, x = w.alloc (.cells #[.int .i32 c.ru, .int .i32 c.m0, .int .i32 c.m1, .int .u8 c.k, .int .u8 c.a.fg.k, .int .u8 c.a.fg.r, .int .u8 c.a.fg.g, .int .u8 c.a.fg.b, .int .u8 c.a.bg.k, .int .u8 c.a.bg.r, .int .u8 c.a.bg.g, .int .u8 c.a.bg.b, .int .u16 (c.a.fl : Nat), .int .u8 c.l] 62) := ⟨_, rfl⟩
  obtain ⟨z, hz⟩ : ∃ x, x = w.heap.size := ⟨_, rfl⟩
  have b0 : Below w.heap.size w w0 := by rw [hw0]; exact (Below.refl _ _).alloc (Nat.le_refl _) _
  have HA0 := Lib.hid (show BAt w0 z c by rw [hw0, hz]; exact BAt.newAt w _ rfl c _)
  have HZ := Lib.hid (show w.heap.size ≤ z by omega)
  obtain ⟨w1, hw1⟩ : ∃ x, x = w0.setCell ⟨z, 3, none⟩ (.int .u8 0) := ⟨_, rfl⟩
  obtain ⟨x, hx⟩ : ∃ x : Cel, x = { c with k := 0 } := ⟨_, rfl⟩
  have HX := Lib.hid hx
  have HA1 := Lib.hid (show BAt w1 z x by rw [hw1, hx]; exact HA0.out.setK 0)
  have HB1 := Lib.hid (show Below w.heap.size w w1 by rw [hw1]; exact b0.trans ((But.set w0 z 3 _).below (C := w.heap.size) HZ.out b0.size))
  clear b0 hx
  go_enter Tryd.func67, Tryd.ntmps67
  go_upto_region 1 with (fail)
  rw [← hw0, ← hz]
  clear hw0 hz
  have y3 := HA0.out.2.1.2.2.2.1
  have yf := HA0.out.2.2
  go_upto_region 2 with (fail)
  rw [← hw1]
  clear hw1 y3 yf HA0
  cases wide
  · obtain ⟨_, ⟨y0, y1, y2, y3, y4, y5, y6, y7, y8, y9, y10, y11, y12, y13⟩, _⟩ := HA1.out
    obtain ⟨w2, hw2⟩ : ∃ y, y = w1.alloc (.cells #[.int .i32 x.ru, .int .i32 x.m0, .int .i32 x.m1, .int .u8 x.k, .int .u8 x.a.fg.k, .int .u8 x.a.fg.r, .int .u8 x.a.fg.g, .int .u8 x.a.fg.b, .int .u8 x.a.bg.k, .int .u8 x.a.bg.r, .int .u8 x.a.bg.g, .int .u8 x.a.bg.b, .int .u16 (x.a.fl : Nat), .int .u8 x.l] 62) := ⟨_, rfl⟩
    obtain ⟨g, hg⟩ : ∃ y, y = w1.heap.size := ⟨_, rfl⟩
    have HO := Lib.hid (show CRow w2 w1.heap.size (.slice (some ⟨g, 0, none⟩) 1 1) [x] by rw [hw2]; exact CRow.lit1 w1 g hg x)
    have HB2 := Lib.hid (show Below w.heap.size w w2 by rw [hw2]; exact HB1.out.trans (((Below.refl _ _).alloc (Nat.le_refl _) _).mono HB1.out.size))
    have HG := Lib.hid (show w.heap.size ≤ g ∧ g < w2.heap.size by rw [hw2, hg]; have := HB1.out.size; simp; omega)
    go_wp2_with fail
    rw [← hw2, ← hg]
    clear hw2 hg y0 y1 y2 y3 y4 y5 y6 y7 y8 y9 y10 y11 y12 y13
    go_ret
    have HE : takesM c false = [x] := by rw [HX.out]; rfl
    exact ⟨g, 1, by rw [HE]; rfl, by rw [HE]; exact Nat.le_refl _, by rw [HE]; exact HO.out.lower HB1.out.size, HG.out.1, HG.out.2, HB2.out⟩
  · obtain ⟨u1, hu1⟩ : ∃ y, y = w1.setCell ⟨z, 3, none⟩ (.int .u8 1) := ⟨_, rfl⟩
    obtain ⟨d, hd⟩ : ∃ y : Cel, y = { c with k := 1 } := ⟨_, rfl⟩
    have HD := Lib.hid hd
    have HAu := Lib.hid (show BAt u1 z d by rw [hu1, hd]; have := HA1.out.setK 1; rw [HX.out] at this; exact this)
    have HBu := Lib.hid (show Below w.heap.size w u1 by rw [hu1]; exact HB1.out.trans ((But.set w1 z 3 _).below (C := w.heap.size) HZ.out HB1.out.size))
    have y3 := HA1.out.2.1.2.2.2.1
    have yf := HA1.out.2.2
    clear hd
    go_upto_region 5 with (fail)
    rw [← hu1]
    clear hu1 y3 yf HA1 HB1
    obtain ⟨r, hr⟩ : ∃ y, y = rightC d := ⟨_, rfl⟩
    have HR := Lib.hid hr
    have CR := Lib.hid (show ∀ W, Calls Tryd.prog 54 #[celV d] W fun e w' => e = .returned (celV r) ∧ Below W.heap.size W w' from fun W => by rw [hr]; exact rightOf_any W d)
    clear hr
    refine wp_region_held_drew (S := fun w' => w'.cell? ⟨z, 0, none⟩ = some (.int .i32 d.ru) ∧ w'.cell? ⟨z, 1, none⟩ = some (.int .i32 d.m0) ∧ w'.cell? ⟨z, 2, none⟩ = some (.int .i32 d.m1) ∧ w'.cell? ⟨z, 3, none⟩ = some (.int .u8 d.k) ∧ w'.cell? ⟨z, 4, none⟩ = some (.int .u8 d.a.fg.k) ∧ w'.cell? ⟨z, 5, none⟩ = some (.int .u8 d.a.fg.r) ∧ w'.cell? ⟨z, 6, none⟩ = some (.int .u8 d.a.fg.g) ∧ w'.cell? ⟨z, 7, none⟩ = some (.int .u8 d.a.fg.b) ∧ w'.cell? ⟨z, 8, none⟩ = some (.int .u8 d.a.bg.k) ∧ w'.cell? ⟨z, 9, none⟩ = some (.int .u8 d.a.bg.r) ∧ w'.cell? ⟨z, 10, none⟩ = some (.int .u8 d.a.bg.g) ∧ w'.cell? ⟨z, 11, none⟩ = some (.int .u8 d.a.bg.b) ∧ w'.cell? ⟨z, 12, none⟩ = some (.int .u16 (d.a.fl : Nat)) ∧ w'.cell? ⟨z, 13, none⟩ = some (.int .u8 d.l)) (by kernel_rfl) ?_ (fun hHeld => ?_)
    · exact HAu.out.2.1
    obtain ⟨u0, hu0⟩ : ∃ y, y = u1.drew := ⟨_, rfl⟩
    have bd : Below u1.heap.size u1 u0 := by rw [hu0]; exact ⟨rfl, rfl, rfl, Nat.le_refl _, fun _ _ => rfl⟩
    have HAv := Lib.hid (HAu.out.below bd)
    have HBv := Lib.hid (HBu.out.trans (bd.mono HBu.out.size))
    replace hHeld := HAv.out.2.1
    unfold D14 at hHeld
    rw [← hu0]
    clear hu0 bd HAu HBu
    refine tk 0 rfl (fun w hSw => by (try dsimp only at hSw); go_simp; try with_reducible rfl) ?_
    go_frame
    refine tk 1 rfl (fun w hSw => by (try dsimp only at hSw); go_simp; try with_reducible rfl) ?_
    go_frame
    refine do_at (i := 2) rfl (by kernel_rfl) (by kernel_rfl) (fun K hK => ?_)
    go_wp2_with fail
    refine (CR.out _).mono ?_
    rintro e0 w3 ⟨rfl, b3⟩
    have HA3 := Lib.hid (HAv.out.below b3)
    have HB3 := Lib.hid (HBv.out.trans (b3.mono HBv.out.size))
    clear b3 HAv HBv CR
    go_wp2_with fail
    refine hK.out _ _ ?_ (fun hHeld => ?_)
    · exact HA3.out.2.1
    clear hK K
    try go_frame
    refine do_at (i := 3) rfl (by kernel_rfl) (by kernel_rfl) (fun K hK => ?_)
    obtain ⟨w4, hw4⟩ : ∃ y, y = w3.alloc (.cells #[.int .i32 d.ru, .int .i32 d.m0, .int .i32 d.m1, .int .u8 d.k, .int .u8 d.a.fg.k, .int .u8 d.a.fg.r, .int .u8 d.a.fg.g, .int .u8 d.a.fg.b, .int .u8 d.a.bg.k, .int .u8 d.a.bg.r, .int .u8 d.a.bg.g, .int .u8 d.a.bg.b, .int .u16 (d.a.fl : Nat), .int .u8 d.l, .int .i32 r.ru, .int .i32 r.m0, .int .i32 r.m1, .int .u8 r.k, .int .u8 r.a.fg.k, .int .u8 r.a.fg.r, .int .u8 r.a.fg.g, .int .u8 r.a.fg.b, .int .u8 r.a.bg.k, .int .u8 r.a.bg.r, .int .u8 r.a.bg.g, .int .u8 r.a.bg.b, .int .u16 (r.a.fl : Nat), .int .u8 r.l] 62) := ⟨_, rfl⟩
    obtain ⟨g, hg⟩ : ∃ y, y = w3.heap.size := ⟨_, rfl⟩
    have bb : Below w3.heap.size w3 w4 := by rw [hw4]; exact (Below.refl _ _).alloc (Nat.le_refl _) _
    have HO := Lib.hid (show CRow w4 w3.heap.size (.slice (some ⟨g, 0, none⟩) 2 2) [d, r] by rw [hw4]; exact CRow.lit2 w3 g hg d r)
    have HA4 := Lib.hid (HA3.out.below bb)
    have HB4 := Lib.hid (HB3.out.trans (bb.mono HB3.out.size))
    have HG := Lib.hid (show w.heap.size ≤ g ∧ g < w4.heap.size by rw [hw4, hg]; have := HB3.out.size; simp; omega)
    have HS3 := Lib.hid HB3.out.size
    clear bb HA3 HB3
    go_wp2_with fail
    rw [← hw4, ← hg]
    clear hw4 hg
    refine hK.out _ _ ?_ (fun hHeld => ?_)
    · exact HA4.out.2.1
    clear hK K
    try go_frame
    refine tk 4 rfl (fun w hSw => by (try dsimp only at hSw); go_simp; try with_reducible rfl) ?_
    go_frame
    refine wpAnyH_done (by kernel_rfl) ?_ _
    clear hHeld HA4
    go_wp2
    go_ret
    have HE : takesM c true = [d, r] := by rw [HR.out, HD.out]; rfl
    exact ⟨g, 2, by rw [HE]; rfl, by rw [HE]; exact Nat.le_refl _, by rw [HE]; exact HO.out.lower HS3.out, HG.out.1, HG.out.2, HB4.out⟩

/-- Put, its place brought within. -/
def putP (R : Cls) (i : Int) (c : Cel) (wide : Bool) : Cls := putM R (inN i R.length : Nat) c wide
theorem takes_len (c : Cel) (wide : Bool) : (takesM c wide).length = if wide = true then 2 else 1 := by cases wide <;> rfl
theorem put_place {R : Cls} {p : Nat} (c : Cel) (wide : Bool) (h : p + (takesM c wide).length ≤ R.length) : putM R (p : Nat) c wide = place (brk (brk R p) (p + (takesM c wide).length)) p (takesM c wide) := by
  have hl : p + (takesM c wide).length ≤ (brk (brk R p) (p + (takesM c wide).length)).length := by rw [len_brk, len_brk]; exact h
  refine ext_gc (by rw [len_put, len_place hl, len_brk, len_brk]) fun i hi => ?_
  rw [len_put] at hi
  rw [gc_place hl, gc_put wide rfl c (by rw [takes_len] at h; exact h) hi]
  cases wide
  · simp only [takesM, Bool.false_eq_true, if_false, List.length_cons, List.length_nil, Nat.zero_add]
    by_cases e : i = p
    · rw [if_pos e, if_pos (by omega), e, Nat.sub_self]
      rfl
    · rw [if_neg e, if_neg (by simp), if_neg (by omega), gc_brk (by rw [len_brk]; exact hi), gc_brk hi]
  · simp only [takesM, if_true, List.length_cons, List.length_nil, Nat.zero_add]
    by_cases e : i = p
    · rw [if_pos e, if_pos (by omega), e, Nat.sub_self]
      rfl
    · rw [if_neg e]
      by_cases e2 : i = p + 1
      · rw [if_pos ⟨trivial, e2⟩, if_pos (by omega), e2, Nat.add_sub_cancel_left]
        rfl
      · rw [if_neg (by simp; omega), if_neg (by omega), gc_brk (by rw [len_brk]; exact hi), gc_brk hi]
theorem put_not {R : Cls} {p : Nat} (c : Cel) (wide : Bool) (h : ¬ p + (takesM c wide).length ≤ R.length) : putM R (p : Nat) c wide = R := by
  rw [takes_len] at h
  cases wide
  · rw [put_one, if_pos (.inr (by simp at h; omega))]
  · rw [put_wide, if_pos (.inr (by simp at h; omega))]
set_option maxHeartbeats 8000000 in
set_option maxRecDepth 100000 in
theorem put_any (w : World) (v : Value) (R : Cls) (i : Int) (c : Cel) (wide : Bool) (h : RowIn w v R) (hw : Wh R) (hl : R.length ≤ 1000) : Calls Tryd.prog 49 #[v, .int .i64 i, celV c, .bool wide] w (OwnRes w (putP R i c wide)) := by
  obtain ⟨a, cp, rfl⟩ := h.shape
  have HW := Lib.hid hw
  obtain ⟨N, hN⟩ : ∃ N, N = R.length := ⟨_, rfl⟩
  have HN := Lib.hid hN
  obtain ⟨w0, hw0⟩ : ∃ x, x = w.alloc (.cells #[.int .i32 c.ru, .int .i32 c.m0, .int .i32 c.m1, .int .u8 c.k, .int .u8 c.a.fg.k, .int .u8 c.a.fg.r, .int .u8 c.a.fg.g, .int .u8 c.a.fg.b, .int .u8 c.a.bg.k, .int .u8 c.a.bg.r, .int .u8 c.a.bg.g, .int .u8 c.a.bg.b, .int .u16 (c.a.fl : Nat), .int .u8 c.l] 62) := ⟨_, rfl⟩
  obtain ⟨z, hz⟩ : ∃ x, x = w.heap.size := ⟨_, rfl⟩
  have b0 : Below w.heap.size w w0 := by rw [hw0]; exact (Below.refl _ _).alloc (Nat.le_refl _) _
  have HA0 := Lib.hid (show BAt w0 z c by rw [hw0, hz]; exact BAt.newAt w _ rfl c _)
  have HB0 := Lib.hid b0
  have HR0 := Lib.hid (h.below b0)
  rw [← hN] at HR0 hl ⊢
  obtain ⟨p, hp⟩ : ∃ p, p = inN i N := ⟨_, rfl⟩
  have hpN : p ≤ N := by rw [hp]; exact inN_le _ _
  have HPM := Lib.hid (show putP R i c wide = putM R (p : Nat) c wide by unfold putP; rw [← hN, ← hp])
  have CW1 := Lib.hid (show ∀ W, Calls Tryd.prog 59 #[.int .i64 i, .int .i64 (N : Nat)] W fun e w' => e = .returned (.int .i64 (p : Nat)) ∧ W = w' from fun W => by rw [hp]; exact within_any W i N)
  obtain ⟨T, hT⟩ : ∃ T, T = takesM c wide := ⟨_, rfl⟩
  have HT := Lib.hid hT
  have CC := Lib.hid (show ∀ W, Calls Tryd.prog 67 #[celV c, .bool wide] W (NewRow W T) from fun W => by rw [hT]; exact cells_any W c wide)
  obtain ⟨m, hm⟩ : ∃ m, m = T.length := ⟨_, rfl⟩
  have HM := Lib.hid hm
  have hm2 : m ≤ 2 := by rw [hm, hT, takes_len]; split <;> omega
  obtain ⟨d, hd⟩ : ∃ d, d = N - p := ⟨_, rfl⟩
  have s1 : IntKind.i64.wrap ((N : Int) - (p : Int)) = (d : Int) := by rw [IntKind.wrap_i64]; omega
  have HD := Lib.hid hd
  clear h hw hN b0 hp hT hm hd
  go_enter Tryd.func49, Tryd.ntmps49
  go_upto_region 1 with (fail)
  rw [← hw0, ← hz]
  clear hw0 hz
  obtain ⟨_, ⟨y0, y1, y2, y3, y4, y5, y6, y7, y8, y9, y10, y11, y12, y13⟩, _⟩ := HA0.out
  go_wp2_with fail
  refine (CC.out _).mono ?_
  rintro e0 w1 ⟨h, c3, rfl, hc3, own1, hg1, hg2, b1⟩
  rw [← HM.out] at own1 hc3 ⊢
  have HO1 := Lib.hid own1.row
  have HR1 := Lib.hid (HR0.out.below b1)
  have HB1 := Lib.hid (HB0.out.trans (b1.mono HB0.out.size))
  clear own1 hg1 hg2 hc3 b1 HA0 HB0 HR0 CC y0 y1 y2 y3 y4 y5 y6 y7 y8 y9 y10 y11 y12 y13
  go_wp2_with fail
  refine (CW1.out _).mono ?_
  rintro e0 wx ⟨rfl, rfl⟩
  clear CW1
  by_cases hfit : d < m
  · have d1 : (d : Int) < (m : Int) := by omega
    have HE := Lib.hid (show putP R i c wide = R by rw [HPM.out]; exact put_not c wide (by rw [← HT.out, ← HM.out, ← HN.out]; have := HD.out; omega))
    have CN := Lib.hid (anew_any w1 (.slice a N cp) R HR1.out (by rw [← HN.out]; omega))
    go_wp2_with fail
    refine CN.out.mono ?_
    rintro e0 w2 ⟨g, c4, rfl, _, own2, _, _, b2⟩
    rw [← HN.out] at own2 ⊢
    have HO2 := Lib.hid own2
    have HB2 := Lib.hid (HB1.out.trans (b2.mono HB1.out.size))
    have HS1 := Lib.hid HB1.out.size
    clear own2 b2 CN HO1 HR1 HB1
    go_wp2
    go_ret
    exact ⟨_, rfl, by rw [HE.out]; exact HO2.out.lower HS1.out, HB2.out⟩
  have d1 : ¬ (d : Int) < (m : Int) := by omega
  obtain ⟨e, he⟩ : ∃ e, e = p + m := ⟨_, rfl⟩
  have heN : e ≤ N := by have := HD.out; omega
  have s2 : IntKind.i64.wrap ((p : Int) + (m : Int)) = (e : Int) := by rw [IntKind.wrap_i64]; omega
  have HEM := Lib.hid he
  have HPL := Lib.hid (show putP R i c wide = place (brk (brk R p) e) p T by
    rw [HPM.out, put_place c wide (by rw [← HT.out, ← HM.out, ← HN.out, ← he]; exact heN), ← HT.out, ← HM.out, ← he])
  obtain ⟨w2, hw2⟩ : ∃ x, x = w1.alloc (.cells #[.int .i64 (p : Nat), .int .i64 (e : Nat)] 3) := ⟨_, rfl⟩
  obtain ⟨s, hs⟩ : ∃ x, x = w1.heap.size := ⟨_, rfl⟩
  have bb : Below w1.heap.size w1 w2 := by rw [hw2]; exact (Below.refl _ _).alloc (Nat.le_refl _) _
  have HPS := Lib.hid (show PsAt w2 (.slice (some ⟨s, 0, none⟩) 2 2) [((p : Nat) : Int), ((e : Nat) : Int)] from ⟨s, 0, 2, rfl, by simp, by rw [hw2, hs]; simp, fun j hj => by
    rcases (show j = 0 ∨ j = 1 by simp at hj; omega) with rfl | rfl
    · rw [hw2, hs]; simp
    · rw [hw2, hs]; simp, fun j hj => by
    rcases (show j = 0 ∨ j = 1 by simp at hj; omega) with rfl | rfl
    · show (-100000 : Int) < ((p : Nat) : Int) ∧ ((p : Nat) : Int) < 100000
      omega
    · show (-100000 : Int) < ((e : Nat) : Int) ∧ ((e : Nat) : Int) < 100000
      omega⟩)
  have HBL := Lib.hid (show (([(p : Int), (e : Int)]).foldl breakM R).length = N by rw [len_breaks]; exact HN.out.symm)
  have HBE := Lib.hid (show ([(p : Int), (e : Int)]).foldl breakM R = brk (brk R p) e from breaks_two R (by rw [← HN.out]; exact hpN) (by rw [← HN.out]; exact heN))
  have HR2 := Lib.hid (HR1.out.below bb)
  have HO2 := Lib.hid (HO1.out.below bb)
  have HB2 := Lib.hid (HB1.out.trans (bb.mono HB1.out.size))
  have HBK := Lib.hid (break_any w2 (.slice a N cp) R _ [((p : Nat) : Int), ((e : Nat) : Int)] HR2.out HW.out (by rw [← HN.out]; omega) HPS.out)
  clear bb HR1 HO1 HB1 HPS he hfit
  go_wp2_with fail
  rw [← hw2, ← hs]
  clear hw2 hs
  refine HBK.out.mono ?_
  rintro e0 w3 ⟨g, c4, rfl, hc4, own3, hg3, _, b3⟩
  rw [HBL.out] at own3 hc4 ⊢
  have HO3 := Lib.hid own3
  have HT3 := Lib.hid (HO2.out.below b3)
  have HB3 := Lib.hid (HB2.out.trans (b3.mono HB2.out.size))
  have HG := Lib.hid (show w.heap.size ≤ g from Nat.le_trans HB2.out.size hg3)
  have HS2 := Lib.hid HB2.out.size
  obtain ⟨B, hB⟩ : ∃ B, B = ([(p : Int), (e : Int)]).foldl breakM R := ⟨_, rfl⟩
  rw [← hB] at HO3 HBL HBE
  obtain ⟨ad, q, cm, hq, hcm, k2, k2a, _⟩ := cut_from g N c4 p hpN hc4
  have HQ := Lib.hid (show T.length ≤ q by rw [← HM.out]; have := HEM.out; omega)
  have HAD := Lib.hid k2a
  have HFT := Lib.hid (show p + T.length ≤ B.length by rw [HBL.out, ← HM.out]; have := HEM.out; omega)
  clear own3 hc4 hg3 b3 HBK HO2 HB2 HR2 hB hq hcm k2a s1 s2 d1 hpN heN hl
  go_wp2_with (refine wpList_copy_cells rfl (.tmp 36) (.tmp 37) rfl w2.heap.size g N c4 B HO3.out HBL.out.symm (.slice (some ⟨h, 0, none⟩) m c3) T rfl HT3.out p q cm ad rfl HFT.out HQ.out HAD.out ?_)
  intro w4 own4 but4
  have HO4 := Lib.hid (show CRow w4 w.heap.size (.slice (some ⟨g, 0, none⟩) N c4) (putP R i c wide) by rw [HPL.out, ← HBE.out]; exact own4.lower HS2.out)
  have HB4 := Lib.hid (HB3.out.trans (but4.below HG.out HB3.out.size))
  clear own4 but4 HO3 HT3 HB3 k2
  go_wp2
  go_ret
  exact ⟨_, rfl, HO4.out, HB4.out⟩

theorem eraP_eq (R : Cls) {p q : Nat} (b : Cel) : eraP R p q b = if q ≤ p then brk (brk R p) q else eraM R p q b := by
  unfold eraP
  split
  · rename_i h
    rw [show max p q - p = 0 by omega, List.replicate_zero, place_nil]
  · rename_i h
    unfold eraM place
    rw [if_neg h, List.length_replicate, show max p q = q by omega, show p + (q - p) = q by omega, List.append_assoc]
theorem Wh.eraseP {R : Cls} (h : Wh R) (i j : Int) {b : Cel} (hb : b.k = 0) : Wh (erasePM R i j b) := by
  unfold erasePM
  rw [eraP_eq R b]
  split
  · exact (h.brk _).brk _
  · exact h.era hb
theorem len_eraseP (R : Cls) (i j : Int) (b : Cel) : (erasePM R i j b).length = R.length := by
  unfold erasePM
  rw [eraP_eq R b]
  split
  · rw [len_brk, len_brk]
  · exact len_era b (inN_le _ _)
theorem Lv.eraseP {R : Cls} (h : Lv R) (i j : Int) {b : Cel} (hb : b.l = 0 ∨ b.l = 1) : Lv (erasePM R i j b) := by
  unfold erasePM
  rw [eraP_eq R b]
  split
  · exact (h.brk _).brk _
  · have := h.erase i j hb
    exact this
theorem LowE.eraseP {R S : Cls} (h : LowE R S) (i j : Int) (b : Cel) : LowE (erasePM R i j b) (erasePM S i j b) := by
  unfold erasePM
  rw [eraP_eq R b, eraP_eq S b, ← h.1]
  split
  · exact (h.brk _).brk _
  · have := h.erase i j b
    unfold eraseM at this
    rw [← h.1] at this
    exact this
theorem Wh.putP {R : Cls} (h : Wh R) (i : Int) (c : Cel) (wide : Bool) : Wh (Lab.putP R i c wide) := h.put _ c wide
theorem Lv.putP {R : Cls} (h : Lv R) (i : Int) {c : Cel} (hc : c.l = 0 ∨ c.l = 1) (wide : Bool) : Lv (Lab.putP R i c wide) := h.put _ hc wide
theorem LowE.putP {R S : Cls} (h : LowE R S) (i : Int) (c : Cel) (wide : Bool) : LowE (Lab.putP R i c wide) (Lab.putP S i c wide) := by
  unfold Lab.putP
  rw [← h.1]
  exact h.put _ c wide
theorem putP_in {R : Cls} {i : Int} (hi : 0 ≤ i) (c : Cel) (wide : Bool) : Lab.putP R i c wide = putM R i c wide := by
  unfold Lab.putP
  by_cases h : i ≤ R.length
  · rw [show ((inN i R.length : Nat) : Int) = i by unfold inN; omega]
  · rw [show ((inN i R.length : Nat) : Int) = R.length by unfold inN; omega]
    cases wide
    · rw [put_one, put_one, if_pos (by omega), if_pos (by omega)]
    · rw [put_wide, put_wide, if_pos (by omega), if_pos (by omega)]

open Go Go.Lib
/-- Each row is whole, of so many cells. -/
def GW (G : List Cls) (cols : Nat) : Prop := ∀ r ∈ G, Wh r ∧ r.length = cols
theorem GW.append {A B : List Cls} {c : Nat} (h : GW A c) (k : GW B c) : GW (A ++ B) c := fun r hr => (List.mem_append.1 hr).elim (h r) (k r)
theorem GW.take {A : List Cls} {c : Nat} (h : GW A c) (n : Nat) : GW (A.take n) c := fun r hr => h r (List.mem_of_mem_take hr)
theorem GW.drop {A : List Cls} {c : Nat} (h : GW A c) (n : Nat) : GW (A.drop n) c := fun r hr => h r (List.mem_of_mem_drop hr)
theorem GW.rep (n : Nat) {r : Cls} {c : Nat} (h : Wh r) (hl : r.length = c) : GW (List.replicate n r) c := fun q hq => by rw [List.eq_of_mem_replicate hq]; exact ⟨h, hl⟩
theorem GW.set {A : List Cls} {c : Nat} (h : GW A c) (i : Nat) {r : Cls} (k : Wh r) (hl : r.length = c) : GW (A.set i r) c := fun q hq => by
  rcases List.mem_or_eq_of_mem_set hq with q1 | q1
  · exact h q q1
  · rw [q1]; exact ⟨k, hl⟩
theorem GW.map {A : List Cls} {c d : Nat} (h : GW A c) (f : Cls → Cls) (hf : ∀ r, Wh r → r.length = c → Wh (f r) ∧ (f r).length = d) : GW (A.map f) d := fun q hq => by
  obtain ⟨r, hr, rfl⟩ := List.mem_map.1 hq
  exact hf r (h r hr).1 (h r hr).2
/-- The rows from t to b (n of them at most go), scrolled: e is what a new row is. -/
def upM (G : List Cls) (t b n : Nat) (e : Cls) : List Cls := G.take t ++ (((G.drop t).take (b + 1 - t)).drop n ++ List.replicate n e) ++ G.drop (b + 1)
def downM (G : List Cls) (t b n : Nat) (e : Cls) : List Cls := G.take t ++ (List.replicate n e ++ ((G.drop t).take (b + 1 - t)).take (b + 1 - t - n)) ++ G.drop (b + 1)
def wentUp (G : List Cls) (t b n : Nat) : List Cls := ((G.drop t).take (b + 1 - t)).take n
def wentDown (G : List Cls) (t b n : Nat) : List Cls := ((G.drop t).take (b + 1 - t)).drop (b + 1 - t - n)
theorem GW.up {G : List Cls} {c : Nat} (h : GW G c) (t b n : Nat) {e : Cls} (he : Wh e) (hl : e.length = c) : GW (upM G t b n e) c :=
  ((h.take t).append ((((h.drop t).take _).drop n).append (GW.rep n he hl))).append (h.drop _)
theorem GW.down {G : List Cls} {c : Nat} (h : GW G c) (t b n : Nat) {e : Cls} (he : Wh e) (hl : e.length = c) : GW (downM G t b n e) c :=
  ((h.take t).append ((GW.rep n he hl).append (((h.drop t).take _).take _))).append (h.drop _)
theorem GW.wentUp {G : List Cls} {c : Nat} (h : GW G c) (t b n : Nat) : GW (wentUp G t b n) c := ((h.drop t).take _).take n
theorem GW.wentDown {G : List Cls} {c : Nat} (h : GW G c) (t b n : Nat) : GW (wentDown G t b n) c := ((h.drop t).take _).drop _
theorem len_up {G : List Cls} {t b n : Nat} (ht : t ≤ b) (hb : b < G.length) (hn : n ≤ b + 1 - t) (e : Cls) : (upM G t b n e).length = G.length := by
  simp only [upM, List.length_append, List.length_take, List.length_drop, List.length_replicate]; omega
theorem len_down {G : List Cls} {t b n : Nat} (ht : t ≤ b) (hb : b < G.length) (hn : n ≤ b + 1 - t) (e : Cls) : (downM G t b n e).length = G.length := by
  simp only [downM, List.length_append, List.length_take, List.length_drop, List.length_replicate]; omega
theorem len_wentUp {G : List Cls} {t b n : Nat} (hb : b < G.length) (hn : n ≤ b + 1 - t) : (wentUp G t b n).length = n := by
  simp only [wentUp, List.length_take, List.length_drop]; omega
theorem len_wentDown {G : List Cls} {t b n : Nat} (hb : b < G.length) (hn : n ≤ b + 1 - t) : (wentDown G t b n).length = n := by
  simp only [wentDown, List.length_take, List.length_drop]; omega
/-- Alike to Low, row by row. -/
def GLow (A B : List Cls) : Prop := A.length = B.length ∧ ∀ i, i < A.length → LowE (A.getD i []) (B.getD i [])
theorem GLow.nil : GLow [] [] := ⟨rfl, fun _ h => absurd h (Nat.not_lt_zero _)⟩
theorem GLow.append {A B C D : List Cls} (h : GLow A B) (k : GLow C D) : GLow (A ++ C) (B ++ D) := by
  refine ⟨by rw [List.length_append, List.length_append, h.1, k.1], fun i hi => ?_⟩
  rw [List.length_append] at hi
  by_cases hA : i < A.length
  · have hB : i < B.length := by rw [← h.1]; exact hA
    have := h.2 i hA
    simp only [List.getD_eq_getElem?_getD, List.getElem?_append_left hA, List.getElem?_append_left hB] at this ⊢
    exact this
  · have hA' : A.length ≤ i := by omega
    have hB' : B.length ≤ i := by rw [← h.1]; exact hA'
    have := k.2 (i - A.length) (by omega)
    simp only [List.getD_eq_getElem?_getD, List.getElem?_append_right hA', List.getElem?_append_right hB'] at this ⊢
    rw [← h.1]
    exact this
theorem GLow.take {A B : List Cls} (h : GLow A B) (n : Nat) : GLow (A.take n) (B.take n) := by
  refine ⟨by rw [List.length_take, List.length_take, h.1], fun i hi => ?_⟩
  rw [List.length_take] at hi
  have := h.2 i (by omega)
  simp only [List.getD_eq_getElem?_getD, List.getElem?_take, if_pos (show i < n by omega)] at this ⊢
  exact this
theorem GLow.drop {A B : List Cls} (h : GLow A B) (n : Nat) : GLow (A.drop n) (B.drop n) := by
  refine ⟨by rw [List.length_drop, List.length_drop, h.1], fun i hi => ?_⟩
  rw [List.length_drop] at hi
  have := h.2 (n + i) (by omega)
  simp only [List.getD_eq_getElem?_getD, List.getElem?_drop] at this ⊢
  exact this
theorem GLow.rep (n : Nat) {r s : Cls} (h : LowE r s) : GLow (List.replicate n r) (List.replicate n s) := by
  refine ⟨by rw [List.length_replicate, List.length_replicate], fun i hi => ?_⟩
  rw [List.length_replicate] at hi
  simp only [List.getD_eq_getElem?_getD, List.getElem?_replicate, if_pos hi, Option.getD_some]
  exact h
theorem GLow.set {A B : List Cls} (h : GLow A B) (j : Nat) {r s : Cls} (k : LowE r s) : GLow (A.set j r) (B.set j s) := by
  refine ⟨by rw [List.length_set, List.length_set, h.1], fun i hi => ?_⟩
  rw [List.length_set] at hi
  have hB : i < B.length := by rw [← h.1]; exact hi
  have := h.2 i hi
  simp only [List.getD_eq_getElem?_getD, List.getElem?_set] at this ⊢
  by_cases e : j = i
  · subst e
    simp only [if_pos hi, if_pos hB]
    exact k
  · simp only [if_neg e]
    exact this
theorem GLow.map {A B : List Cls} (h : GLow A B) (f g : Cls → Cls) (hf : ∀ i, i < A.length → LowE (f (A.getD i [])) (g (B.getD i []))) : GLow (A.map f) (B.map g) := by
  refine ⟨by rw [List.length_map, List.length_map, h.1], fun i hi => ?_⟩
  rw [List.length_map] at hi
  have hB : i < B.length := by rw [← h.1]; exact hi
  have := hf i hi
  simp only [List.getD_eq_getElem?_getD, List.getElem?_map, List.getElem?_eq_getElem hi, List.getElem?_eq_getElem hB, Option.map_some, Option.getD_some] at this ⊢
  exact this
theorem GLow.up {A B : List Cls} (h : GLow A B) (t b n : Nat) (e : Cls) : GLow (upM A t b n e) (upM B t b n e) :=
  ((h.take t).append ((((h.drop t).take _).drop n).append (GLow.rep n (LowE.refl e)))).append (h.drop _)
theorem GLow.down {A B : List Cls} (h : GLow A B) (t b n : Nat) (e : Cls) : GLow (downM A t b n e) (downM B t b n e) :=
  ((h.take t).append ((GLow.rep n (LowE.refl e)).append (((h.drop t).take _).take _))).append (h.drop _)
theorem GLow.wentUp {A B : List Cls} (h : GLow A B) (t b n : Nat) : GLow (wentUp A t b n) (wentUp B t b n) := ((h.drop t).take _).take n
theorem GLow.wentDown {A B : List Cls} (h : GLow A B) (t b n : Nat) : GLow (wentDown A t b n) (wentDown B t b n) := ((h.drop t).take _).drop _
end Go.Proofs.YtlaafmjiiiaceaaDoor.Lab
