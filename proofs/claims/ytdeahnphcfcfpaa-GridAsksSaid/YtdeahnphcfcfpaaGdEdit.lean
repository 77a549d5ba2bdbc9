/- The project's Put, Mark, Insert, Delete, Erase. -/
import Derived.Test.YtdeahnphcfcfpaaGdChAt
import Derived.Test.YtdeahnphcfcfpaaGrMath
import Derived.Test.YtdeahnphcfcfpaaRpIns
import Derived.Test.YtdeahnphcfcfpaaRpDel
import Derived.Test.YtdeahnphcfcfpaaRpRaise
import Derived.Test.YtdeahnphcfcfpaaRpMark
import Derived.Shelf.Abstract
namespace Go.Proofs.Ytdeahnphcfcfpaa.Lab
open Go Go.RowKit Go.Shelf

theorem len_putP (R : Cls) (i : Int) (c : Cel) (wide : Bool) : (putP R i c wide).length = R.length := len_put R _ c wide
/-- Cells that lie one behind the other. -/
def Lie (w : World) (b : Nat) (l : List Value) : Prop := b < w.heap.size ∧ ∀ k v, l[k]? = some v → w.cell? ⟨b, k, none⟩ = some v
theorem Lie.below {w w' : World} {b : Nat} {l : List Value} (h : Lie w b l) (k : Below w.heap.size w w') : Lie w' b l := ⟨Nat.lt_of_lt_of_le h.1 k.size, fun j v hj => (k.cell (p := ⟨b, j, none⟩) h.1).trans (h.2 j v hj)⟩
theorem Lie.of {w : World} {b : Nat} {cs : Array Value} {T : TypeId} (h : w.heap[b]? = some (.cells cs T (0, 0))) : Lie w b cs.toList := ⟨(Array.getElem?_eq_some_iff.1 h).1, fun k v hk => by rw [cell_of_row w b k cs T (0, 0) h]; simpa using hk⟩
theorem Lie.new (w : World) (cs : Array Value) (T : TypeId) (b : Nat) (hb : b = w.heap.size) : Lie (w.alloc (.cells cs T)) b cs.toList := Lie.of (T := T) (by rw [hb]; exact World.alloc_heap_new w _)
theorem Lie.at {w : World} {b : Nat} {l : List Value} (h : Lie w b l) (k : Nat) {v : Value} (hk : l[k]? = some v) : w.cell? ⟨b, k, none⟩ = some v := h.2 k v hk
theorem put1_makes (w : World) (b5 b6 b7 i j : Nat) (x : Cel) (wide : Bool) (R : Cls) (h0 : Lie w b5 [.int .i64 (i : Nat), .int .i64 (j : Nat)]) (h1 : Lie w b6 [.int .i32 x.ru, .int .i32 x.m0, .int .i32 x.m1, .int .u8 x.k, .int .u8 x.a.fg.k, .int .u8 x.a.fg.r, .int .u8 x.a.fg.g, .int .u8 x.a.fg.b, .int .u8 x.a.bg.k, .int .u8 x.a.bg.r, .int .u8 x.a.bg.g, .int .u8 x.a.bg.b, .int .u16 (x.a.fl : Nat), .int .u8 x.l]) (h2 : Lie w b7 [.bool wide]) (hw : Wh R) (hl : R.length ≤ 1000) : Makes w 63 #[] #[.pointer (some ⟨b5, 0, none⟩), .pointer (some ⟨b6, 0, none⟩), .pointer (some ⟨b7, 0, none⟩)] R (putP R (j : Nat) x wide) := by
  intro wx v hb hr
  have f0_1 := (h0.below hb).at 1 rfl
  have f1_0 := (h1.below hb).at 0 rfl
  have f1_1 := (h1.below hb).at 1 rfl
  have f1_2 := (h1.below hb).at 2 rfl
  have f1_3 := (h1.below hb).at 3 rfl
  have f1_4 := (h1.below hb).at 4 rfl
  have f1_5 := (h1.below hb).at 5 rfl
  have f1_6 := (h1.below hb).at 6 rfl
  have f1_7 := (h1.below hb).at 7 rfl
  have f1_8 := (h1.below hb).at 8 rfl
  have f1_9 := (h1.below hb).at 9 rfl
  have f1_10 := (h1.below hb).at 10 rfl
  have f1_11 := (h1.below hb).at 11 rfl
  have f1_12 := (h1.below hb).at 12 rfl
  have f1_13 := (h1.below hb).at 13 rfl
  have f2_0 := (h2.below hb).at 0 rfl
  have HC := Lib.hid (put_any wx v R (j : Nat) x wide hr hw hl)
  obtain ⟨a, cc, rfl⟩ := hr.shape
  obtain ⟨n, hn⟩ : ∃ n, n = R.length := ⟨_, rfl⟩
  rw [← hn] at HC hr ⊢
  clear hb hr hn h0 h1 h2
  go_enter Try.func63, Try.ntmps63
  go_wp2_with fail
  refine HC.out.mono ?_
  rintro e w1 ⟨v1, rfl, own1, b1⟩
  obtain ⟨a1, c1, rfl⟩ := own1.shape
  have HO := Lib.hid own1
  have HB := Lib.hid b1
  clear own1 b1
  go_wp2
  go_ret
  exact ⟨_, rfl, HO.out, HB.out⟩
set_option maxHeartbeats 4000000 in
theorem gput_yes (w : World) (lo p rb c i j : Nat) (H : List Hd) (x : Cel) (wide : Bool) (h : GAt w lo p rb c H) (hlo : lo ≤ w.heap.size) (hi : i < H.length) (hj : j < (hdAt H 0).R.length) (hij : (hdAt H i).R.length = (hdAt H 0).R.length) (hw : Wh (hdAt H i).R) (hl : (hdAt H i).R.length ≤ 1000) :
    Calls Try.prog 32 #[gV p, .agg #[.int .i64 (i : Nat), .int .i64 (j : Nat)], celV x, .bool wide] w fun e w' => e = .returned (.tuple #[]) ∧ (∃ y : Hd, y.R = putP (hdAt H i).R (j : Nat) x wide ∧ w.heap.size ≤ y.b ∧ GAt w' lo p rb c (H.set i y)) ∧ Buts (· = rb) w w' := by
  obtain ⟨w0, hw0⟩ : ∃ W0, W0 = ((w.alloc (.cells #[.int .i64 (i : Nat), .int .i64 (j : Nat)] 48)).alloc (.cells #[.int .i32 x.ru, .int .i32 x.m0, .int .i32 x.m1, .int .u8 x.k, .int .u8 x.a.fg.k, .int .u8 x.a.fg.r, .int .u8 x.a.fg.g, .int .u8 x.a.fg.b, .int .u8 x.a.bg.k, .int .u8 x.a.bg.r, .int .u8 x.a.bg.g, .int .u8 x.a.bg.b, .int .u16 (x.a.fl : Nat), .int .u8 x.l] 42)).alloc (.cells #[.bool wide] 4) := ⟨_, rfl⟩
  obtain ⟨b5, hb5⟩ : ∃ b, b = w.heap.size := ⟨_, rfl⟩
  obtain ⟨b6, hb6⟩ : ∃ b, b = w.heap.size + 1 := ⟨_, rfl⟩
  obtain ⟨b7, hb7⟩ : ∃ b, b = w.heap.size + 1 + 1 := ⟨_, rfl⟩
  have B0 : Below w.heap.size w w0 := by rw [hw0]; exact (((Below.refl _ _).alloc (Nat.le_refl _) _).alloc (by simp) _).alloc (by simp; omega) _
  have h5 : Lie w0 b5 [.int .i64 (i : Nat), .int .i64 (j : Nat)] := by rw [hw0]; exact ((Lie.new w _ _ b5 hb5).below ((Below.refl _ _).alloc (Nat.le_refl _) _)).below ((Below.refl _ _).alloc (Nat.le_refl _) _)
  have h6 : Lie w0 b6 [.int .i32 x.ru, .int .i32 x.m0, .int .i32 x.m1, .int .u8 x.k, .int .u8 x.a.fg.k, .int .u8 x.a.fg.r, .int .u8 x.a.fg.g, .int .u8 x.a.fg.b, .int .u8 x.a.bg.k, .int .u8 x.a.bg.r, .int .u8 x.a.bg.g, .int .u8 x.a.bg.b, .int .u16 (x.a.fl : Nat), .int .u8 x.l] := by rw [hw0]; exact (Lie.new _ _ _ b6 (by rw [hb6]; simp)).below ((Below.refl _ _).alloc (Nat.le_refl _) _)
  have h7 : Lie w0 b7 [.bool wide] := by rw [hw0]; exact Lie.new _ _ _ b7 (by rw [hb7]; simp)
  have hmk := put1_makes w0 b5 b6 b7 i j x wide (hdAt H i).R h5 h6 h7 hw hl
  have q0 := h5.at 0 rfl
  have q1 := h5.at 1 rfl
  have HB0 := Lib.hid B0
  have C1 := Lib.hid (changeAt_yes w0 lo p rb c i j 63 H #[] #[.pointer (some ⟨b5, 0, none⟩), .pointer (some ⟨b6, 0, none⟩), .pointer (some ⟨b7, 0, none⟩)] _ (h.below B0) (Nat.le_trans hlo B0.size) hi hj hij hmk (enters_of Try.func63 (by kernel_rfl) rfl) (by rw [show (putP (hdAt H i).R (j : Nat) x wide).length = (hdAt H i).R.length from len_putP _ _ _ _]; omega))
  clear B0 h5 h6 h7 hmk h hlo hi hj hij hw hl
  go_enter Try.func32, Try.ntmps32
  go_upto_region 1 with (fail)
  rw [← hw0, ← hb7, ← hb6, ← hb5]
  clear hw0 hb5 hb6 hb7
  go_wp2_with fail
  refine C1.out.mono ?_
  rintro e w1 ⟨rfl, ⟨y, h1, h2, h3⟩, bt⟩
  have HX := Lib.hid h1
  have HX2 := Lib.hid h2
  have HX3 := Lib.hid h3
  have HBT := Lib.hid bt
  clear h1 h2 h3 bt C1 q0 q1
  go_wp2
  go_end0
  exact ⟨rfl, ⟨y, HX.out, Nat.le_trans HB0.out.size HX2.out, HX3.out⟩, (Buts.of HB0.out).trans HBT.out⟩
set_option maxHeartbeats 4000000 in
theorem gput_no (w : World) (pv : Value) (n k : Nat) (r cl : Int) (x : Cel) (wide : Bool) (hs : SizeIs w pv n k) (hno : (isInB r n && isInB cl k) = false) :
    Calls Try.prog 32 #[pv, .agg #[.int .i64 r, .int .i64 cl], celV x, .bool wide] w fun e w' => e = .returned (.tuple #[]) ∧ Below w.heap.size w w' := by
  obtain ⟨w0, hw0⟩ : ∃ W0, W0 = ((w.alloc (.cells #[.int .i64 r, .int .i64 cl] 48)).alloc (.cells #[.int .i32 x.ru, .int .i32 x.m0, .int .i32 x.m1, .int .u8 x.k, .int .u8 x.a.fg.k, .int .u8 x.a.fg.r, .int .u8 x.a.fg.g, .int .u8 x.a.fg.b, .int .u8 x.a.bg.k, .int .u8 x.a.bg.r, .int .u8 x.a.bg.g, .int .u8 x.a.bg.b, .int .u16 (x.a.fl : Nat), .int .u8 x.l] 42)).alloc (.cells #[.bool wide] 4) := ⟨_, rfl⟩
  obtain ⟨b5, hb5⟩ : ∃ b, b = w.heap.size := ⟨_, rfl⟩
  obtain ⟨b6, hb6⟩ : ∃ b, b = w.heap.size + 1 := ⟨_, rfl⟩
  obtain ⟨b7, hb7⟩ : ∃ b, b = w.heap.size + 1 + 1 := ⟨_, rfl⟩
  have B0 : Below w.heap.size w w0 := by rw [hw0]; exact (((Below.refl _ _).alloc (Nat.le_refl _) _).alloc (by simp) _).alloc (by simp; omega) _
  have h5 : Lie w0 b5 [.int .i64 r, .int .i64 cl] := by rw [hw0]; exact ((Lie.new w _ _ b5 hb5).below ((Below.refl _ _).alloc (Nat.le_refl _) _)).below ((Below.refl _ _).alloc (Nat.le_refl _) _)
  have q0 := h5.at 0 rfl
  have q1 := h5.at 1 rfl
  have HB0 := Lib.hid B0
  have C1 := fun fv => changeAt_no w0 pv fv n k r cl (fun w' b => hs w' (B0.trans (b.mono B0.size))) hno
  clear B0 h5 hs hno
  go_enter Try.func32, Try.ntmps32
  go_upto_region 1 with (fail)
  rw [← hw0, ← hb7, ← hb6, ← hb5]
  clear hw0 hb5 hb6 hb7
  go_wp2_with fail
  refine (C1 _).mono ?_
  rintro e w1 ⟨rfl, b1⟩
  have HB1 := Lib.hid b1
  clear b1 C1 q0 q1
  go_wp2
  go_end0
  exact ⟨rfl, HB0.out.trans (HB1.out.mono HB0.out.size)⟩
theorem mark1_makes (w : World) (b5 b6 b7 i j : Nat) (m l : Int) (R : Cls) (h0 : Lie w b5 [.int .i64 (i : Nat), .int .i64 (j : Nat)]) (h1 : Lie w b6 [.int .i32 m]) (h2 : Lie w b7 [.int .u8 l]) (hw : Wh R) (hv : Lv R) (h01 : l = 0 ∨ l = 1) (hl : R.length ≤ 1000) : Makes w 78 #[] #[.pointer (some ⟨b5, 0, none⟩), .pointer (some ⟨b6, 0, none⟩), .pointer (some ⟨b7, 0, none⟩)] R (markM R (j : Nat) m l) := by
  intro wx v hb hr
  have f0_1 := (h0.below hb).at 1 rfl
  have f1_0 := (h1.below hb).at 0 rfl
  have f2_0 := (h2.below hb).at 0 rfl
  have HC := Lib.hid (mark_any wx v R (j : Nat) m l hr hw hv hl h01)
  obtain ⟨a, cc, rfl⟩ := hr.shape
  obtain ⟨n, hn⟩ : ∃ n, n = R.length := ⟨_, rfl⟩
  rw [← hn] at HC hr ⊢
  clear hb hr hn h0 h1 h2
  go_enter Try.func78, Try.ntmps78
  go_wp2_with fail
  refine HC.out.mono ?_
  rintro e w1 ⟨v1, rfl, own1, b1⟩
  obtain ⟨a1, c1, rfl⟩ := own1.shape
  have HO := Lib.hid own1
  have HB := Lib.hid b1
  clear own1 b1
  go_wp2
  go_ret
  exact ⟨_, rfl, HO.out, HB.out⟩
set_option maxHeartbeats 4000000 in
theorem gmark_yes (w : World) (lo p rb c i j : Nat) (H : List Hd) (m l : Int) (h : GAt w lo p rb c H) (hlo : lo ≤ w.heap.size) (hi : i < H.length) (hj : j < (hdAt H 0).R.length) (hij : (hdAt H i).R.length = (hdAt H 0).R.length) (hw : Wh (hdAt H i).R) (hv : Lv (hdAt H i).R) (h01 : l = 0 ∨ l = 1) (hl : (hdAt H i).R.length ≤ 1000) :
    Calls Try.prog 52 #[gV p, .agg #[.int .i64 (i : Nat), .int .i64 (j : Nat)], .int .i32 m, .int .u8 l] w fun e w' => e = .returned (.tuple #[]) ∧ (∃ y : Hd, y.R = markM (hdAt H i).R (j : Nat) m l ∧ w.heap.size ≤ y.b ∧ GAt w' lo p rb c (H.set i y)) ∧ Buts (· = rb) w w' := by
  obtain ⟨w0, hw0⟩ : ∃ W0, W0 = ((w.alloc (.cells #[.int .i64 (i : Nat), .int .i64 (j : Nat)] 48)).alloc (.cells #[.int .i32 m] 21)).alloc (.cells #[.int .u8 l] 40) := ⟨_, rfl⟩
  obtain ⟨b5, hb5⟩ : ∃ b, b = w.heap.size := ⟨_, rfl⟩
  obtain ⟨b6, hb6⟩ : ∃ b, b = w.heap.size + 1 := ⟨_, rfl⟩
  obtain ⟨b7, hb7⟩ : ∃ b, b = w.heap.size + 1 + 1 := ⟨_, rfl⟩
  have B0 : Below w.heap.size w w0 := by rw [hw0]; exact (((Below.refl _ _).alloc (Nat.le_refl _) _).alloc (by simp) _).alloc (by simp; omega) _
  have h5 : Lie w0 b5 [.int .i64 (i : Nat), .int .i64 (j : Nat)] := by rw [hw0]; exact ((Lie.new w _ _ b5 hb5).below ((Below.refl _ _).alloc (Nat.le_refl _) _)).below ((Below.refl _ _).alloc (Nat.le_refl _) _)
  have h6 : Lie w0 b6 [.int .i32 m] := by rw [hw0]; exact (Lie.new _ _ _ b6 (by rw [hb6]; simp)).below ((Below.refl _ _).alloc (Nat.le_refl _) _)
  have h7 : Lie w0 b7 [.int .u8 l] := by rw [hw0]; exact Lie.new _ _ _ b7 (by rw [hb7]; simp)
  have hmk := mark1_makes w0 b5 b6 b7 i j m l (hdAt H i).R h5 h6 h7 hw hv h01 hl
  have q0 := h5.at 0 rfl
  have q1 := h5.at 1 rfl
  have HB0 := Lib.hid B0
  have C1 := Lib.hid (changeAt_yes w0 lo p rb c i j 78 H #[] #[.pointer (some ⟨b5, 0, none⟩), .pointer (some ⟨b6, 0, none⟩), .pointer (some ⟨b7, 0, none⟩)] _ (h.below B0) (Nat.le_trans hlo B0.size) hi hj hij hmk (enters_of Try.func78 (by kernel_rfl) rfl) (by rw [show (markM (hdAt H i).R (j : Nat) m l).length = (hdAt H i).R.length from len_mark _ _ _ _]; omega))
  clear B0 h5 h6 h7 hmk h hlo hi hj hij hw hv h01 hl
  go_enter Try.func52, Try.ntmps52
  go_upto_region 1 with (fail)
  rw [← hw0, ← hb7, ← hb6, ← hb5]
  clear hw0 hb5 hb6 hb7
  go_wp2_with fail
  refine C1.out.mono ?_
  rintro e w1 ⟨rfl, ⟨y, h1, h2, h3⟩, bt⟩
  have HX := Lib.hid h1
  have HX2 := Lib.hid h2
  have HX3 := Lib.hid h3
  have HBT := Lib.hid bt
  clear h1 h2 h3 bt C1 q0 q1
  go_wp2
  go_end0
  exact ⟨rfl, ⟨y, HX.out, Nat.le_trans HB0.out.size HX2.out, HX3.out⟩, (Buts.of HB0.out).trans HBT.out⟩
set_option maxHeartbeats 4000000 in
theorem gmark_no (w : World) (pv : Value) (n k : Nat) (r cl : Int) (m l : Int) (hs : SizeIs w pv n k) (hno : (isInB r n && isInB cl k) = false) :
    Calls Try.prog 52 #[pv, .agg #[.int .i64 r, .int .i64 cl], .int .i32 m, .int .u8 l] w fun e w' => e = .returned (.tuple #[]) ∧ Below w.heap.size w w' := by
  obtain ⟨w0, hw0⟩ : ∃ W0, W0 = ((w.alloc (.cells #[.int .i64 r, .int .i64 cl] 48)).alloc (.cells #[.int .i32 m] 21)).alloc (.cells #[.int .u8 l] 40) := ⟨_, rfl⟩
  obtain ⟨b5, hb5⟩ : ∃ b, b = w.heap.size := ⟨_, rfl⟩
  obtain ⟨b6, hb6⟩ : ∃ b, b = w.heap.size + 1 := ⟨_, rfl⟩
  obtain ⟨b7, hb7⟩ : ∃ b, b = w.heap.size + 1 + 1 := ⟨_, rfl⟩
  have B0 : Below w.heap.size w w0 := by rw [hw0]; exact (((Below.refl _ _).alloc (Nat.le_refl _) _).alloc (by simp) _).alloc (by simp; omega) _
  have h5 : Lie w0 b5 [.int .i64 r, .int .i64 cl] := by rw [hw0]; exact ((Lie.new w _ _ b5 hb5).below ((Below.refl _ _).alloc (Nat.le_refl _) _)).below ((Below.refl _ _).alloc (Nat.le_refl _) _)
  have q0 := h5.at 0 rfl
  have q1 := h5.at 1 rfl
  have HB0 := Lib.hid B0
  have C1 := fun fv => changeAt_no w0 pv fv n k r cl (fun w' b => hs w' (B0.trans (b.mono B0.size))) hno
  clear B0 h5 hs hno
  go_enter Try.func52, Try.ntmps52
  go_upto_region 1 with (fail)
  rw [← hw0, ← hb7, ← hb6, ← hb5]
  clear hw0 hb5 hb6 hb7
  go_wp2_with fail
  refine (C1 _).mono ?_
  rintro e w1 ⟨rfl, b1⟩
  have HB1 := Lib.hid b1
  clear b1 C1 q0 q1
  go_wp2
  go_end0
  exact ⟨rfl, HB0.out.trans (HB1.out.mono HB0.out.size)⟩
set_option maxHeartbeats 4000000 in
theorem insert1_makes (w : World) (j : Nat) (k : Int) (x : Cel) (R : Cls) (hw : Wh R) (hl : R.length ≤ 1000) : Makes w 80 #[.agg #[.int .i64 (j : Nat), .int .i64 k, .int .i32 x.ru, .int .i32 x.m0, .int .i32 x.m1, .int .u8 x.k, .int .u8 x.a.fg.k, .int .u8 x.a.fg.r, .int .u8 x.a.fg.g, .int .u8 x.a.fg.b, .int .u8 x.a.bg.k, .int .u8 x.a.bg.r, .int .u8 x.a.bg.g, .int .u8 x.a.bg.b, .int .u16 (x.a.fl : Nat), .int .u8 x.l]] #[] R (insertM R (j : Nat) k x) := by
  intro wx v hb hr
  obtain ⟨w0, hw0⟩ : ∃ W0, W0 = wx.alloc (.cells #[.int .i64 (j : Nat), .int .i64 k, .int .i32 x.ru, .int .i32 x.m0, .int .i32 x.m1, .int .u8 x.k, .int .u8 x.a.fg.k, .int .u8 x.a.fg.r, .int .u8 x.a.fg.g, .int .u8 x.a.fg.b, .int .u8 x.a.bg.k, .int .u8 x.a.bg.r, .int .u8 x.a.bg.g, .int .u8 x.a.bg.b, .int .u16 (x.a.fl : Nat), .int .u8 x.l] 134) := ⟨_, rfl⟩
  obtain ⟨b2, hb2⟩ : ∃ b, b = wx.heap.size := ⟨_, rfl⟩
  have B0 : Below wx.heap.size wx w0 := by rw [hw0]; exact (Below.refl _ _).alloc (Nat.le_refl _) _
  have hL : Lie w0 b2 (#[.int .i64 (j : Nat), .int .i64 k, .int .i32 x.ru, .int .i32 x.m0, .int .i32 x.m1, .int .u8 x.k, .int .u8 x.a.fg.k, .int .u8 x.a.fg.r, .int .u8 x.a.fg.g, .int .u8 x.a.fg.b, .int .u8 x.a.bg.k, .int .u8 x.a.bg.r, .int .u8 x.a.bg.g, .int .u8 x.a.bg.b, .int .u16 (x.a.fl : Nat), .int .u8 x.l] : Array Value).toList := by rw [hw0]; exact Lie.new wx _ _ b2 hb2
  have f0 := hL.at 0 rfl
  have f1 := hL.at 1 rfl
  have f2 := hL.at 2 rfl
  have f3 := hL.at 3 rfl
  have f4 := hL.at 4 rfl
  have f5 := hL.at 5 rfl
  have f6 := hL.at 6 rfl
  have f7 := hL.at 7 rfl
  have f8 := hL.at 8 rfl
  have f9 := hL.at 9 rfl
  have f10 := hL.at 10 rfl
  have f11 := hL.at 11 rfl
  have f12 := hL.at 12 rfl
  have f13 := hL.at 13 rfl
  have f14 := hL.at 14 rfl
  have f15 := hL.at 15 rfl
  have HC := Lib.hid (insert_any w0 v R (j : Nat) k x (hr.below B0) hw hl)
  have HB0 := Lib.hid B0
  obtain ⟨a, cc, rfl⟩ := hr.shape
  obtain ⟨n, hn⟩ : ∃ n, n = R.length := ⟨_, rfl⟩
  rw [← hn] at HC hr ⊢
  clear hb hr hn B0 hL
  go_enter Try.func80, Try.ntmps80
  go_upto_region 1 with (fail)
  rw [← hw0, ← hb2]
  clear hw0 hb2
  go_wp2_with fail
  refine HC.out.mono ?_
  rintro e w1 ⟨v1, rfl, own1, b1⟩
  obtain ⟨a1, c1, rfl⟩ := own1.shape
  have HO := Lib.hid own1
  have HB := Lib.hid b1
  clear own1 b1 f0 f1 f2 f3 f4 f5 f6 f7 f8 f9 f10 f11 f12 f13 f14 f15
  go_wp2
  go_ret
  exact ⟨_, rfl, HO.out.lower HB0.out.size, HB0.out.trans (HB.out.mono HB0.out.size)⟩
set_option maxHeartbeats 4000000 in
theorem ginsert_yes (w : World) (lo p rb c i j : Nat) (H : List Hd) (k : Int) (x : Cel) (h : GAt w lo p rb c H) (hlo : lo ≤ w.heap.size) (hi : i < H.length) (hj : j < (hdAt H 0).R.length) (hij : (hdAt H i).R.length = (hdAt H 0).R.length) (hw : Wh (hdAt H i).R) (hl : (hdAt H i).R.length ≤ 1000) :
    Calls Try.prog 53 #[gV p, .agg #[.int .i64 (i : Nat), .int .i64 (j : Nat)], .int .i64 k, celV x] w fun e w' => e = .returned (.tuple #[]) ∧ (∃ y : Hd, y.R = insertM (hdAt H i).R (j : Nat) k x ∧ w.heap.size ≤ y.b ∧ GAt w' lo p rb c (H.set i y)) ∧ Buts (· = rb) w w' := by
  obtain ⟨w0, hw0⟩ : ∃ W0, W0 = (w.alloc (.cells #[.int .i64 (i : Nat), .int .i64 (j : Nat)] 48)).alloc (.cells #[.int .i32 x.ru, .int .i32 x.m0, .int .i32 x.m1, .int .u8 x.k, .int .u8 x.a.fg.k, .int .u8 x.a.fg.r, .int .u8 x.a.fg.g, .int .u8 x.a.fg.b, .int .u8 x.a.bg.k, .int .u8 x.a.bg.r, .int .u8 x.a.bg.g, .int .u8 x.a.bg.b, .int .u16 (x.a.fl : Nat), .int .u8 x.l] 42) := ⟨_, rfl⟩
  obtain ⟨b5, hb5⟩ : ∃ b, b = w.heap.size := ⟨_, rfl⟩
  obtain ⟨b6, hb6⟩ : ∃ b, b = w.heap.size + 1 := ⟨_, rfl⟩
  have B0 : Below w.heap.size w w0 := by rw [hw0]; exact ((Below.refl _ _).alloc (Nat.le_refl _) _).alloc (by simp) _
  have h5 : Lie w0 b5 [.int .i64 (i : Nat), .int .i64 (j : Nat)] := by rw [hw0]; exact (Lie.new w _ _ b5 hb5).below ((Below.refl _ _).alloc (Nat.le_refl _) _)
  have h6 : Lie w0 b6 [.int .i32 x.ru, .int .i32 x.m0, .int .i32 x.m1, .int .u8 x.k, .int .u8 x.a.fg.k, .int .u8 x.a.fg.r, .int .u8 x.a.fg.g, .int .u8 x.a.fg.b, .int .u8 x.a.bg.k, .int .u8 x.a.bg.r, .int .u8 x.a.bg.g, .int .u8 x.a.bg.b, .int .u16 (x.a.fl : Nat), .int .u8 x.l] := by rw [hw0]; exact Lie.new _ _ _ b6 (by rw [hb6]; simp)
  have hmk := insert1_makes w0 j k x (hdAt H i).R hw hl
  have q0 := h5.at 0 rfl
  have q1 := h5.at 1 rfl
  have g0 := h6.at 0 rfl
  have g1 := h6.at 1 rfl
  have g2 := h6.at 2 rfl
  have g3 := h6.at 3 rfl
  have g4 := h6.at 4 rfl
  have g5 := h6.at 5 rfl
  have g6 := h6.at 6 rfl
  have g7 := h6.at 7 rfl
  have g8 := h6.at 8 rfl
  have g9 := h6.at 9 rfl
  have g10 := h6.at 10 rfl
  have g11 := h6.at 11 rfl
  have g12 := h6.at 12 rfl
  have g13 := h6.at 13 rfl
  have HB0 := Lib.hid B0
  have C1 := Lib.hid (changeAt_yes w0 lo p rb c i j 80 H #[.agg #[.int .i64 (j : Nat), .int .i64 k, .int .i32 x.ru, .int .i32 x.m0, .int .i32 x.m1, .int .u8 x.k, .int .u8 x.a.fg.k, .int .u8 x.a.fg.r, .int .u8 x.a.fg.g, .int .u8 x.a.fg.b, .int .u8 x.a.bg.k, .int .u8 x.a.bg.r, .int .u8 x.a.bg.g, .int .u8 x.a.bg.b, .int .u16 (x.a.fl : Nat), .int .u8 x.l]] #[] _ (h.below B0) (Nat.le_trans hlo B0.size) hi hj hij hmk (enters_of Try.func80 (by kernel_rfl) rfl) (by rw [len_insert]; omega))
  clear B0 h5 h6 hmk h hlo hi hj hij hw hl
  go_enter Try.func53, Try.ntmps53
  go_upto_region 1 with (fail)
  rw [← hw0, ← hb6, ← hb5]
  clear hw0 hb5 hb6
  go_wp2_with fail
  refine C1.out.mono ?_
  rintro e w1 ⟨rfl, ⟨y, h1, h2, h3⟩, bt⟩
  have HX := Lib.hid h1
  have HX2 := Lib.hid h2
  have HX3 := Lib.hid h3
  have HBT := Lib.hid bt
  clear h1 h2 h3 bt C1 q0 q1 g0 g1 g2 g3 g4 g5 g6 g7 g8 g9 g10 g11 g12 g13
  go_wp2
  go_end0
  exact ⟨rfl, ⟨y, HX.out, Nat.le_trans HB0.out.size HX2.out, HX3.out⟩, (Buts.of HB0.out).trans HBT.out⟩
set_option maxHeartbeats 4000000 in
theorem ginsert_no (w : World) (pv : Value) (n m : Nat) (r cl k : Int) (x : Cel) (hs : SizeIs w pv n m) (hno : (isInB r n && isInB cl m) = false) :
    Calls Try.prog 53 #[pv, .agg #[.int .i64 r, .int .i64 cl], .int .i64 k, celV x] w fun e w' => e = .returned (.tuple #[]) ∧ Below w.heap.size w w' := by
  obtain ⟨w0, hw0⟩ : ∃ W0, W0 = (w.alloc (.cells #[.int .i64 r, .int .i64 cl] 48)).alloc (.cells #[.int .i32 x.ru, .int .i32 x.m0, .int .i32 x.m1, .int .u8 x.k, .int .u8 x.a.fg.k, .int .u8 x.a.fg.r, .int .u8 x.a.fg.g, .int .u8 x.a.fg.b, .int .u8 x.a.bg.k, .int .u8 x.a.bg.r, .int .u8 x.a.bg.g, .int .u8 x.a.bg.b, .int .u16 (x.a.fl : Nat), .int .u8 x.l] 42) := ⟨_, rfl⟩
  obtain ⟨b5, hb5⟩ : ∃ b, b = w.heap.size := ⟨_, rfl⟩
  obtain ⟨b6, hb6⟩ : ∃ b, b = w.heap.size + 1 := ⟨_, rfl⟩
  have B0 : Below w.heap.size w w0 := by rw [hw0]; exact ((Below.refl _ _).alloc (Nat.le_refl _) _).alloc (by simp) _
  have h5 : Lie w0 b5 [.int .i64 r, .int .i64 cl] := by rw [hw0]; exact (Lie.new w _ _ b5 hb5).below ((Below.refl _ _).alloc (Nat.le_refl _) _)
  have h6 : Lie w0 b6 [.int .i32 x.ru, .int .i32 x.m0, .int .i32 x.m1, .int .u8 x.k, .int .u8 x.a.fg.k, .int .u8 x.a.fg.r, .int .u8 x.a.fg.g, .int .u8 x.a.fg.b, .int .u8 x.a.bg.k, .int .u8 x.a.bg.r, .int .u8 x.a.bg.g, .int .u8 x.a.bg.b, .int .u16 (x.a.fl : Nat), .int .u8 x.l] := by rw [hw0]; exact Lie.new _ _ _ b6 (by rw [hb6]; simp)
  have q0 := h5.at 0 rfl
  have q1 := h5.at 1 rfl
  have g0 := h6.at 0 rfl
  have g1 := h6.at 1 rfl
  have g2 := h6.at 2 rfl
  have g3 := h6.at 3 rfl
  have g4 := h6.at 4 rfl
  have g5 := h6.at 5 rfl
  have g6 := h6.at 6 rfl
  have g7 := h6.at 7 rfl
  have g8 := h6.at 8 rfl
  have g9 := h6.at 9 rfl
  have g10 := h6.at 10 rfl
  have g11 := h6.at 11 rfl
  have g12 := h6.at 12 rfl
  have g13 := h6.at 13 rfl
  have HB0 := Lib.hid B0
  have C1 := fun fv => changeAt_no w0 pv fv n m r cl (fun w' b => hs w' (B0.trans (b.mono B0.size))) hno
  clear B0 h5 h6 hs hno
  go_enter Try.func53, Try.ntmps53
  go_upto_region 1 with (fail)
  rw [← hw0, ← hb6, ← hb5]
  clear hw0 hb5 hb6
  go_wp2_with fail
  refine (C1 _).mono ?_
  rintro e w1 ⟨rfl, b1⟩
  have HB1 := Lib.hid b1
  clear b1 C1 q0 q1 g0 g1 g2 g3 g4 g5 g6 g7 g8 g9 g10 g11 g12 g13
  go_wp2
  go_end0
  exact ⟨rfl, HB0.out.trans (HB1.out.mono HB0.out.size)⟩
set_option maxHeartbeats 4000000 in
theorem delete1_makes (w : World) (j : Nat) (k : Int) (x : Cel) (R : Cls) (hw : Wh R) (hl : R.length ≤ 1000) : Makes w 81 #[.agg #[.int .i64 (j : Nat), .int .i64 k, .int .i32 x.ru, .int .i32 x.m0, .int .i32 x.m1, .int .u8 x.k, .int .u8 x.a.fg.k, .int .u8 x.a.fg.r, .int .u8 x.a.fg.g, .int .u8 x.a.fg.b, .int .u8 x.a.bg.k, .int .u8 x.a.bg.r, .int .u8 x.a.bg.g, .int .u8 x.a.bg.b, .int .u16 (x.a.fl : Nat), .int .u8 x.l]] #[] R (deleteM R (j : Nat) k x) := by
  intro wx v hb hr
  obtain ⟨w0, hw0⟩ : ∃ W0, W0 = wx.alloc (.cells #[.int .i64 (j : Nat), .int .i64 k, .int .i32 x.ru, .int .i32 x.m0, .int .i32 x.m1, .int .u8 x.k, .int .u8 x.a.fg.k, .int .u8 x.a.fg.r, .int .u8 x.a.fg.g, .int .u8 x.a.fg.b, .int .u8 x.a.bg.k, .int .u8 x.a.bg.r, .int .u8 x.a.bg.g, .int .u8 x.a.bg.b, .int .u16 (x.a.fl : Nat), .int .u8 x.l] 134) := ⟨_, rfl⟩
  obtain ⟨b2, hb2⟩ : ∃ b, b = wx.heap.size := ⟨_, rfl⟩
  have B0 : Below wx.heap.size wx w0 := by rw [hw0]; exact (Below.refl _ _).alloc (Nat.le_refl _) _
  have hL : Lie w0 b2 (#[.int .i64 (j : Nat), .int .i64 k, .int .i32 x.ru, .int .i32 x.m0, .int .i32 x.m1, .int .u8 x.k, .int .u8 x.a.fg.k, .int .u8 x.a.fg.r, .int .u8 x.a.fg.g, .int .u8 x.a.fg.b, .int .u8 x.a.bg.k, .int .u8 x.a.bg.r, .int .u8 x.a.bg.g, .int .u8 x.a.bg.b, .int .u16 (x.a.fl : Nat), .int .u8 x.l] : Array Value).toList := by rw [hw0]; exact Lie.new wx _ _ b2 hb2
  have f0 := hL.at 0 rfl
  have f1 := hL.at 1 rfl
  have f2 := hL.at 2 rfl
  have f3 := hL.at 3 rfl
  have f4 := hL.at 4 rfl
  have f5 := hL.at 5 rfl
  have f6 := hL.at 6 rfl
  have f7 := hL.at 7 rfl
  have f8 := hL.at 8 rfl
  have f9 := hL.at 9 rfl
  have f10 := hL.at 10 rfl
  have f11 := hL.at 11 rfl
  have f12 := hL.at 12 rfl
  have f13 := hL.at 13 rfl
  have f14 := hL.at 14 rfl
  have f15 := hL.at 15 rfl
  have HC := Lib.hid (delete_any w0 v R (j : Nat) k x (hr.below B0) hw hl)
  have HB0 := Lib.hid B0
  obtain ⟨a, cc, rfl⟩ := hr.shape
  obtain ⟨n, hn⟩ : ∃ n, n = R.length := ⟨_, rfl⟩
  rw [← hn] at HC hr ⊢
  clear hb hr hn B0 hL
  go_enter Try.func81, Try.ntmps81
  go_upto_region 1 with (fail)
  rw [← hw0, ← hb2]
  clear hw0 hb2
  go_wp2_with fail
  refine HC.out.mono ?_
  rintro e w1 ⟨v1, rfl, own1, b1⟩
  obtain ⟨a1, c1, rfl⟩ := own1.shape
  have HO := Lib.hid own1
  have HB := Lib.hid b1
  clear own1 b1 f0 f1 f2 f3 f4 f5 f6 f7 f8 f9 f10 f11 f12 f13 f14 f15
  go_wp2
  go_ret
  exact ⟨_, rfl, HO.out.lower HB0.out.size, HB0.out.trans (HB.out.mono HB0.out.size)⟩
set_option maxHeartbeats 4000000 in
theorem gdelete_yes (w : World) (lo p rb c i j : Nat) (H : List Hd) (k : Int) (x : Cel) (h : GAt w lo p rb c H) (hlo : lo ≤ w.heap.size) (hi : i < H.length) (hj : j < (hdAt H 0).R.length) (hij : (hdAt H i).R.length = (hdAt H 0).R.length) (hw : Wh (hdAt H i).R) (hl : (hdAt H i).R.length ≤ 1000) :
    Calls Try.prog 54 #[gV p, .agg #[.int .i64 (i : Nat), .int .i64 (j : Nat)], .int .i64 k, celV x] w fun e w' => e = .returned (.tuple #[]) ∧ (∃ y : Hd, y.R = deleteM (hdAt H i).R (j : Nat) k x ∧ w.heap.size ≤ y.b ∧ GAt w' lo p rb c (H.set i y)) ∧ Buts (· = rb) w w' := by
  obtain ⟨w0, hw0⟩ : ∃ W0, W0 = (w.alloc (.cells #[.int .i64 (i : Nat), .int .i64 (j : Nat)] 48)).alloc (.cells #[.int .i32 x.ru, .int .i32 x.m0, .int .i32 x.m1, .int .u8 x.k, .int .u8 x.a.fg.k, .int .u8 x.a.fg.r, .int .u8 x.a.fg.g, .int .u8 x.a.fg.b, .int .u8 x.a.bg.k, .int .u8 x.a.bg.r, .int .u8 x.a.bg.g, .int .u8 x.a.bg.b, .int .u16 (x.a.fl : Nat), .int .u8 x.l] 42) := ⟨_, rfl⟩
  obtain ⟨b5, hb5⟩ : ∃ b, b = w.heap.size := ⟨_, rfl⟩
  obtain ⟨b6, hb6⟩ : ∃ b, b = w.heap.size + 1 := ⟨_, rfl⟩
  have B0 : Below w.heap.size w w0 := by rw [hw0]; exact ((Below.refl _ _).alloc (Nat.le_refl _) _).alloc (by simp) _
  have h5 : Lie w0 b5 [.int .i64 (i : Nat), .int .i64 (j : Nat)] := by rw [hw0]; exact (Lie.new w _ _ b5 hb5).below ((Below.refl _ _).alloc (Nat.le_refl _) _)
  have h6 : Lie w0 b6 [.int .i32 x.ru, .int .i32 x.m0, .int .i32 x.m1, .int .u8 x.k, .int .u8 x.a.fg.k, .int .u8 x.a.fg.r, .int .u8 x.a.fg.g, .int .u8 x.a.fg.b, .int .u8 x.a.bg.k, .int .u8 x.a.bg.r, .int .u8 x.a.bg.g, .int .u8 x.a.bg.b, .int .u16 (x.a.fl : Nat), .int .u8 x.l] := by rw [hw0]; exact Lie.new _ _ _ b6 (by rw [hb6]; simp)
  have hmk := delete1_makes w0 j k x (hdAt H i).R hw hl
  have q0 := h5.at 0 rfl
  have q1 := h5.at 1 rfl
  have g0 := h6.at 0 rfl
  have g1 := h6.at 1 rfl
  have g2 := h6.at 2 rfl
  have g3 := h6.at 3 rfl
  have g4 := h6.at 4 rfl
  have g5 := h6.at 5 rfl
  have g6 := h6.at 6 rfl
  have g7 := h6.at 7 rfl
  have g8 := h6.at 8 rfl
  have g9 := h6.at 9 rfl
  have g10 := h6.at 10 rfl
  have g11 := h6.at 11 rfl
  have g12 := h6.at 12 rfl
  have g13 := h6.at 13 rfl
  have HB0 := Lib.hid B0
  have C1 := Lib.hid (changeAt_yes w0 lo p rb c i j 81 H #[.agg #[.int .i64 (j : Nat), .int .i64 k, .int .i32 x.ru, .int .i32 x.m0, .int .i32 x.m1, .int .u8 x.k, .int .u8 x.a.fg.k, .int .u8 x.a.fg.r, .int .u8 x.a.fg.g, .int .u8 x.a.fg.b, .int .u8 x.a.bg.k, .int .u8 x.a.bg.r, .int .u8 x.a.bg.g, .int .u8 x.a.bg.b, .int .u16 (x.a.fl : Nat), .int .u8 x.l]] #[] _ (h.below B0) (Nat.le_trans hlo B0.size) hi hj hij hmk (enters_of Try.func81 (by kernel_rfl) rfl) (by rw [len_delete]; omega))
  clear B0 h5 h6 hmk h hlo hi hj hij hw hl
  go_enter Try.func54, Try.ntmps54
  go_upto_region 1 with (fail)
  rw [← hw0, ← hb6, ← hb5]
  clear hw0 hb5 hb6
  go_wp2_with fail
  refine C1.out.mono ?_
  rintro e w1 ⟨rfl, ⟨y, h1, h2, h3⟩, bt⟩
  have HX := Lib.hid h1
  have HX2 := Lib.hid h2
  have HX3 := Lib.hid h3
  have HBT := Lib.hid bt
  clear h1 h2 h3 bt C1 q0 q1 g0 g1 g2 g3 g4 g5 g6 g7 g8 g9 g10 g11 g12 g13
  go_wp2
  go_end0
  exact ⟨rfl, ⟨y, HX.out, Nat.le_trans HB0.out.size HX2.out, HX3.out⟩, (Buts.of HB0.out).trans HBT.out⟩
set_option maxHeartbeats 4000000 in
theorem gdelete_no (w : World) (pv : Value) (n m : Nat) (r cl k : Int) (x : Cel) (hs : SizeIs w pv n m) (hno : (isInB r n && isInB cl m) = false) :
    Calls Try.prog 54 #[pv, .agg #[.int .i64 r, .int .i64 cl], .int .i64 k, celV x] w fun e w' => e = .returned (.tuple #[]) ∧ Below w.heap.size w w' := by
  obtain ⟨w0, hw0⟩ : ∃ W0, W0 = (w.alloc (.cells #[.int .i64 r, .int .i64 cl] 48)).alloc (.cells #[.int .i32 x.ru, .int .i32 x.m0, .int .i32 x.m1, .int .u8 x.k, .int .u8 x.a.fg.k, .int .u8 x.a.fg.r, .int .u8 x.a.fg.g, .int .u8 x.a.fg.b, .int .u8 x.a.bg.k, .int .u8 x.a.bg.r, .int .u8 x.a.bg.g, .int .u8 x.a.bg.b, .int .u16 (x.a.fl : Nat), .int .u8 x.l] 42) := ⟨_, rfl⟩
  obtain ⟨b5, hb5⟩ : ∃ b, b = w.heap.size := ⟨_, rfl⟩
  obtain ⟨b6, hb6⟩ : ∃ b, b = w.heap.size + 1 := ⟨_, rfl⟩
  have B0 : Below w.heap.size w w0 := by rw [hw0]; exact ((Below.refl _ _).alloc (Nat.le_refl _) _).alloc (by simp) _
  have h5 : Lie w0 b5 [.int .i64 r, .int .i64 cl] := by rw [hw0]; exact (Lie.new w _ _ b5 hb5).below ((Below.refl _ _).alloc (Nat.le_refl _) _)
  have h6 : Lie w0 b6 [.int .i32 x.ru, .int .i32 x.m0, .int .i32 x.m1, .int .u8 x.k, .int .u8 x.a.fg.k, .int .u8 x.a.fg.r, .int .u8 x.a.fg.g, .int .u8 x.a.fg.b, .int .u8 x.a.bg.k, .int .u8 x.a.bg.r, .int .u8 x.a.bg.g, .int .u8 x.a.bg.b, .int .u16 (x.a.fl : Nat), .int .u8 x.l] := by rw [hw0]; exact Lie.new _ _ _ b6 (by rw [hb6]; simp)
  have q0 := h5.at 0 rfl
  have q1 := h5.at 1 rfl
  have g0 := h6.at 0 rfl
  have g1 := h6.at 1 rfl
  have g2 := h6.at 2 rfl
  have g3 := h6.at 3 rfl
  have g4 := h6.at 4 rfl
  have g5 := h6.at 5 rfl
  have g6 := h6.at 6 rfl
  have g7 := h6.at 7 rfl
  have g8 := h6.at 8 rfl
  have g9 := h6.at 9 rfl
  have g10 := h6.at 10 rfl
  have g11 := h6.at 11 rfl
  have g12 := h6.at 12 rfl
  have g13 := h6.at 13 rfl
  have HB0 := Lib.hid B0
  have C1 := fun fv => changeAt_no w0 pv fv n m r cl (fun w' b => hs w' (B0.trans (b.mono B0.size))) hno
  clear B0 h5 h6 hs hno
  go_enter Try.func54, Try.ntmps54
  go_upto_region 1 with (fail)
  rw [← hw0, ← hb6, ← hb5]
  clear hw0 hb5 hb6
  go_wp2_with fail
  refine (C1 _).mono ?_
  rintro e w1 ⟨rfl, b1⟩
  have HB1 := Lib.hid b1
  clear b1 C1 q0 q1 g0 g1 g2 g3 g4 g5 g6 g7 g8 g9 g10 g11 g12 g13
  go_wp2
  go_end0
  exact ⟨rfl, HB0.out.trans (HB1.out.mono HB0.out.size)⟩
theorem erase1_makes (w : World) (b7 b8 b9 : Nat) (s u : Int) (x : Cel) (R : Cls) (h7 : Lie w b7 [.int .i64 s]) (h8 : Lie w b8 [.int .i64 u]) (h9 : Lie w b9 [.int .i32 x.ru, .int .i32 x.m0, .int .i32 x.m1, .int .u8 x.k, .int .u8 x.a.fg.k, .int .u8 x.a.fg.r, .int .u8 x.a.fg.g, .int .u8 x.a.fg.b, .int .u8 x.a.bg.k, .int .u8 x.a.bg.r, .int .u8 x.a.bg.g, .int .u8 x.a.bg.b, .int .u16 (x.a.fl : Nat), .int .u8 x.l]) (hw : Wh R) (hl : R.length ≤ 1000) : Makes w 69 #[] #[.pointer (some ⟨b7, 0, none⟩), .pointer (some ⟨b8, 0, none⟩), .pointer (some ⟨b9, 0, none⟩)] R (erasePM R s u x) := by
  intro wx v hb hr
  have f0 := (h7.below hb).at 0 rfl
  have f1 := (h8.below hb).at 0 rfl
  have g0 := (h9.below hb).at 0 rfl
  have g1 := (h9.below hb).at 1 rfl
  have g2 := (h9.below hb).at 2 rfl
  have g3 := (h9.below hb).at 3 rfl
  have g4 := (h9.below hb).at 4 rfl
  have g5 := (h9.below hb).at 5 rfl
  have g6 := (h9.below hb).at 6 rfl
  have g7 := (h9.below hb).at 7 rfl
  have g8 := (h9.below hb).at 8 rfl
  have g9 := (h9.below hb).at 9 rfl
  have g10 := (h9.below hb).at 10 rfl
  have g11 := (h9.below hb).at 11 rfl
  have g12 := (h9.below hb).at 12 rfl
  have g13 := (h9.below hb).at 13 rfl
  have HC := Lib.hid (erase_any wx v R s u x hr hw hl)
  obtain ⟨a, cc, rfl⟩ := hr.shape
  obtain ⟨n, hn⟩ : ∃ n, n = R.length := ⟨_, rfl⟩
  rw [← hn] at HC hr ⊢
  clear hb hr hn h7 h8 h9
  go_enter Try.func69, Try.ntmps69
  go_wp2_with fail
  refine HC.out.mono ?_
  rintro e w1 ⟨v1, rfl, own1, b1⟩
  obtain ⟨a1, c1, rfl⟩ := own1.shape
  have HO := Lib.hid own1
  have HB := Lib.hid b1
  clear own1 b1
  go_wp2
  go_ret
  exact ⟨_, rfl, HO.out, HB.out⟩
set_option maxHeartbeats 4000000 in
theorem gerase_yes (w : World) (lo p rb c i : Nat) (H : List Hd) (s u : Int) (x : Cel) (h : GAt w lo p rb c H) (hlo : lo ≤ w.heap.size) (hi : i < H.length) (h0 : 0 < (hdAt H i).R.length) (hw : Wh (hdAt H i).R) (hl : (hdAt H i).R.length ≤ 1000) :
    Calls Try.prog 36 #[gV p, .int .i64 (i : Nat), .int .i64 s, .int .i64 u, celV x] w fun e w' => e = .returned (.tuple #[]) ∧ (∃ y : Hd, y.R = erasePM (hdAt H i).R s u x ∧ w.heap.size ≤ y.b ∧ GAt w' lo p rb c (H.set i y)) ∧ Buts (· = rb) w w' := by
  obtain ⟨w0, hw0⟩ : ∃ W0, W0 = ((w.alloc (.cells #[.int .i64 s] 3)).alloc (.cells #[.int .i64 u] 3)).alloc (.cells #[.int .i32 x.ru, .int .i32 x.m0, .int .i32 x.m1, .int .u8 x.k, .int .u8 x.a.fg.k, .int .u8 x.a.fg.r, .int .u8 x.a.fg.g, .int .u8 x.a.fg.b, .int .u8 x.a.bg.k, .int .u8 x.a.bg.r, .int .u8 x.a.bg.g, .int .u8 x.a.bg.b, .int .u16 (x.a.fl : Nat), .int .u8 x.l] 42) := ⟨_, rfl⟩
  obtain ⟨b7, hb7⟩ : ∃ b, b = w.heap.size := ⟨_, rfl⟩
  obtain ⟨b8, hb8⟩ : ∃ b, b = w.heap.size + 1 := ⟨_, rfl⟩
  obtain ⟨b9, hb9⟩ : ∃ b, b = w.heap.size + 1 + 1 := ⟨_, rfl⟩
  have B0 : Below w.heap.size w w0 := by rw [hw0]; exact (((Below.refl _ _).alloc (Nat.le_refl _) _).alloc (by simp) _).alloc (by simp; omega) _
  have HB0 := Lib.hid B0
  have h7 : Lie w0 b7 [.int .i64 s] := by rw [hw0]; exact ((Lie.new w _ _ b7 hb7).below ((Below.refl _ _).alloc (Nat.le_refl _) _)).below ((Below.refl _ _).alloc (Nat.le_refl _) _)
  have h8 : Lie w0 b8 [.int .i64 u] := by rw [hw0]; exact (Lie.new _ _ _ b8 (by rw [hb8]; simp)).below ((Below.refl _ _).alloc (Nat.le_refl _) _)
  have h9 : Lie w0 b9 [.int .i32 x.ru, .int .i32 x.m0, .int .i32 x.m1, .int .u8 x.k, .int .u8 x.a.fg.k, .int .u8 x.a.fg.r, .int .u8 x.a.fg.g, .int .u8 x.a.fg.b, .int .u8 x.a.bg.k, .int .u8 x.a.bg.r, .int .u8 x.a.bg.g, .int .u8 x.a.bg.b, .int .u16 (x.a.fl : Nat), .int .u8 x.l] := by rw [hw0]; exact Lie.new _ _ _ b9 (by rw [hb9]; simp)
  have hmk := erase1_makes w0 b7 b8 b9 s u x (hdAt H i).R h7 h8 h9 hw hl
  have C1 := Lib.hid (change_yes w0 lo p rb c i 69 H #[] #[.pointer (some ⟨b7, 0, none⟩), .pointer (some ⟨b8, 0, none⟩), .pointer (some ⟨b9, 0, none⟩)] _ (h.below B0) (Nat.le_trans hlo B0.size) hi hmk (enters_of Try.func69 (by kernel_rfl) rfl) (by rw [len_eraseP]; exact h0))
  clear B0 h7 h8 h9 hmk h hlo hi h0 hw hl
  go_enter Try.func36, Try.ntmps36
  go_upto_region 1 with (fail)
  rw [← hw0, ← hb9, ← hb8, ← hb7]
  clear hw0 hb7 hb8 hb9
  go_wp2_with fail
  refine C1.out.mono ?_
  rintro e w1 ⟨rfl, ⟨y, h1, h2, h3⟩, bt⟩
  have HX := Lib.hid h1
  have HX2 := Lib.hid h2
  have HX3 := Lib.hid h3
  have HBT := Lib.hid bt
  clear h1 h2 h3 bt C1
  go_wp2
  go_end0
  exact ⟨rfl, ⟨y, HX.out, Nat.le_trans HB0.out.size HX2.out, HX3.out⟩, (Buts.of HB0.out).trans HBT.out⟩
set_option maxHeartbeats 4000000 in
theorem gerase_no (w : World) (pv : Value) (n c : Nat) (a : Option Addr) (i s u : Int) (x : Cel) (hk : ∀ w', Below w.heap.size w w' → Calls Try.prog 47 #[pv] w' fun e w'' => e = .returned (.slice a n c) ∧ w' = w'') (hno : isInB i n = false) :
    Calls Try.prog 36 #[pv, .int .i64 i, .int .i64 s, .int .i64 u, celV x] w fun e w' => e = .returned (.tuple #[]) ∧ Below w.heap.size w w' := by
  obtain ⟨w0, hw0⟩ : ∃ W0, W0 = ((w.alloc (.cells #[.int .i64 s] 3)).alloc (.cells #[.int .i64 u] 3)).alloc (.cells #[.int .i32 x.ru, .int .i32 x.m0, .int .i32 x.m1, .int .u8 x.k, .int .u8 x.a.fg.k, .int .u8 x.a.fg.r, .int .u8 x.a.fg.g, .int .u8 x.a.fg.b, .int .u8 x.a.bg.k, .int .u8 x.a.bg.r, .int .u8 x.a.bg.g, .int .u8 x.a.bg.b, .int .u16 (x.a.fl : Nat), .int .u8 x.l] 42) := ⟨_, rfl⟩
  obtain ⟨b7, hb7⟩ : ∃ b, b = w.heap.size := ⟨_, rfl⟩
  obtain ⟨b8, hb8⟩ : ∃ b, b = w.heap.size + 1 := ⟨_, rfl⟩
  obtain ⟨b9, hb9⟩ : ∃ b, b = w.heap.size + 1 + 1 := ⟨_, rfl⟩
  have B0 : Below w.heap.size w w0 := by rw [hw0]; exact (((Below.refl _ _).alloc (Nat.le_refl _) _).alloc (by simp) _).alloc (by simp; omega) _
  have HB0 := Lib.hid B0
  have C1 := fun fv => Lib.hid (change_not w0 pv n c a i fv (hk w0 B0) hno)
  clear B0 hk hno
  go_enter Try.func36, Try.ntmps36
  go_upto_region 1 with (fail)
  rw [← hw0, ← hb9, ← hb8, ← hb7]
  clear hw0 hb7 hb8 hb9
  go_wp2_with fail
  refine (C1 _).out.mono ?_
  rintro e w1 ⟨rfl, rfl⟩
  go_wp2
  go_end0
  exact ⟨rfl, HB0.out⟩
end Go.Proofs.Ytdeahnphcfcfpaa.Lab
