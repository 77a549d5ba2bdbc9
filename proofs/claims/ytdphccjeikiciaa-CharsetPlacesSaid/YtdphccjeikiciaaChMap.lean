/- Choices in memory; and Map, the program's and the reference's. -/
import Derived.Test.YtdphccjeikiciaaChDo
import Derived.Test.YtdphccjeikiciaaChRef
namespace Go.Proofs.Ytdphccjeikiciaa.Lab
open Go.RowKit

theorem bstep {w v v' : World} (h : Below w.heap.size w v) (hb : Below v.heap.size v v') : Below w.heap.size w v' := h.trans (hb.mono h.size)

/-- A choice's six numbers lie at the head of a block. -/
def V6 (w : World) (b : Nat) (k : Ch) : Prop :=
  b < w.heap.size ∧ (w.cell? ⟨b, 0, none⟩ = some (.int .i64 k.a) ∧ w.cell? ⟨b, 1, none⟩ = some (.int .i64 k.b) ∧ w.cell? ⟨b, 2, none⟩ = some (.int .i64 k.c) ∧ w.cell? ⟨b, 3, none⟩ = some (.int .i64 k.d) ∧ w.cell? ⟨b, 4, none⟩ = some (.int .i64 k.l) ∧ w.cell? ⟨b, 5, none⟩ = some (.int .i64 k.s)) ∧ ∀ i, w.frozen? ⟨b, i, none⟩ = false

theorem V6.drew {w : World} {b : Nat} {k : Ch} (h : V6 w b k) : V6 w.drew b k := h
theorem V6.below {w w' : World} {b : Nat} {k : Ch} (h : V6 w b k) (hb : Below w.heap.size w w') : V6 w' b k := by
  obtain ⟨h0, ⟨h1, h2, h3, h4, h5, h6⟩, h7⟩ := h
  exact ⟨Nat.lt_of_lt_of_le h0 hb.size, ⟨(hb.cell (p := ⟨b, 0, none⟩) h0).trans h1, (hb.cell (p := ⟨b, 1, none⟩) h0).trans h2, (hb.cell (p := ⟨b, 2, none⟩) h0).trans h3, (hb.cell (p := ⟨b, 3, none⟩) h0).trans h4, (hb.cell (p := ⟨b, 4, none⟩) h0).trans h5, (hb.cell (p := ⟨b, 5, none⟩) h0).trans h6⟩, fun i => (hb.frozen (p := ⟨b, i, none⟩) h0).trans (h7 i)⟩
theorem V6.past {w : World} {b : Nat} {k : Ch} (h : V6 w b k) (o : Obj) : V6 (w.alloc o) b k := h.below ((Below.refl _ _).alloc (Nat.le_refl _) _)
theorem V6.newAt (w : World) (n : Nat) (hn : n = w.heap.size) (a b c d l s : Int) (T : TypeId) : V6 (w.alloc (.cells #[.int .i64 a, .int .i64 b, .int .i64 c, .int .i64 d, .int .i64 l, .int .i64 s] T)) n ⟨a, b, c, d, l, s⟩ := by
  subst hn
  refine ⟨by simp, ⟨?_, ?_, ?_, ?_, ?_, ?_⟩, fun i => World.frozen?_alloc_at _ _ _ _ rfl⟩ <;> (rw [World.cell?_alloc_at _ _ _ _ rfl]; rfl)

/-- What the walk reads of it. -/
def V6S (w : World) (b : Nat) (k : Ch) : Prop := (w.cell? ⟨b, 0, none⟩ = some (.int .i64 k.a) ∧ w.cell? ⟨b, 1, none⟩ = some (.int .i64 k.b) ∧ w.cell? ⟨b, 2, none⟩ = some (.int .i64 k.c) ∧ w.cell? ⟨b, 3, none⟩ = some (.int .i64 k.d) ∧ w.cell? ⟨b, 4, none⟩ = some (.int .i64 k.l) ∧ w.cell? ⟨b, 5, none⟩ = some (.int .i64 k.s)) ∧ w.frozen? ⟨b, 0, none⟩ = false ∧ w.frozen? ⟨b, 1, none⟩ = false ∧ w.frozen? ⟨b, 2, none⟩ = false ∧ w.frozen? ⟨b, 3, none⟩ = false ∧ w.frozen? ⟨b, 4, none⟩ = false ∧ w.frozen? ⟨b, 5, none⟩ = false
theorem V6.s {w : World} {b : Nat} {k : Ch} (h : V6 w b k) : V6S w b k := ⟨h.2.1, h.2.2 0, h.2.2 1, h.2.2 2, h.2.2 3, h.2.2 4, h.2.2 5⟩

theorem ofM_zero (r : Int) : ofM 0 r = r := ofM_same 0 r (by omega) (by omega)

set_option maxHeartbeats 4000000 in
theorem map_any (k : Ch) (r : Int) (w : World) (h : k.Ok) : Calls Try.prog 15 #[k.val, .int .i32 r] w fun e w' => e = .returned (.tuple #[(k.map r).1.val, .int .i32 (k.map r).2]) ∧ Below w.heap.size w w' := by
  have hq := fun w => eqVal k Ch.zero w
  cases hz : eqC k Ch.zero
  · obtain ⟨a, b, c, d, l, s⟩ := k
    have hn := h.now
    have hm := Lib.hid (show (Ch.map ⟨a, b, c, d, l, s⟩ r) = (⟨a, b, c, d, l, 0⟩, ofM (Ch.at ⟨a, b, c, d, l, s⟩ (Ch.now ⟨a, b, c, d, l, s⟩)) r) from rfl)
    have N := Lib.hid (fun w => now_any ⟨a, b, c, d, l, s⟩ w)
    generalize Ch.now ⟨a, b, c, d, l, s⟩ = p at *
    obtain ⟨p0, p3⟩ := hn
    simp only [hz] at hq
    clear hz h
    obtain ⟨v, hv⟩ : ∃ v, Ch.at ⟨a, b, c, d, l, s⟩ p = v := ⟨_, rfl⟩
    rw [hv] at hm
    obtain rfl | rfl | rfl | rfl : p = 0 ∨ p = 1 ∨ p = 2 ∨ p = 3 := by omega
    · obtain rfl : a = v := hv
      go_enter Try.func15, Try.ntmps15
      go_wp2_with fail
      refine (N.out _).mono ?_
      rintro e w5 ⟨rfl, hb⟩
      have H5 := Lib.hid (show Below w.heap.size w w5 from bstep (((Below.refl _ _).alloc (Nat.le_refl _) _).alloc (by simp) _) hb)
      have V1 := (V6.newAt w w.heap.size rfl a b c d l s 25).past (.cells #[.int .i64 0, .int .i64 0, .int .i64 0, .int .i64 0, .int .i64 0, .int .i64 0] 25) |>.below hb
      have V2 := (V6.newAt (w.alloc (.cells #[.int .i64 a, .int .i64 b, .int .i64 c, .int .i64 d, .int .i64 l, .int .i64 s] 25)) (w.heap.size + 1) (by simp) 0 0 0 0 0 0 25).below hb
      clear hb N
      obtain ⟨⟨c1, c2, c3, c4, c5, c6⟩, g1, g2, g3, g4, g5, g6⟩ := V1.s
      go_wp2_with fail
      refine (of_any _ _ _).mono ?_
      rintro e w6 ⟨rfl, hb⟩
      have H6 := Lib.hid (bstep H5.out hb)
      have V3 := V1.below hb
      have V4 := V2.below hb
      clear hb V1 V2 c1 c2 c3 c4 c5 c6 g1 g2 g3 g4 g5 g6 H5
      obtain ⟨⟨c1, c2, c3, c4, c5, c6⟩, g1, g2, g3, g4, g5, g6⟩ := V3.s
      obtain ⟨⟨d1, d2, d3, d4, d5, d6⟩, f1, f2, f3, f4, f5, f6⟩ := V4.s
      clear V3 V4
      generalize ofM a r = out at *
      go_wp2
      refine bodyPost_ret (v := .tuple #[(⟨a, b, c, d, l, 0⟩ : Ch).val, .int .i32 out]) (by simp [results, Try.results15, go_sem, d1, d2, d3, d4, d5, d6]) rfl ⟨by rw [hm.out], ?_⟩
      exact (((((((H6.out.setCell (by simp) _).setCell (by simp) _).setCell (by simp) _).setCell (by simp) _).setCell (by simp) _).setCell (by simp) _).setCell (by simp) _)
    · obtain rfl : b = v := hv
      go_enter Try.func15, Try.ntmps15
      go_wp2_with fail
      refine (N.out _).mono ?_
      rintro e w5 ⟨rfl, hb⟩
      have H5 := Lib.hid (show Below w.heap.size w w5 from bstep (((Below.refl _ _).alloc (Nat.le_refl _) _).alloc (by simp) _) hb)
      have V1 := (V6.newAt w w.heap.size rfl a b c d l s 25).past (.cells #[.int .i64 0, .int .i64 0, .int .i64 0, .int .i64 0, .int .i64 0, .int .i64 0] 25) |>.below hb
      have V2 := (V6.newAt (w.alloc (.cells #[.int .i64 a, .int .i64 b, .int .i64 c, .int .i64 d, .int .i64 l, .int .i64 s] 25)) (w.heap.size + 1) (by simp) 0 0 0 0 0 0 25).below hb
      clear hb N
      obtain ⟨⟨c1, c2, c3, c4, c5, c6⟩, g1, g2, g3, g4, g5, g6⟩ := V1.s
      go_wp2_with fail
      refine (of_any _ _ _).mono ?_
      rintro e w6 ⟨rfl, hb⟩
      have H6 := Lib.hid (bstep H5.out hb)
      have V3 := V1.below hb
      have V4 := V2.below hb
      clear hb V1 V2 c1 c2 c3 c4 c5 c6 g1 g2 g3 g4 g5 g6 H5
      obtain ⟨⟨c1, c2, c3, c4, c5, c6⟩, g1, g2, g3, g4, g5, g6⟩ := V3.s
      obtain ⟨⟨d1, d2, d3, d4, d5, d6⟩, f1, f2, f3, f4, f5, f6⟩ := V4.s
      clear V3 V4
      generalize ofM b r = out at *
      go_wp2
      refine bodyPost_ret (v := .tuple #[(⟨a, b, c, d, l, 0⟩ : Ch).val, .int .i32 out]) (by simp [results, Try.results15, go_sem, d1, d2, d3, d4, d5, d6]) rfl ⟨by rw [hm.out], ?_⟩
      exact (((((((H6.out.setCell (by simp) _).setCell (by simp) _).setCell (by simp) _).setCell (by simp) _).setCell (by simp) _).setCell (by simp) _).setCell (by simp) _)
    · obtain rfl : c = v := hv
      go_enter Try.func15, Try.ntmps15
      go_wp2_with fail
      refine (N.out _).mono ?_
      rintro e w5 ⟨rfl, hb⟩
      have H5 := Lib.hid (show Below w.heap.size w w5 from bstep (((Below.refl _ _).alloc (Nat.le_refl _) _).alloc (by simp) _) hb)
      have V1 := (V6.newAt w w.heap.size rfl a b c d l s 25).past (.cells #[.int .i64 0, .int .i64 0, .int .i64 0, .int .i64 0, .int .i64 0, .int .i64 0] 25) |>.below hb
      have V2 := (V6.newAt (w.alloc (.cells #[.int .i64 a, .int .i64 b, .int .i64 c, .int .i64 d, .int .i64 l, .int .i64 s] 25)) (w.heap.size + 1) (by simp) 0 0 0 0 0 0 25).below hb
      clear hb N
      obtain ⟨⟨c1, c2, c3, c4, c5, c6⟩, g1, g2, g3, g4, g5, g6⟩ := V1.s
      go_wp2_with fail
      refine (of_any _ _ _).mono ?_
      rintro e w6 ⟨rfl, hb⟩
      have H6 := Lib.hid (bstep H5.out hb)
      have V3 := V1.below hb
      have V4 := V2.below hb
      clear hb V1 V2 c1 c2 c3 c4 c5 c6 g1 g2 g3 g4 g5 g6 H5
      obtain ⟨⟨c1, c2, c3, c4, c5, c6⟩, g1, g2, g3, g4, g5, g6⟩ := V3.s
      obtain ⟨⟨d1, d2, d3, d4, d5, d6⟩, f1, f2, f3, f4, f5, f6⟩ := V4.s
      clear V3 V4
      generalize ofM c r = out at *
      go_wp2
      refine bodyPost_ret (v := .tuple #[(⟨a, b, c, d, l, 0⟩ : Ch).val, .int .i32 out]) (by simp [results, Try.results15, go_sem, d1, d2, d3, d4, d5, d6]) rfl ⟨by rw [hm.out], ?_⟩
      exact (((((((H6.out.setCell (by simp) _).setCell (by simp) _).setCell (by simp) _).setCell (by simp) _).setCell (by simp) _).setCell (by simp) _).setCell (by simp) _)
    · obtain rfl : d = v := hv
      go_enter Try.func15, Try.ntmps15
      go_wp2_with fail
      refine (N.out _).mono ?_
      rintro e w5 ⟨rfl, hb⟩
      have H5 := Lib.hid (show Below w.heap.size w w5 from bstep (((Below.refl _ _).alloc (Nat.le_refl _) _).alloc (by simp) _) hb)
      have V1 := (V6.newAt w w.heap.size rfl a b c d l s 25).past (.cells #[.int .i64 0, .int .i64 0, .int .i64 0, .int .i64 0, .int .i64 0, .int .i64 0] 25) |>.below hb
      have V2 := (V6.newAt (w.alloc (.cells #[.int .i64 a, .int .i64 b, .int .i64 c, .int .i64 d, .int .i64 l, .int .i64 s] 25)) (w.heap.size + 1) (by simp) 0 0 0 0 0 0 25).below hb
      clear hb N
      obtain ⟨⟨c1, c2, c3, c4, c5, c6⟩, g1, g2, g3, g4, g5, g6⟩ := V1.s
      go_wp2_with fail
      refine (of_any _ _ _).mono ?_
      rintro e w6 ⟨rfl, hb⟩
      have H6 := Lib.hid (bstep H5.out hb)
      have V3 := V1.below hb
      have V4 := V2.below hb
      clear hb V1 V2 c1 c2 c3 c4 c5 c6 g1 g2 g3 g4 g5 g6 H5
      obtain ⟨⟨c1, c2, c3, c4, c5, c6⟩, g1, g2, g3, g4, g5, g6⟩ := V3.s
      obtain ⟨⟨d1, d2, d3, d4, d5, d6⟩, f1, f2, f3, f4, f5, f6⟩ := V4.s
      clear V3 V4
      generalize ofM d r = out at *
      go_wp2
      refine bodyPost_ret (v := .tuple #[(⟨a, b, c, d, l, 0⟩ : Ch).val, .int .i32 out]) (by simp [results, Try.results15, go_sem, d1, d2, d3, d4, d5, d6]) rfl ⟨by rw [hm.out], ?_⟩
      exact (((((((H6.out.setCell (by simp) _).setCell (by simp) _).setCell (by simp) _).setCell (by simp) _).setCell (by simp) _).setCell (by simp) _).setCell (by simp) _)
  · obtain rfl := (eqC_iff _ _).1 hz
    simp only [hz] at hq
    clear hz h
    go_enter Try.func15, Try.ntmps15
    go_wp2
    refine bodyPost_ret (v := .tuple #[Ch.zero.val, .int .i32 r]) (by simp [results, Try.results15, go_sem]) rfl ⟨by rw [show Ch.zero.map r = (Ch.zero, r) from congrArg (Prod.mk Ch.zero) (ofM_zero r)], ?_⟩
    exact ((Below.refl _ _).alloc (Nat.le_refl _) _).alloc (by simp) _

set_option maxHeartbeats 4000000 in
theorem rmap_any (k : Ch) (r : Int) (w : World) (h : k.Ok) : Calls Try.prog 16 #[k.val, .int .i32 r] w fun e w' => e = .returned (.tuple #[(k.map r).1.val, .int .i32 (k.map r).2]) ∧ Below w.heap.size w w' := by
  obtain ⟨a, b, c, d, l, s⟩ := k
  have hn := h.now
  have hm := Lib.hid (show (Ch.map ⟨a, b, c, d, l, s⟩ r) = (⟨a, b, c, d, l, 0⟩, ofM (Ch.at ⟨a, b, c, d, l, s⟩ (Ch.now ⟨a, b, c, d, l, s⟩)) r) from rfl)
  have N := Lib.hid (fun w => rnow_any ⟨a, b, c, d, l, s⟩ w h)
  generalize Ch.now ⟨a, b, c, d, l, s⟩ = p at *
  obtain ⟨p0, p3⟩ := hn
  clear h
  obtain ⟨v, hv⟩ : ∃ v, Ch.at ⟨a, b, c, d, l, s⟩ p = v := ⟨_, rfl⟩
  rw [hv] at hm
  obtain rfl | rfl | rfl | rfl : p = 0 ∨ p = 1 ∨ p = 2 ∨ p = 3 := by omega
  · obtain rfl : a = v := hv
    go_enter Try.func16, Try.ntmps16
    go_wp2_with fail
    refine (N.out _).mono ?_
    rintro e w5 ⟨rfl, hb⟩
    have H5 := Lib.hid (show Below w.heap.size w w5 from bstep (((Below.refl _ _).alloc (Nat.le_refl _) _).alloc (by simp) _) hb)
    have V1 := (V6.newAt w w.heap.size rfl a b c d l s 27).past (.cells #[.int .i64 0, .int .i64 0, .int .i64 0, .int .i64 0, .int .i64 0, .int .i64 0] 27) |>.below hb
    have V2 := (V6.newAt (w.alloc (.cells #[.int .i64 a, .int .i64 b, .int .i64 c, .int .i64 d, .int .i64 l, .int .i64 s] 27)) (w.heap.size + 1) (by simp) 0 0 0 0 0 0 27).below hb
    clear hb N
    obtain ⟨⟨c1, c2, c3, c4, c5, c6⟩, g1, g2, g3, g4, g5, g6⟩ := V1.s
    go_wp2_with fail
    refine (ref_any _ _ _).mono ?_
    rintro e w6 ⟨rfl, hb⟩
    have H6 := Lib.hid (bstep H5.out hb)
    have V3 := V1.below hb
    have V4 := V2.below hb
    clear hb V1 V2 c1 c2 c3 c4 c5 c6 g1 g2 g3 g4 g5 g6 H5
    obtain ⟨⟨c1, c2, c3, c4, c5, c6⟩, g1, g2, g3, g4, g5, g6⟩ := V3.s
    obtain ⟨⟨d1, d2, d3, d4, d5, d6⟩, f1, f2, f3, f4, f5, f6⟩ := V4.s
    clear V3 V4
    generalize ofM a r = out at *
    go_wp2
    refine bodyPost_ret (v := .tuple #[(⟨a, b, c, d, l, 0⟩ : Ch).val, .int .i32 out]) (by simp [results, Try.results16, go_sem, d1, d2, d3, d4, d5, d6]) rfl ⟨by rw [hm.out], ?_⟩
    exact (((((((H6.out.setCell (by simp) _).setCell (by simp) _).setCell (by simp) _).setCell (by simp) _).setCell (by simp) _).setCell (by simp) _).setCell (by simp) _)
  · obtain rfl : b = v := hv
    go_enter Try.func16, Try.ntmps16
    go_wp2_with fail
    refine (N.out _).mono ?_
    rintro e w5 ⟨rfl, hb⟩
    have H5 := Lib.hid (show Below w.heap.size w w5 from bstep (((Below.refl _ _).alloc (Nat.le_refl _) _).alloc (by simp) _) hb)
    have V1 := (V6.newAt w w.heap.size rfl a b c d l s 27).past (.cells #[.int .i64 0, .int .i64 0, .int .i64 0, .int .i64 0, .int .i64 0, .int .i64 0] 27) |>.below hb
    have V2 := (V6.newAt (w.alloc (.cells #[.int .i64 a, .int .i64 b, .int .i64 c, .int .i64 d, .int .i64 l, .int .i64 s] 27)) (w.heap.size + 1) (by simp) 0 0 0 0 0 0 27).below hb
    clear hb N
    obtain ⟨⟨c1, c2, c3, c4, c5, c6⟩, g1, g2, g3, g4, g5, g6⟩ := V1.s
    go_wp2_with fail
    refine (ref_any _ _ _).mono ?_
    rintro e w6 ⟨rfl, hb⟩
    have H6 := Lib.hid (bstep H5.out hb)
    have V3 := V1.below hb
    have V4 := V2.below hb
    clear hb V1 V2 c1 c2 c3 c4 c5 c6 g1 g2 g3 g4 g5 g6 H5
    obtain ⟨⟨c1, c2, c3, c4, c5, c6⟩, g1, g2, g3, g4, g5, g6⟩ := V3.s
    obtain ⟨⟨d1, d2, d3, d4, d5, d6⟩, f1, f2, f3, f4, f5, f6⟩ := V4.s
    clear V3 V4
    generalize ofM b r = out at *
    go_wp2
    refine bodyPost_ret (v := .tuple #[(⟨a, b, c, d, l, 0⟩ : Ch).val, .int .i32 out]) (by simp [results, Try.results16, go_sem, d1, d2, d3, d4, d5, d6]) rfl ⟨by rw [hm.out], ?_⟩
    exact (((((((H6.out.setCell (by simp) _).setCell (by simp) _).setCell (by simp) _).setCell (by simp) _).setCell (by simp) _).setCell (by simp) _).setCell (by simp) _)
  · obtain rfl : c = v := hv
    go_enter Try.func16, Try.ntmps16
    go_wp2_with fail
    refine (N.out _).mono ?_
    rintro e w5 ⟨rfl, hb⟩
    have H5 := Lib.hid (show Below w.heap.size w w5 from bstep (((Below.refl _ _).alloc (Nat.le_refl _) _).alloc (by simp) _) hb)
    have V1 := (V6.newAt w w.heap.size rfl a b c d l s 27).past (.cells #[.int .i64 0, .int .i64 0, .int .i64 0, .int .i64 0, .int .i64 0, .int .i64 0] 27) |>.below hb
    have V2 := (V6.newAt (w.alloc (.cells #[.int .i64 a, .int .i64 b, .int .i64 c, .int .i64 d, .int .i64 l, .int .i64 s] 27)) (w.heap.size + 1) (by simp) 0 0 0 0 0 0 27).below hb
    clear hb N
    obtain ⟨⟨c1, c2, c3, c4, c5, c6⟩, g1, g2, g3, g4, g5, g6⟩ := V1.s
    go_wp2_with fail
    refine (ref_any _ _ _).mono ?_
    rintro e w6 ⟨rfl, hb⟩
    have H6 := Lib.hid (bstep H5.out hb)
    have V3 := V1.below hb
    have V4 := V2.below hb
    clear hb V1 V2 c1 c2 c3 c4 c5 c6 g1 g2 g3 g4 g5 g6 H5
    obtain ⟨⟨c1, c2, c3, c4, c5, c6⟩, g1, g2, g3, g4, g5, g6⟩ := V3.s
    obtain ⟨⟨d1, d2, d3, d4, d5, d6⟩, f1, f2, f3, f4, f5, f6⟩ := V4.s
    clear V3 V4
    generalize ofM c r = out at *
    go_wp2
    refine bodyPost_ret (v := .tuple #[(⟨a, b, c, d, l, 0⟩ : Ch).val, .int .i32 out]) (by simp [results, Try.results16, go_sem, d1, d2, d3, d4, d5, d6]) rfl ⟨by rw [hm.out], ?_⟩
    exact (((((((H6.out.setCell (by simp) _).setCell (by simp) _).setCell (by simp) _).setCell (by simp) _).setCell (by simp) _).setCell (by simp) _).setCell (by simp) _)
  · obtain rfl : d = v := hv
    go_enter Try.func16, Try.ntmps16
    go_wp2_with fail
    refine (N.out _).mono ?_
    rintro e w5 ⟨rfl, hb⟩
    have H5 := Lib.hid (show Below w.heap.size w w5 from bstep (((Below.refl _ _).alloc (Nat.le_refl _) _).alloc (by simp) _) hb)
    have V1 := (V6.newAt w w.heap.size rfl a b c d l s 27).past (.cells #[.int .i64 0, .int .i64 0, .int .i64 0, .int .i64 0, .int .i64 0, .int .i64 0] 27) |>.below hb
    have V2 := (V6.newAt (w.alloc (.cells #[.int .i64 a, .int .i64 b, .int .i64 c, .int .i64 d, .int .i64 l, .int .i64 s] 27)) (w.heap.size + 1) (by simp) 0 0 0 0 0 0 27).below hb
    clear hb N
    obtain ⟨⟨c1, c2, c3, c4, c5, c6⟩, g1, g2, g3, g4, g5, g6⟩ := V1.s
    go_wp2_with fail
    refine (ref_any _ _ _).mono ?_
    rintro e w6 ⟨rfl, hb⟩
    have H6 := Lib.hid (bstep H5.out hb)
    have V3 := V1.below hb
    have V4 := V2.below hb
    clear hb V1 V2 c1 c2 c3 c4 c5 c6 g1 g2 g3 g4 g5 g6 H5
    obtain ⟨⟨c1, c2, c3, c4, c5, c6⟩, g1, g2, g3, g4, g5, g6⟩ := V3.s
    obtain ⟨⟨d1, d2, d3, d4, d5, d6⟩, f1, f2, f3, f4, f5, f6⟩ := V4.s
    clear V3 V4
    generalize ofM d r = out at *
    go_wp2
    refine bodyPost_ret (v := .tuple #[(⟨a, b, c, d, l, 0⟩ : Ch).val, .int .i32 out]) (by simp [results, Try.results16, go_sem, d1, d2, d3, d4, d5, d6]) rfl ⟨by rw [hm.out], ?_⟩
    exact (((((((H6.out.setCell (by simp) _).setCell (by simp) _).setCell (by simp) _).setCell (by simp) _).setCell (by simp) _).setCell (by simp) _).setCell (by simp) _)

end Go.Proofs.Ytdphccjeikiciaa.Lab
