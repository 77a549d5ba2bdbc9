/- The chapter's examples of package label hold at the code: the helper 'works' of the statements answers true, and writes nothing that was there. -/
import Derived.Test.YteelegmpadfoeaaLab
namespace Go.Proofs.Yteelegmpadfoeaa.Lab
open Go.RowKit

theorem bcell {W w1 : World} (hb : Below W.heap.size W w1) : (∀ b o, b < W.heap.size → w1.cell? ⟨b, o, none⟩ = W.cell? ⟨b, o, none⟩) ∧ (∀ b o, b < W.heap.size → w1.frozen? ⟨b, o, none⟩ = W.frozen? ⟨b, o, none⟩) :=
  ⟨fun b o h => hb.cell (p := ⟨b, o, none⟩) h, fun b o h => hb.frozen (p := ⟨b, o, none⟩) h⟩

theorem w1 (w : World) : Calls Try.prog 20 #[txt ⟨#[]⟩ 0 3, .string ⟨#[97, 98, 99]⟩, .int .u8 0] w fun e w' => e = .returned (.tuple #[txt ⟨#[97, 98, 99]⟩ 0 3, .int .i64 0]) ∧ Below w.heap.size w w' := (write_any _ _ _ _ _ _).mono fun _ _ ⟨he, h⟩ => ⟨he, h.below⟩
theorem w2 (w : World) : Calls Try.prog 20 #[txt ⟨#[]⟩ 0 3, .string ⟨#[97, 98, 99]⟩, .int .u8 1] w fun e w' => e = .returned (.tuple #[txt ⟨#[]⟩ 0 3, .int .i64 6]) ∧ Below w.heap.size w w' := (write_any _ _ _ _ _ _).mono fun _ _ ⟨he, h⟩ => ⟨he, h.below⟩
theorem w3 (w : World) : Calls Try.prog 20 #[txt ⟨#[]⟩ 0 3, .string ⟨#[97, 98, 99, 100]⟩, .int .u8 0] w fun e w' => e = .returned (.tuple #[txt ⟨#[]⟩ 0 3, .int .i64 4]) ∧ Below w.heap.size w w' := (write_any _ _ _ _ _ _).mono fun _ _ ⟨he, h⟩ => ⟨he, h.below⟩
theorem w4 (w : World) : Calls Try.prog 20 #[txt ⟨#[]⟩ 1 3, .string ⟨#[120]⟩, .int .u8 0] w fun e w' => e = .returned (.tuple #[txt ⟨#[120]⟩ 1 3, .int .i64 0]) ∧ Below w.heap.size w w' := (write_any _ _ _ _ _ _).mono fun _ _ ⟨he, h⟩ => ⟨he, h.below⟩
theorem r1 (w : World) : Calls Try.prog 18 #[txt ⟨#[120]⟩ 1 3, .int .u8 0] w fun e w' => e = .returned (.tuple #[.string ⟨#[]⟩, .int .i64 6]) ∧ Below w.heap.size w w' := (read_any _ _ _ _ _).mono fun _ _ ⟨he, h⟩ => ⟨he, h.below⟩
theorem r2 (w : World) : Calls Try.prog 18 #[txt ⟨#[120]⟩ 1 3, .int .u8 1] w fun e w' => e = .returned (.tuple #[.string ⟨#[120]⟩, .int .i64 0]) ∧ Below w.heap.size w w' := (read_any _ _ _ _ _).mono fun _ _ ⟨he, h⟩ => ⟨he, h.below⟩


/-- A text of three cells lies at the head of a block. -/
def At (w : World) (b : Nat) (s : ByteArray) (l m : Int) : Prop :=
  b < w.heap.size ∧ w.cell? ⟨b, 0, none⟩ = some (.string s) ∧ w.cell? ⟨b, 1, none⟩ = some (.int .u8 l) ∧ w.cell? ⟨b, 2, none⟩ = some (.int .i64 m)

theorem At.past {w : World} {b : Nat} {s : ByteArray} {l m : Int} (h : At w b s l m) (o : Obj) : At (w.alloc o) b s l m := by
  obtain ⟨h0, h1, h2, h3⟩ := h
  refine ⟨by simp; omega, ?_, ?_, ?_⟩
  · rw [World.cell?_alloc_past _ _ _ h0]; exact h1
  · rw [World.cell?_alloc_past _ _ _ h0]; exact h2
  · rw [World.cell?_alloc_past _ _ _ h0]; exact h3

theorem At.below {w w' : World} {b : Nat} {s : ByteArray} {l m : Int} (h : At w b s l m) (hb : Below w.heap.size w w') : At w' b s l m := by
  obtain ⟨h0, h1, h2, h3⟩ := h
  exact ⟨Nat.lt_of_lt_of_le h0 hb.size, (hb.cell (p := ⟨b, 0, none⟩) h0).trans h1, (hb.cell (p := ⟨b, 1, none⟩) h0).trans h2, (hb.cell (p := ⟨b, 2, none⟩) h0).trans h3⟩

theorem At.newAt (w : World) (n : Nat) (hn : n = w.heap.size) (s : ByteArray) (l m : Int) (T : TypeId) : At (w.alloc (.cells #[.string s, .int .u8 l, .int .i64 m] T)) n s l m := by
  subst hn
  refine ⟨by simp, ?_, ?_, ?_⟩ <;> (rw [World.cell?_alloc_at _ _ _ _ rfl]; rfl)

theorem At.new (w : World) (s : ByteArray) (l m : Int) (T : TypeId) : At (w.alloc (.cells #[.string s, .int .u8 l, .int .i64 m] T)) w.heap.size s l m := by
  refine ⟨by simp, ?_, ?_, ?_⟩ <;> (rw [World.cell?_alloc_at _ _ _ _ rfl]; rfl)

theorem bstep {w v v' : World} (h : Below w.heap.size w v) (hb : Below v.heap.size v v') : Below w.heap.size w v' := h.trans (hb.mono h.size)
theorem bstepA {w v v' : World} (h : Below w.heap.size w v) (o : Obj) (hb : Below (v.alloc o).heap.size (v.alloc o) v') : Below w.heap.size w v' := bstep (h.alloc h.size o) hb

abbrev obj (s : ByteArray) (l m : Int) : Obj := .cells #[.string s, .int .u8 l, .int .i64 m] 31
abbrev abc : ByteArray := ⟨#[97, 98, 99]⟩

theorem lv0 (w : World) : Lv w none 0 [] := ⟨rfl, by omega, fun h => by omega⟩
theorem lv1 (w : World) (n : Nat) (x : Int) (T : TypeId) (hn : n = w.heap.size) : Lv (w.alloc (.cells #[.int .u8 x] T)) (some ⟨n, 0, none⟩) 1 [x] :=
  ⟨rfl, by omega, fun _ => ⟨n, 0, rfl, fun i hi => by
    obtain rfl : i = 0 := by omega
    rw [World.cell?_alloc_at _ _ _ _ hn]; rfl⟩⟩
theorem lv2 (w : World) (n : Nat) (x y : Int) (T : TypeId) (hn : n = w.heap.size) : Lv (w.alloc (.cells #[.int .u8 x, .int .u8 y] T)) (some ⟨n, 0, none⟩) 2 [x, y] :=
  ⟨rfl, by omega, fun _ => ⟨n, 0, rfl, fun i hi => by
    rw [World.cell?_alloc_at _ _ _ _ hn]
    match i, hi with
    | 0, _ => rfl
    | 1, _ => rfl⟩⟩

set_option maxRecDepth 100000 in
set_option maxHeartbeats 1000000 in
theorem works_any (w : World) : Calls Try.prog 16 #[] w fun e w' => e = .returned (.bool true) ∧ Below w.heap.size w w' := by
  have A1 := Lib.hid ((At.new w ⟨#[]⟩ 0 3 31).past (obj ⟨#[]⟩ 1 3))
  have A2 := Lib.hid (At.newAt (w.alloc (obj ⟨#[]⟩ 0 3)) (w.heap.size + 1) (by simp) ⟨#[]⟩ 1 3 31)
  go_enter Try.func16, Try.ntmps16
  go_wp2_with fail
  refine (w1 _).mono ?_
  rintro e v1 ⟨rfl, hb1⟩
  have B1 := Lib.hid (A1.out.below hb1)
  have B2 := Lib.hid (A2.out.below hb1)
  have E1 := Lib.hid (bstep (below2 w _ _) hb1)
  clear A1 A2 hb1
  obtain ⟨z1, c11, c12, c13⟩ := B1.out
  go_wp2_with fail
  refine (w2 _).mono ?_
  rintro e v2 ⟨rfl, hb2⟩
  clear z1 c11 c12 c13
  have C1 := Lib.hid ((B1.out.past (obj abc 0 3)).below hb2)
  have C2 := Lib.hid ((B2.out.past (obj abc 0 3)).below hb2)
  have C3 := Lib.hid ((At.new v1 abc 0 3 31).below hb2)
  have E2 := Lib.hid (bstepA E1.out _ hb2)
  clear B1 B2 E1 hb2
  obtain ⟨z1, c11, c12, c13⟩ := C1.out
  go_wp2_with fail
  refine (w3 _).mono ?_
  rintro e v3 ⟨rfl, hb3⟩
  clear z1 c11 c12 c13
  have D1 := Lib.hid ((C1.out.past (obj ⟨#[]⟩ 0 3)).below hb3)
  have D2 := Lib.hid ((C2.out.past (obj ⟨#[]⟩ 0 3)).below hb3)
  have D3 := Lib.hid ((C3.out.past (obj ⟨#[]⟩ 0 3)).below hb3)
  have D5 := Lib.hid ((At.new v2 ⟨#[]⟩ 0 3 31).below hb3)
  have E3 := Lib.hid (bstepA E2.out _ hb3)
  clear C1 C2 C3 E2 hb3
  obtain ⟨z1, c11, c12, c13⟩ := D2.out
  go_wp2_with fail
  refine (w4 _).mono ?_
  rintro e v4 ⟨rfl, hb4⟩
  clear z1 c11 c12 c13
  have F1 := Lib.hid ((D1.out.past (obj ⟨#[]⟩ 0 3)).below hb4)
  have F3 := Lib.hid ((D3.out.past (obj ⟨#[]⟩ 0 3)).below hb4)
  have F5 := Lib.hid ((D5.out.past (obj ⟨#[]⟩ 0 3)).below hb4)
  have E4 := Lib.hid (bstepA E3.out _ hb4)
  clear D1 D2 D3 D5 E3 hb4
  go_wp2_with fail
  refine (r1 _).mono ?_
  rintro e v5 ⟨rfl, hb5⟩
  have G1 := Lib.hid ((F1.out.past (obj ⟨#[120]⟩ 1 3)).below hb5)
  have G3 := Lib.hid ((F3.out.past (obj ⟨#[120]⟩ 1 3)).below hb5)
  have G5 := Lib.hid ((F5.out.past (obj ⟨#[120]⟩ 1 3)).below hb5)
  have G9 := Lib.hid ((At.new v4 ⟨#[120]⟩ 1 3 31).below hb5)
  have E5 := Lib.hid (bstepA E4.out _ hb5)
  clear F1 F3 F5 E4 hb5
  obtain ⟨z1, c11, c12, c13⟩ := G9.out
  go_wp2_with fail
  refine (r2 _).mono ?_
  rintro e v6 ⟨rfl, hb6⟩
  clear z1 c11 c12 c13
  have H1 := Lib.hid (G1.out.below hb6)
  have H3 := Lib.hid (G3.out.below hb6)
  have H5 := Lib.hid (G5.out.below hb6)
  have E6 := Lib.hid (bstep E5.out hb6)
  clear G1 G3 G5 G9 E5 hb6
  go_wp2_with fail
  refine (join_any none 0 0 [] _ (lv0 _)).mono ?_
  rintro e w' ⟨rfl, rfl⟩
  go_wp2_with fail
  refine (join_any _ 2 2 [0, 1] _ (lv2 _ _ _ _ _ rfl)).mono ?_
  rintro e w' ⟨rfl, rfl⟩
  go_wp2_with fail
  refine (join_any _ 1 1 [7] _ (lv1 _ _ _ _ (by simp))).mono ?_
  rintro e w' ⟨rfl, rfl⟩
  go_wp2_with fail
  refine (meet_any none 0 0 [] _ (lv0 _)).mono ?_
  rintro e w' ⟨rfl, rfl⟩
  go_wp2_with fail
  refine (meet_any _ 2 2 [0, 1] _ (lv2 _ _ _ _ _ (by simp))).mono ?_
  rintro e w' ⟨rfl, rfl⟩
  go_wp2_with fail
  refine (flows_any _ _ _).mono ?_
  rintro e w' ⟨rfl, rfl⟩
  go_wp2_with fail
  refine (flows_any _ _ _).mono ?_
  rintro e w' ⟨rfl, rfl⟩
  go_wp2_with fail
  refine (flows_any _ _ _).mono ?_
  rintro e w' ⟨rfl, rfl⟩
  obtain ⟨z1, c11, c12, c13⟩ := ((H1.out.past (.cells #[.int .u8 0, .int .u8 1] 25)).past (.cells #[.int .u8 7] 25)).past (.cells #[.int .u8 0, .int .u8 1] 25)
  obtain ⟨z3, c31, c32, c33⟩ := ((H3.out.past (.cells #[.int .u8 0, .int .u8 1] 25)).past (.cells #[.int .u8 7] 25)).past (.cells #[.int .u8 0, .int .u8 1] 25)
  obtain ⟨z5, c51, c52, c53⟩ := ((H5.out.past (.cells #[.int .u8 0, .int .u8 1] 25)).past (.cells #[.int .u8 7] 25)).past (.cells #[.int .u8 0, .int .u8 1] 25)
  go_wp2
  go_ret
  exact ⟨rfl, ((E6.out.alloc E6.out.size _).alloc (by have := E6.out.size; simp; omega) _).alloc (by have := E6.out.size; simp; omega) _⟩
end Go.Proofs.Yteelegmpadfoeaa.Lab
