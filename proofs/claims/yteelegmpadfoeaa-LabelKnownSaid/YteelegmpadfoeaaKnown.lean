/- The Go law LabelKnown (the chapter's examples; levels that are none; ends) returns true, and writes nothing that was there. No condition: it has no argument. -/
import Derived.Test.YteelegmpadfoeaaWorks
namespace Go.Proofs.Yteelegmpadfoeaa.Lab
open Go.RowKit

set_option maxRecDepth 100000 in
set_option maxHeartbeats 1000000 in
theorem labelKnown_walk (w : World) : Calls Try.prog 7 #[] w fun e w' => e = .returned (.bool true) ∧ Below w.heap.size w w' := by
  have q1 : wrS ⟨#[113]⟩ ⟨#[]⟩ 9 (-1) 5 = ⟨#[113]⟩ := rfl
  have q2 : wrE ⟨#[]⟩ 9 (-1) 5 = 4 := rfl
  have q3 : seenS ⟨#[113]⟩ 9 2 = ⟨#[113]⟩ := rfl
  have q4 : readE 9 2 = 0 := rfl
  have q5 : readE 9 0 = 6 := rfl
  have q6 : seenS ⟨#[113]⟩ 9 0 = ⟨#[]⟩ := rfl
  have A1 := Lib.hid (At.new w ⟨#[113]⟩ 9 (-1) 31)
  go_enter Try.func7, Try.ntmps7
  go_wp2_with fail
  refine (write_any _ _ _ _ _ _).mono ?_
  rintro e v1 ⟨rfl, o1, o2, rfl⟩
  go_wp2_with fail
  refine (read_any _ _ _ _ _).mono ?_
  rintro e v1 ⟨rfl, o3, rfl⟩
  go_wp2_with fail
  refine (read_any _ _ _ _ _).mono ?_
  rintro e v1 ⟨rfl, o4, rfl⟩
  go_wp2_with fail
  refine (works_any _).mono ?_
  rintro e v2 ⟨rfl, hb⟩
  have B1 := Lib.hid ((((((A1.out.past o1).past o2).past (.cells #[.string ⟨#[113]⟩, .int .u8 9, .int .i64 (-1)] 31)).past o3).past o4).below hb)
  have B2 := Lib.hid ((((At.newAt (((w.alloc (.cells #[.string ⟨#[113]⟩, .int .u8 9, .int .i64 (-1)] 31)).alloc o1).alloc o2) (w.heap.size + 1 + 1 + 1) (by simp) ⟨#[113]⟩ 9 (-1) 31).past o3).past o4).below hb)
  have E1 := Lib.hid (bstep (v := (((((w.alloc (.cells #[.string ⟨#[113]⟩, .int .u8 9, .int .i64 (-1)] 31)).alloc o1).alloc o2).alloc (.cells #[.string ⟨#[113]⟩, .int .u8 9, .int .i64 (-1)] 31)).alloc o3).alloc o4) ((((((below1 w _).alloc (by simp) _).alloc (by simp; omega) _).alloc (by simp; omega) _).alloc (by simp; omega) _).alloc (by simp; omega) _) hb)
  clear A1 hb
  go_wp2_with fail
  refine (right_any none 0 0 [] _ (lv0 _)).mono ?_
  rintro e w' ⟨rfl, rfl⟩
  go_wp2_with fail
  refine (right_any _ 2 2 [0, 1] _ (lv2 _ _ _ _ _ (by simp))).mono ?_
  rintro e w' ⟨rfl, rfl⟩
  go_wp2_with fail
  refine (right_any _ 2 2 [0, 2] _ (lv2 _ _ _ _ _ (by simp))).mono ?_
  rintro e w' ⟨rfl, rfl⟩
  go_wp2_with fail
  refine (meet_any _ 1 1 [3] _ (lv1 _ _ _ _ (by simp))).mono ?_
  rintro e w' ⟨rfl, rfl⟩
  go_wp2_with fail
  refine (meet_any _ 2 2 [3, 0] _ (lv2 _ _ _ _ _ (by simp))).mono ?_
  rintro e w' ⟨rfl, rfl⟩
  go_wp2_with fail
  refine (flows_any _ _ _).mono ?_
  rintro e w' ⟨rfl, rfl⟩
  go_wp2_with fail
  refine (flows_any _ _ _).mono ?_
  rintro e w' ⟨rfl, rfl⟩
  go_wp2_with fail
  refine (flows_any _ _ _).mono ?_
  rintro e w' ⟨rfl, rfl⟩
  have C1 := Lib.hid ((((B1.out.past (.cells #[.int .u8 0, .int .u8 1] 25)).past (.cells #[.int .u8 0, .int .u8 2] 25)).past (.cells #[.int .u8 3] 25)).past (.cells #[.int .u8 3, .int .u8 0] 25))
  have E2 := Lib.hid ((((E1.out.alloc E1.out.size (.cells #[.int .u8 0, .int .u8 1] 25)).alloc (by have := E1.out.size; simp; omega) (.cells #[.int .u8 0, .int .u8 2] 25)).alloc (by have := E1.out.size; simp; omega) (.cells #[.int .u8 3] 25)).alloc (by have := E1.out.size; simp; omega) (.cells #[.int .u8 3, .int .u8 0] 25))
  obtain ⟨z2, c21, c22, c23⟩ := (((B2.out.past (.cells #[.int .u8 0, .int .u8 1] 25)).past (.cells #[.int .u8 0, .int .u8 2] 25)).past (.cells #[.int .u8 3] 25)).past (.cells #[.int .u8 3, .int .u8 0] 25)
  obtain ⟨z1, c11, c12, c13⟩ := C1.out
  clear B1 B2 E1
  go_wp2_with fail
  refine (seen_any _ _ _ _ _).mono ?_
  rintro e v3 ⟨rfl, hb3⟩
  clear z1 z2 c21 c22 c23 c11 c12 c13
  have D1 := Lib.hid (C1.out.below hb3.below)
  have E3 := Lib.hid (bstep E2.out hb3.below)
  clear C1 E2 hb3
  obtain ⟨z1, c11, c12, c13⟩ := D1.out
  go_wp2_with fail
  refine (declassify_any _ _ _ _).mono ?_
  rintro e v4 ⟨rfl, hb4⟩
  have E4 := Lib.hid (bstep E3.out hb4.below)
  clear D1 E3 hb4 z1 c11 c12 c13
  go_wp2_with fail
  refine (join_any _ 1 1 [0] _ (lv1 _ _ _ _ (by simp))).mono ?_
  rintro e w' ⟨rfl, rfl⟩
  go_wp2_with fail
  refine (join_any _ 1 1 [255] _ (lv1 _ _ _ _ (by simp))).mono ?_
  rintro e w' ⟨rfl, rfl⟩
  go_wp2
  go_ret
  exact ⟨rfl, (E4.out.alloc E4.out.size _).alloc (by have := E4.out.size; simp; omega) _⟩
end Go.Proofs.Yteelegmpadfoeaa.Lab
