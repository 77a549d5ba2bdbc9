/- few: a token of few parts. -/
import Derived.Test.YtclaopidjfekmaaDoorToMat
namespace Go.Proofs.YtclaopidjfekmaaDoor.Lab
open Go Go.RowKit

set_option maxHeartbeats 4000000 in
set_option maxRecDepth 100000 in
theorem few_any (k r p f : Int) (va : Option Addr) (vn vc : Nat) (i d : ByteArray) (w : World) (hvn : vn ≤ vc) :
    Calls Tryd.prog 8 #[tok7 k r p (.slice va vn vc) i f d] w fun e w' => ∃ i' d', e = .returned (tok7 k r p (.slice va (min vn 35) vc) i' f d') ∧ i'.size ≤ 5 ∧ d'.size ≤ 60 ∧ Below w.heap.size w w' := by
  obtain ⟨m, hm, hml, hm2⟩ : ∃ m : Nat, min (vn : Int) 35 = m ∧ m ≤ vn ∧ m = min vn 35 := ⟨min vn 35, by omega, by omega, rfl⟩
  obtain ⟨mi, hmi, hmil, hmi2⟩ : ∃ m : Nat, min (i.size : Int) 5 = m ∧ m ≤ i.size ∧ m ≤ 5 := ⟨min i.size 5, by omega, by omega, by omega⟩
  obtain ⟨md, hmd, hmdl, hmd2⟩ : ∃ m : Nat, min (d.size : Int) 60 = m ∧ m ≤ d.size ∧ m ≤ 60 := ⟨min d.size 60, by omega, by omega, by omega⟩
  have hi' : (i.extract 0 mi).size ≤ 5 := by simp; omega
  have hd' : (d.extract 0 md).size ≤ 60 := by simp; omega
  obtain ⟨w1, hw1⟩ : ∃ w1, w1 = (w.alloc (.cells #[.int .i64 k, .int .i32 r, .int .u8 p, .slice va vn vc, .string i, .int .u8 f, .string d] 27)).alloc (.cells #[.int .i64 0, .int .i32 0, .int .u8 0, .slice none 0 0, .string ⟨#[]⟩, .int .u8 0, .string ⟨#[]⟩] 27) := ⟨_, rfl⟩
  have B1 := Lib.hid (show Below w.heap.size w w1 by rw [hw1]; exact ((Below.refl _ _).alloc (Nat.le_refl _) _).alloc (by simp) _)
  have T1 := Lib.hid (show T7 w1 w.heap.size (.int .i64 k) (.int .i32 r) (.int .u8 p) (.slice va vn vc) (.string i) (.int .u8 f) (.string d) by rw [hw1]; exact (T7.newAt w w.heap.size rfl _ _ _ _ _ _ _ _).past _)
  have Z1 := Lib.hid (show T7 w1 (w.heap.size + 1) (.int .i64 0) (.int .i32 0) (.int .u8 0) (.slice none 0 0) (.string ⟨#[]⟩) (.int .u8 0) (.string ⟨#[]⟩) by rw [hw1]; exact T7.newAt _ (w.heap.size + 1) (by simp) _ _ _ _ _ _ _ _)
  have HM2 := Lib.hid hm2
  have HI := Lib.hid hi'
  have HD := Lib.hid hd'
  clear hm2 hi' hd'
  go_enter Tryd.func8, Tryd.ntmps8
  go_upto_region 1 with (fail)
  rw [← hw1]
  clear hw1
  obtain ⟨_, ⟨c0, c1, c2, c3, c4, c5, c6⟩, cf⟩ := T1.out
  have x4 := cf 4
  go_upto_region 2 with (fail)
  have T2 := Lib.hid (T1.out.set4 (.string (i.extract 0 mi)))
  have Z2 := Lib.hid (Z1.out.set_no (b' := w.heap.size) 4 (.string (i.extract 0 mi)) (by omega))
  have B2 := Lib.hid (B1.out.setCell (p := ⟨w.heap.size, 4, none⟩) (Nat.le_refl _) (.string (i.extract 0 mi)))
  try simp only [Int.toNat_natCast]
  generalize w1.setCell ⟨w.heap.size, 4, none⟩ (.string (i.extract 0 mi)) = w2 at T2 Z2 B2 ⊢
  clear c0 c1 c2 c3 c4 c5 c6 cf x4
  obtain ⟨_, ⟨c0, c1, c2, c3, c4, c5, c6⟩, cf⟩ := T2.out
  have x6 := cf 6
  go_upto_region 3 with (fail)
  have T3 := Lib.hid (T2.out.set6 (.string (d.extract 0 md)))
  have Z3 := Lib.hid (Z2.out.set_no (b' := w.heap.size) 6 (.string (d.extract 0 md)) (by omega))
  have B3 := Lib.hid (B2.out.setCell (p := ⟨w.heap.size, 6, none⟩) (Nat.le_refl _) (.string (d.extract 0 md)))
  try simp only [Int.toNat_natCast]
  generalize w2.setCell ⟨w.heap.size, 6, none⟩ (.string (d.extract 0 md)) = w3 at T3 Z3 B3 ⊢
  clear c0 c1 c2 c3 c4 c5 c6 cf x6
  obtain ⟨_, ⟨c0, c1, c2, c3, c4, c5, c6⟩, cf⟩ := T3.out
  have x3 := cf 3
  go_upto_region 4 with (fail)
  have T4 := Lib.hid (T3.out.set3 (.slice va m vc))
  have Z4 := Lib.hid (Z3.out.set_no (b' := w.heap.size) 3 (.slice va m vc) (by omega))
  have B4 := Lib.hid (B3.out.setCell (p := ⟨w.heap.size, 3, none⟩) (Nat.le_refl _) (.slice va m vc))
  try simp only [Int.toNat_natCast]
  generalize w3.setCell ⟨w.heap.size, 3, none⟩ (.slice va m vc) = w4 at T4 Z4 B4 ⊢
  clear c0 c1 c2 c3 c4 c5 c6 cf x3
  obtain ⟨_, ⟨c0, c1, c2, c3, c4, c5, c6⟩, _⟩ := T4.out
  obtain ⟨_, ⟨z0, z1, z2, z3, z4, z5, z6⟩, zf⟩ := Z4.out
  have x0 := zf 0
  have x1 := zf 1
  have x2 := zf 2
  have x3 := zf 3
  have x4 := zf 4
  have x5 := zf 5
  have x6 := zf 6
  have HG := Lib.hid (Z4.out.put (.int .i64 k) (.int .i32 r) (.int .u8 p) (.slice va m vc) (.string (i.extract 0 mi)) (.int .u8 f) (.string (d.extract 0 md)))
  have HB := Lib.hid (put7_below B4.out (b := w.heap.size + 1) (by omega) (.int .i64 k) (.int .i32 r) (.int .u8 p) (.slice va m vc) (.string (i.extract 0 mi)) (.int .u8 f) (.string (d.extract 0 md)))
  clear zf
  go_wp2
  change bodyPost _ _ _ _ _ (put7 w4 (w.heap.size + 1) (.int .i64 k) (.int .i32 r) (.int .u8 p) (.slice va m vc) (.string (i.extract 0 mi)) (.int .u8 f) (.string (d.extract 0 md)))
  generalize put7 w4 (w.heap.size + 1) (.int .i64 k) (.int .i32 r) (.int .u8 p) (.slice va m vc) (.string (i.extract 0 mi)) (.int .u8 f) (.string (d.extract 0 md)) = wz at HG HB ⊢
  obtain ⟨_, ⟨r0, r1, r2, r3, r4, r5, r6⟩, _⟩ := HG.out
  exact bodyPost_ret (v := tok7 k r p (.slice va m vc) (i.extract 0 mi) f (d.extract 0 md)) (by simp [results, Tryd.results8, go_sem, r0, r1, r2, r3, r4, r5, r6]) rfl ⟨_, _, by rw [HM2.out], HI.out, HD.out, HB.out⟩
end Go.Proofs.YtclaopidjfekmaaDoor.Lab
