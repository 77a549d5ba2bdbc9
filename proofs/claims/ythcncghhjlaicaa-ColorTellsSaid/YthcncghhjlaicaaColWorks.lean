/- The chapter's examples of package color hold at the code: the helper 'works' of the statements answers true, and writes nothing that was there. -/
import Derived.Test.YthcncghhjlaicaaBad
namespace Go.Proofs.Ythcncghhjlaicaa.Lab
open Go.RowKit

theorem def1 (w : World) : Calls Try.prog 8 #[.int .i64 1] w fun e w' => e = .returned (.tuple #[val 52685 0 0, .bool true]) ∧ Below w.heap.size w w' :=
  (default_any 1 w).mono fun e w' ⟨he, hw⟩ => ⟨by rw [he, show defV 1 = (52685, 0, 0) from by decide, show defB 1 = true from by decide]; rfl, hw⟩
theorem def16 (w : World) : Calls Try.prog 8 #[.int .i64 16] w fun e w' => e = .returned (.tuple #[val 0 0 0, .bool true]) ∧ Below w.heap.size w w' :=
  (default_any 16 w).mono fun e w' ⟨he, hw⟩ => ⟨by rw [he, show defV 16 = (0, 0, 0) from by decide, show defB 16 = true from by decide]; rfl, hw⟩
theorem def231 (w : World) : Calls Try.prog 8 #[.int .i64 231] w fun e w' => e = .returned (.tuple #[val 65535 65535 65535, .bool true]) ∧ Below w.heap.size w w' :=
  (default_any 231 w).mono fun e w' ⟨he, hw⟩ => ⟨by rw [he, show defV 231 = (65535, 65535, 65535) from by decide, show defB 231 = true from by decide]; rfl, hw⟩
theorem def232 (w : World) : Calls Try.prog 8 #[.int .i64 232] w fun e w' => e = .returned (.tuple #[val 2056 2056 2056, .bool true]) ∧ Below w.heap.size w w' :=
  (default_any 232 w).mono fun e w' ⟨he, hw⟩ => ⟨by rw [he, show defV 232 = (2056, 2056, 2056) from by decide, show defB 232 = true from by decide]; rfl, hw⟩
theorem def256 (w : World) : Calls Try.prog 8 #[.int .i64 256] w fun e w' => e = .returned (.tuple #[val 0 0 0, .bool false]) ∧ Below w.heap.size w w' :=
  (default_any 256 w).mono fun e w' ⟨he, hw⟩ => ⟨by rw [he, show defV 256 = (0, 0, 0) from by decide, show defB 256 = false from by decide]; rfl, hw⟩
theorem read0 (w : World) : Calls Try.prog 24 #[.string ⟨#[114, 103, 98, 58, 102, 47, 56, 48, 47, 102, 102, 102, 48]⟩, val 65535 32896 65520] w fun e w' => e = .returned (.bool true) ∧ Below w.heap.size w w' :=
  (reads_any ⟨#[114, 103, 98, 58, 102, 47, 56, 48, 47, 102, 102, 102, 48]⟩ (by decide) (65535, 32896, 65520) w).mono fun e w' ⟨he, hw⟩ => ⟨by rw [he]; exact ret_bool (by decide +kernel), hw⟩
theorem read1 (w : World) : Calls Try.prog 24 #[.string ⟨#[35, 97, 98, 99]⟩, val 43690 48059 52428] w fun e w' => e = .returned (.bool true) ∧ Below w.heap.size w w' :=
  (reads_any ⟨#[35, 97, 98, 99]⟩ (by decide) (43690, 48059, 52428) w).mono fun e w' ⟨he, hw⟩ => ⟨by rw [he]; exact ret_bool (by decide +kernel), hw⟩
theorem read2 (w : World) : Calls Try.prog 24 #[.string ⟨#[35, 48, 48, 102, 102, 55, 70]⟩, val 0 65535 32639] w fun e w' => e = .returned (.bool true) ∧ Below w.heap.size w w' :=
  (reads_any ⟨#[35, 48, 48, 102, 102, 55, 70]⟩ (by decide) (0, 65535, 32639) w).mono fun e w' ⟨he, hw⟩ => ⟨by rw [he]; exact ret_bool (by decide +kernel), hw⟩
theorem form1 (w : World) : Calls Try.prog 7 #[val 1 2 65535] w fun e w' => e = .returned (.string ⟨#[114, 103, 98, 58, 48, 48, 48, 49, 47, 48, 48, 48, 50, 47, 102, 102, 102, 102]⟩) ∧ Below w.heap.size w w' :=
  (format_any 1 2 65535 (by decide) (by decide) (by decide) w).mono fun e w' ⟨he, hw⟩ => ⟨by rw [he]; rfl, hw⟩

theorem badNew (w : World) (n : Nat) (hn : n = w.heap.size) (l : List ByteArray) (T : TypeId) (k : Nat) (hk : k = l.length) (hm : k ≤ maxLen) (h : ∀ s ∈ l, s.size ≤ maxLen ∧ parseB s.data.toList = false) : BadAt (w.alloc (.cells (l.map Value.string).toArray T)) n 0 k := by
  refine ⟨by subst hn; simp, hm, fun i hi => ?_⟩
  obtain ⟨h1, h2⟩ := h l[i] (List.getElem_mem (by omega))
  refine ⟨l[i], ?_, h1, h2⟩
  rw [World.cell?_alloc_at _ _ _ _ hn, Nat.zero_add, List.getElem?_toArray, List.getElem?_map, List.getElem?_eq_getElem (by omega)]
  rfl

theorem badOf (w : World) (n : Nat) (hn : n = w.heap.size) (T : TypeId) : BadAt (w.alloc (.cells #[.string ⟨#[114, 103, 98, 58, 49, 47, 50]⟩, .string ⟨#[114, 101, 100]⟩, .string ⟨#[35, 97, 98, 99, 100]⟩] T)) n 0 3 :=
  badNew w n hn [⟨#[114, 103, 98, 58, 49, 47, 50]⟩, ⟨#[114, 101, 100]⟩, ⟨#[35, 97, 98, 99, 100]⟩] T 3 rfl (by decide) (by simp; exact ⟨⟨by decide, by decide +kernel⟩, ⟨by decide, by decide +kernel⟩, ⟨by decide, by decide +kernel⟩⟩)

theorem beyond {w w1 : World} (h : Below w.heap.size w w1) (o : Obj) : Below w.heap.size w (w1.alloc o) := h.alloc h.size o

set_option maxRecDepth 100000 in
set_option maxHeartbeats 4000000 in
theorem works_any (w : World) : Calls Try.prog 17 #[] w fun e w' => e = .returned (.bool true) ∧ Below w.heap.size w w' := by
  have hq := eqVal
  have q1 : eq3 52685 0 0 52685 0 0 = true := rfl
  have q2 : eq3 0 0 0 0 0 0 = true := rfl
  have q3 : eq3 65535 65535 65535 65535 65535 65535 = true := rfl
  have q4 : eq3 2056 2056 2056 2056 2056 2056 = true := rfl
  go_enter Try.func17, Try.ntmps17
  go_wp2_with fail
  refine (def1 _).mono ?_
  rintro e w1 ⟨rfl, hb1⟩
  have E := Lib.hid hb1
  clear hb1
  go_wp2_with fail
  refine (def16 _).mono ?_
  rintro e w2 ⟨rfl, hb2⟩
  have Y1 := Lib.hid ((V3.newAt w1 _ rfl 52685 0 0 35).below hb2)
  have E' := Lib.hid (bstep (beyond E.out _) hb2)
  clear E
  have E := E'
  clear E'
  clear hb2
  go_wp2_with fail
  refine (def231 _).mono ?_
  rintro e w3 ⟨rfl, hb3⟩
  have Y1' := Lib.hid ((Y1.out.past _).below hb3)
  clear Y1
  have Y1 := Y1'
  clear Y1'
  have Y2 := Lib.hid ((V3.newAt w2 _ rfl 0 0 0 35).below hb3)
  have E' := Lib.hid (bstep (beyond E.out _) hb3)
  clear E
  have E := E'
  clear E'
  clear hb3
  go_wp2_with fail
  refine (def232 _).mono ?_
  rintro e w4 ⟨rfl, hb4⟩
  have Y1' := Lib.hid ((Y1.out.past _).below hb4)
  clear Y1
  have Y1 := Y1'
  clear Y1'
  have Y2' := Lib.hid ((Y2.out.past _).below hb4)
  clear Y2
  have Y2 := Y2'
  clear Y2'
  have Y3 := Lib.hid ((V3.newAt w3 _ rfl 65535 65535 65535 35).below hb4)
  have E' := Lib.hid (bstep (beyond E.out _) hb4)
  clear E
  have E := E'
  clear E'
  clear hb4
  go_wp2_with fail
  refine (def256 _).mono ?_
  rintro e w5 ⟨rfl, hb5⟩
  have Y1' := Lib.hid ((Y1.out.past _).below hb5)
  clear Y1
  have Y1 := Y1'
  clear Y1'
  have Y2' := Lib.hid ((Y2.out.past _).below hb5)
  clear Y2
  have Y2 := Y2'
  clear Y2'
  have Y3' := Lib.hid ((Y3.out.past _).below hb5)
  clear Y3
  have Y3 := Y3'
  clear Y3'
  have Y4 := Lib.hid ((V3.newAt w4 _ rfl 2056 2056 2056 35).below hb5)
  have E' := Lib.hid (bstep (beyond E.out _) hb5)
  clear E
  have E := E'
  clear E'
  clear hb5
  go_wp2_with fail
  refine (read0 _).mono ?_
  rintro e w6 ⟨rfl, hb6⟩
  have Y1' := Lib.hid ((Y1.out.past _).below hb6)
  clear Y1
  have Y1 := Y1'
  clear Y1'
  have Y2' := Lib.hid ((Y2.out.past _).below hb6)
  clear Y2
  have Y2 := Y2'
  clear Y2'
  have Y3' := Lib.hid ((Y3.out.past _).below hb6)
  clear Y3
  have Y3 := Y3'
  clear Y3'
  have Y4' := Lib.hid ((Y4.out.past _).below hb6)
  clear Y4
  have Y4 := Y4'
  clear Y4'
  have Y5 := Lib.hid ((V3.newAt w5 _ rfl 0 0 0 35).below hb6)
  have E' := Lib.hid (bstep (beyond E.out _) hb6)
  clear E
  have E := E'
  clear E'
  clear hb6
  go_wp2_with fail
  refine (read1 _).mono ?_
  rintro e w7 ⟨rfl, hb7⟩
  have Y1' := Lib.hid (Y1.out.below hb7)
  clear Y1
  have Y1 := Y1'
  clear Y1'
  have Y2' := Lib.hid (Y2.out.below hb7)
  clear Y2
  have Y2 := Y2'
  clear Y2'
  have Y3' := Lib.hid (Y3.out.below hb7)
  clear Y3
  have Y3 := Y3'
  clear Y3'
  have Y4' := Lib.hid (Y4.out.below hb7)
  clear Y4
  have Y4 := Y4'
  clear Y4'
  have Y5' := Lib.hid (Y5.out.below hb7)
  clear Y5
  have Y5 := Y5'
  clear Y5'
  have E' := Lib.hid (bstep E.out hb7)
  clear E
  have E := E'
  clear E'
  clear hb7
  go_wp2_with fail
  refine (read2 _).mono ?_
  rintro e w8 ⟨rfl, hb8⟩
  have Y1' := Lib.hid (Y1.out.below hb8)
  clear Y1
  have Y1 := Y1'
  clear Y1'
  have Y2' := Lib.hid (Y2.out.below hb8)
  clear Y2
  have Y2 := Y2'
  clear Y2'
  have Y3' := Lib.hid (Y3.out.below hb8)
  clear Y3
  have Y3 := Y3'
  clear Y3'
  have Y4' := Lib.hid (Y4.out.below hb8)
  clear Y4
  have Y4 := Y4'
  clear Y4'
  have Y5' := Lib.hid (Y5.out.below hb8)
  clear Y5
  have Y5 := Y5'
  clear Y5'
  have E' := Lib.hid (bstep E.out hb8)
  clear E
  have E := E'
  clear E'
  clear hb8
  go_wp2_with fail
  refine (bad_any _ 0 3 3 _ (badOf _ _ rfl _)).mono ?_
  rintro e w9 ⟨rfl, hb9⟩
  have Y1' := Lib.hid ((Y1.out.past _).below hb9)
  clear Y1
  have Y1 := Y1'
  clear Y1'
  have Y2' := Lib.hid ((Y2.out.past _).below hb9)
  clear Y2
  have Y2 := Y2'
  clear Y2'
  have Y3' := Lib.hid ((Y3.out.past _).below hb9)
  clear Y3
  have Y3 := Y3'
  clear Y3'
  have Y4' := Lib.hid ((Y4.out.past _).below hb9)
  clear Y4
  have Y4 := Y4'
  clear Y4'
  have Y5' := Lib.hid ((Y5.out.past _).below hb9)
  clear Y5
  have Y5 := Y5'
  clear Y5'
  have E' := Lib.hid (bstep (beyond E.out _) hb9)
  clear E
  have E := E'
  clear E'
  clear hb9
  go_wp2_with fail
  refine (form1 _).mono ?_
  rintro e w10 ⟨rfl, hb10⟩
  have Y1' := Lib.hid (Y1.out.below hb10)
  clear Y1
  have Y1 := Y1'
  clear Y1'
  have Y2' := Lib.hid (Y2.out.below hb10)
  clear Y2
  have Y2 := Y2'
  clear Y2'
  have Y3' := Lib.hid (Y3.out.below hb10)
  clear Y3
  have Y3 := Y3'
  clear Y3'
  have Y4' := Lib.hid (Y4.out.below hb10)
  clear Y4
  have Y4 := Y4'
  clear Y4'
  have Y5' := Lib.hid (Y5.out.below hb10)
  clear Y5
  have Y5 := Y5'
  clear Y5'
  have E' := Lib.hid (bstep E.out hb10)
  clear E
  have E := E'
  clear E'
  clear hb10
  obtain ⟨z1, ⟨c10, c11, c12⟩, -⟩ := Y1.out
  obtain ⟨z2, ⟨c20, c21, c22⟩, -⟩ := Y2.out
  obtain ⟨z3, ⟨c30, c31, c32⟩, -⟩ := Y3.out
  obtain ⟨z4, ⟨c40, c41, c42⟩, -⟩ := Y4.out
  go_wp2
  go_ret
  exact ⟨rfl, E.out⟩
end Go.Proofs.Ythcncghhjlaicaa.Lab
