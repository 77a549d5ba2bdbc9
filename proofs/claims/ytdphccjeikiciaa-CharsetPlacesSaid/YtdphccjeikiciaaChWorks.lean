/- The helper 'works' of the statements is true. -/
import Derived.Test.YtdphccjeikiciaaChLies
namespace Go.Proofs.Ytdphccjeikiciaa.Lab
open Go.RowKit

set_option maxRecDepth 100000 in
set_option maxHeartbeats 4000000 in
theorem works_any (w : World) : Calls Try.prog 20 #[] w fun e w' => e = .returned (.bool true) ∧ Below w.heap.size w w' := by
  go_enter Try.func20, Try.ntmps20
  have H0 := Lib.hid (Lies.start w)
  go_wp2_with fail
  refine (des_lit 0 0 0 0 0 0 1 48 0 1 0 0 0 0 true (by rfl) _).mono ?_
  rintro e w1 ⟨rfl, hb⟩
  have H1 := Lib.hid (H0.out.on_new hb)
  clear hb H0
  go_wp2_with fail
  refine (lock_lit 0 1 0 0 0 0 14 0 1 0 0 1 0 true (by rfl) _).mono ?_
  rintro e w2 ⟨rfl, hb⟩
  have H2 := Lib.hid (H1.out.on_new hb)
  clear hb H1
  obtain ⟨⟨ca1, ca2, ca3, ca4, ca5, ca6⟩, fa1, fa2, fa3, fa4, fa5, fa6⟩ := H2.out.get 0 rfl
  go_wp2_with fail
  refine (map_lit 0 1 0 0 1 0 113 0 1 0 0 1 0 9472 (by rfl) (by unfold Ch.Ok; decide) _).mono ?_
  rintro e w3 ⟨rfl, hb⟩
  have H3 := Lib.hid ((H2.out.put 0 rfl ⟨0, 1, 0, 0, 1, 0⟩).on hb)
  simp only [List.set_cons_zero] at H3
  clear ca1 ca2 ca3 ca4 ca5 ca6 fa1 fa2 fa3 fa4 fa5 fa6
  clear hb H2
  obtain ⟨⟨ca1, ca2, ca3, ca4, ca5, ca6⟩, fa1, fa2, fa3, fa4, fa5, fa6⟩ := H3.out.get 0 rfl
  go_wp2_with fail
  refine (map_lit 0 1 0 0 1 0 81 0 1 0 0 1 0 81 (by rfl) (by unfold Ch.Ok; decide) _).mono ?_
  rintro e w4 ⟨rfl, hb⟩
  have H4 := Lib.hid ((H3.out.put 0 rfl ⟨0, 1, 0, 0, 1, 0⟩).on hb)
  simp only [List.set_cons_zero] at H4
  clear ca1 ca2 ca3 ca4 ca5 ca6 fa1 fa2 fa3 fa4 fa5 fa6
  clear hb H3
  obtain ⟨⟨cz1, cz2, cz3, cz4, cz5, cz6⟩, fz1, fz2, fz3, fz4, fz5, fz6⟩ := H4.out.get 1 rfl
  have lz := (H4.out.at 1 rfl).2.1
  go_wp2_with fail
  refine (des_lit 0 0 0 0 0 0 2 65 0 0 2 0 0 0 true (by rfl) _).mono ?_
  rintro e w5 ⟨rfl, hb⟩
  have H5 := Lib.hid (H4.out.on_new hb)
  clear cz1 cz2 cz3 cz4 cz5 cz6 fz1 fz2 fz3 fz4 fz5 fz6 lz
  clear hb H4
  go_wp2_with fail
  refine (one_lit 0 0 2 0 0 0 2 0 0 2 0 0 2 true (by rfl) _).mono ?_
  rintro e w6 ⟨rfl, hb⟩
  have H6 := Lib.hid (H5.out.on_new hb)
  clear hb H5
  obtain ⟨⟨cb1, cb2, cb3, cb4, cb5, cb6⟩, fb1, fb2, fb3, fb4, fb5, fb6⟩ := H6.out.get 0 rfl
  go_wp2_with fail
  refine (map_lit 0 0 2 0 0 2 35 0 0 2 0 0 0 163 (by rfl) (by unfold Ch.Ok; decide) _).mono ?_
  rintro e w7 ⟨rfl, hb⟩
  have H7 := Lib.hid ((H6.out.put 0 rfl ⟨0, 0, 2, 0, 0, 2⟩).on hb)
  simp only [List.set_cons_zero] at H7
  clear cb1 cb2 cb3 cb4 cb5 cb6 fb1 fb2 fb3 fb4 fb5 fb6
  clear hb H6
  obtain ⟨⟨cb1, cb2, cb3, cb4, cb5, cb6⟩, fb1, fb2, fb3, fb4, fb5, fb6⟩ := H7.out.get 0 rfl
  go_wp2_with fail
  refine (map_lit 0 0 2 0 0 0 35 0 0 2 0 0 0 35 (by rfl) (by unfold Ch.Ok; decide) _).mono ?_
  rintro e w8 ⟨rfl, hb⟩
  have H8 := Lib.hid ((H7.out.put 0 rfl ⟨0, 0, 2, 0, 0, 0⟩).on hb)
  simp only [List.set_cons_zero] at H8
  clear cb1 cb2 cb3 cb4 cb5 cb6 fb1 fb2 fb3 fb4 fb5 fb6
  clear hb H7
  obtain ⟨⟨cz1, cz2, cz3, cz4, cz5, cz6⟩, fz1, fz2, fz3, fz4, fz5, fz6⟩ := H8.out.get 3 rfl
  have lz := (H8.out.at 3 rfl).2.1
  go_wp2_with fail
  refine (des_lit 0 0 0 0 0 0 0 67 0 0 0 0 0 0 false (by rfl) _).mono ?_
  rintro e w9 ⟨rfl, hb⟩
  have H9 := Lib.hid (H8.out.on_new hb)
  clear cz1 cz2 cz3 cz4 cz5 cz6 fz1 fz2 fz3 fz4 fz5 fz6 lz
  clear hb H8
  obtain ⟨⟨cz1, cz2, cz3, cz4, cz5, cz6⟩, fz1, fz2, fz3, fz4, fz5, fz6⟩ := H9.out.get 4 rfl
  have lz := (H9.out.at 4 rfl).2.1
  go_wp2_with fail
  refine (lock_lit 0 0 0 0 0 0 13 0 0 0 0 0 0 false (by rfl) _).mono ?_
  rintro e w10 ⟨rfl, hb⟩
  have H10 := Lib.hid (H9.out.on_new hb)
  clear cz1 cz2 cz3 cz4 cz5 cz6 fz1 fz2 fz3 fz4 fz5 fz6 lz
  clear hb H9
  obtain ⟨⟨cz1, cz2, cz3, cz4, cz5, cz6⟩, fz1, fz2, fz3, fz4, fz5, fz6⟩ := H10.out.get 5 rfl
  have lz := (H10.out.at 5 rfl).2.1
  go_wp2_with fail
  refine (one_lit 0 0 0 0 0 0 1 0 0 0 0 0 0 false (by rfl) _).mono ?_
  rintro e w11 ⟨rfl, hb⟩
  have H11 := Lib.hid (H10.out.on_new hb)
  clear cz1 cz2 cz3 cz4 cz5 cz6 fz1 fz2 fz3 fz4 fz5 fz6 lz
  clear hb H10
  obtain ⟨⟨cz1, cz2, cz3, cz4, cz5, cz6⟩, fz1, fz2, fz3, fz4, fz5, fz6⟩ := H11.out.get 6 rfl
  have lz := (H11.out.at 6 rfl).2.1
  go_wp2_with fail
  refine (now_lit 0 0 0 0 0 0 0 (by rfl) _).mono ?_
  rintro e w12 ⟨rfl, hb⟩
  have H12 := Lib.hid (H11.out.on_new hb)
  clear cz1 cz2 cz3 cz4 cz5 cz6 fz1 fz2 fz3 fz4 fz5 fz6 lz
  clear hb H11
  go_wp2
  go_ret
  exact ⟨rfl, H12.out.1⟩
end Go.Proofs.Ytdphccjeikiciaa.Lab
