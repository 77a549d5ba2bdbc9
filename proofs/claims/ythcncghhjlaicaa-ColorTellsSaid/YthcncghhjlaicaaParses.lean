/- The law's helper parses: is a text read as the document says? -/
import Derived.Test.YthcncghhjlaicaaRParse
import Derived.Test.YthcncghhjlaicaaEq
namespace Go.Proofs.Ythcncghhjlaicaa.Lab
open Go.RowKit

set_option maxHeartbeats 2000000 in
theorem parses_any (s : ByteArray) (hs : s.size ≤ 4096) (w : World) :
    Calls Try.prog 6 #[.string s] w fun e w' => e = .returned (.bool true) ∧ Below w.heap.size w w' := by
  have hq := eqVal
  have hm : s.size ≤ maxLen := by unfold maxLen; omega
  obtain ⟨v, hv⟩ : ∃ v, parseV s.data.toList = v := ⟨_, rfl⟩
  obtain ⟨b, hb⟩ : ∃ b, parseB s.data.toList = b := ⟨_, rfl⟩
  have HV := Lib.hid hv
  have HB := Lib.hid hb
  have q1 : eq3 v.1 v.2.1 v.2.2 v.1 v.2.1 v.2.2 = true := by simp [eq3]
  clear hv hb
  go_enter Try.func6, Try.ntmps6
  go_wp2_with fail
  refine (parse_any s hm _).mono ?_
  rintro e w1 ⟨rfl, hb1⟩
  rw [HV.out, HB.out]
  go_wp2_with fail
  refine (rparse_any s hs _).mono ?_
  rintro e w2 ⟨rfl, hb2⟩
  rw [HV.out, HB.out]
  obtain ⟨z0, ⟨s2, s3, s4⟩, s5⟩ := V3.below (V3.newAt w1 _ rfl v.1 v.2.1 v.2.2 35) hb2
  clear s5
  go_wp2
  go_ret
  exact ⟨ret_bool (by cases b <;> rfl), (bstep (hb1.alloc hb1.size _) hb2).alloc (bstep (hb1.alloc hb1.size _) hb2).size _⟩
end Go.Proofs.Ythcncghhjlaicaa.Lab
