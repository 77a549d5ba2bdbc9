/- Parse: the parameters of bytes. -/
import Derived.Test.YtlmhnebgkginkaaDoorPaAll
namespace Go.Proofs.YtlmhnebgkginkaaDoor.Lab
open Go.RowKit

theorem take_snoc (s : ByteArray) (k : Nat) (h : k < s.size) : s.data.toList.take (k + 1) = s.data.toList.take k ++ [s[k]] := by
  rw [List.take_succ_eq_append_getElem (by simpa using h)]; rfl
theorem runO_snoc (l : List UInt8) (c : UInt8) : runO (l ++ [c]) = stepO (runO l) c := by simp [runO]

def ParseOut (w : World) (R : Rws) (e : Ending) (w' : World) : Prop := ∃ v, e = .returned (.tuple #[v, .bool true]) ∧ RowsAt w' w.heap.size v R ∧ Below w.heap.size w w'
def AllGood (s : ByteArray) : Prop := ∀ k (h : k < s.size), good s[k]

set_option maxHeartbeats 2000000 in
theorem parse_ok (s : ByteArray) (hs : s.size ≤ maxLen) (hg : AllGood s) (w : World) :
    Calls Tryd.prog 24 #[.string s] w (ParseOut w (parsed s.data.toList)) := by
  unfold maxLen at hs
  have HG := Lib.hid hg
  clear hg
  go_enter Tryd.func24, Tryd.ntmps24
  go_wp2_with fail
  refine (new_any _).mono ?_
  rintro e w0 ⟨rfl, L0, b0⟩
  have HL0 := Lib.hid L0
  have HB0 := Lib.hid b0
  clear L0 b0
  go_wp2
  go_loopw [9] (fun i wr => ∃ k : Nat, k ≤ s.size ∧ i = .int .i64 k ∧ Hid (LAt wr w.heap.size (runO (s.data.toList.take k))) ∧ Hid (Below w.heap.size w wr)) (fun i _ => s.size - (intOf i).toNat)
  case atStart => exact ⟨0, Nat.zero_le _, rfl, HL0, HB0⟩
  case round =>
    obtain ⟨k, hk, rfl, HL, HB⟩ := hrel
    by_cases hlt : k < s.size
    · have C := Lib.hid (byte_at wr w.heap.size _ s[k] (HG.out k hlt) HL.out)
      have HS := Lib.hid (take_snoc s k hlt)
      go_wp2_with fail
      refine C.out.mono ?_
      rintro e w1 ⟨rfl, L1, b1⟩
      have HL1 := Lib.hid (show LAt w1 w.heap.size (runO (s.data.toList.take (k + 1))) by rw [HS.out, runO_snoc]; exact L1)
      have HB1 := Lib.hid (HB.out.trans (b1.below (Nat.le_refl _) HB.out.size))
      clear L1 b1 C HS HL HB
      go_wp2
      go_roundw
      case rel => exact ⟨k + 1, by omega, by go_num, HL1, HB1⟩
      case measure => simp [intOf]; omega
    · have C := Lib.hid (all_any wr w.heap.size _ HL.out)
      have HP := Lib.hid (show runO (s.data.toList.take k) = runO s.data.toList by rw [List.take_of_length_le (by rw [← Lib.size_eq]; omega)])
      go_wp2_with fail
      refine C.out.mono ?_
      rintro e w1 ⟨v, rfl, R1, b1⟩
      have HR := Lib.hid (R1.lower HB.out.size)
      have HB1 := Lib.hid (HB.out.trans (b1.mono HB.out.size))
      clear R1 b1 C
      go_wp2
      go_ret2
      refine ⟨v, rfl, ?_, HB1.out⟩
      unfold parsed
      rw [← HP.out]
      exact HR.out

set_option maxHeartbeats 2000000 in
theorem parse_no (s : ByteArray) (hs : s.size ≤ maxLen) (n : Nat) (hn : n < s.size) (hg : ∀ k (h : k < s.size), k < n → good s[k]) (hb : ¬ good s[n]) (w : World) :
    Calls Tryd.prog 24 #[.string s] w fun e w' => e = .returned (.tuple #[.slice none 0 0, .bool false]) ∧ Below w.heap.size w w' := by
  unfold maxLen at hs
  have HG := Lib.hid hg
  have HBad := Lib.hid hb
  clear hg hb
  go_enter Tryd.func24, Tryd.ntmps24
  go_wp2_with fail
  refine (new_any _).mono ?_
  rintro e w0 ⟨rfl, L0, b0⟩
  have HL0 := Lib.hid L0
  have HB0 := Lib.hid b0
  clear L0 b0
  go_wp2
  go_loopw [9] (fun i wr => ∃ k : Nat, k ≤ n ∧ i = .int .i64 k ∧ Hid (LAt wr w.heap.size (runO (s.data.toList.take k))) ∧ Hid (Below w.heap.size w wr)) (fun i _ => s.size - (intOf i).toNat)
  case atStart => exact ⟨0, Nat.zero_le _, rfl, HL0, HB0⟩
  case round =>
    obtain ⟨k, hk, rfl, HL, HB⟩ := hrel
    have hlt : k < s.size := by omega
    by_cases hkn : k < n
    · have C := Lib.hid (byte_at wr w.heap.size _ s[k] (HG.out k hlt hkn) HL.out)
      have HS := Lib.hid (take_snoc s k hlt)
      go_wp2_with fail
      refine C.out.mono ?_
      rintro e w1 ⟨rfl, L1, b1⟩
      have HL1 := Lib.hid (show LAt w1 w.heap.size (runO (s.data.toList.take (k + 1))) by rw [HS.out, runO_snoc]; exact L1)
      have HB1 := Lib.hid (HB.out.trans (b1.below (Nat.le_refl _) HB.out.size))
      clear L1 b1 C HS HL HB
      go_wp2
      go_roundw
      case rel => exact ⟨k + 1, by omega, by go_num, HL1, HB1⟩
      case measure => simp [intOf]; omega
    · obtain rfl : k = n := by omega
      have C := Lib.hid (byte_no wr w.heap.size s[k] HBad.out)
      go_wp2_with fail
      refine C.out.mono ?_
      rintro e w1 ⟨rfl, b1⟩
      have HB1 := Lib.hid (HB.out.trans (b1.mono HB.out.size))
      clear b1 C HL HB
      go_wp2
      go_ret2
      exact ⟨rfl, HB1.out⟩
end Go.Proofs.YtlmhnebgkginkaaDoor.Lab
