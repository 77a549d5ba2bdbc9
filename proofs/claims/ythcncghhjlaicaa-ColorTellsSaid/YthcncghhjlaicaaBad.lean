/- The law's helper bad: texts of which none is a spec. -/
import Derived.Test.YthcncghhjlaicaaWorks2
namespace Go.Proofs.Ythcncghhjlaicaa.Lab
open Go.RowKit

theorem parse_zero {l : List UInt8} (h : parseB l = false) : parseV l = (0, 0, 0) := by
  unfold parseB at h
  cases h1 : rgbB l <;> cases h2 : hashB 1 l <;> cases h3 : hashB 2 l <;> rw [h1, h2, h3] at h <;> simp at h
  unfold parseV hashV
  rw [h1, h2, h3]
  rfl

/-- Texts lie in a row, each short enough, and none is a spec. -/
def BadAt (w : World) (b off n : Nat) : Prop := b < w.heap.size ∧ n ≤ maxLen ∧ ∀ i, i < n → ∃ s : ByteArray, w.cell? ⟨b, off + i, none⟩ = some (.string s) ∧ s.size ≤ maxLen ∧ parseB s.data.toList = false

theorem BadAt.below {w w' : World} {b off n : Nat} (h : BadAt w b off n) (hb : Below w.heap.size w w') : BadAt w' b off n := by
  obtain ⟨h1, h2, h3⟩ := h
  refine ⟨Nat.lt_of_lt_of_le h1 hb.size, h2, fun i hi => ?_⟩
  obtain ⟨s, hs, r⟩ := h3 i hi
  exact ⟨s, (hb.cell (p := ⟨b, off + i, none⟩) h1).trans hs, r⟩

theorem form_no {s : ByteArray} (hs : s.size ≤ maxLen) (hp : parseB s.data.toList = false) (w : World) : Calls Try.prog 18 #[.string s] w fun e w' => e = .returned (.tuple #[val 0 0 0, .bool false]) ∧ Below w.heap.size w w' :=
  (parse_any s hs w).mono fun e w' ⟨he, hw⟩ => ⟨by rw [he, hp, parse_zero hp]; rfl, hw⟩

set_option maxHeartbeats 1000000 in
theorem bad_any (b off n c : Nat) (w : World) (h : BadAt w b off n) :
    Calls Try.prog 25 #[.slice (some ⟨b, off, none⟩) n c] w fun e w' => e = .returned (.bool true) ∧ Below w.heap.size w w' := by
  have hq := eqVal
  have hm := h.2.1
  unfold maxLen at hm
  have H := Lib.hid h
  clear h
  go_enter Try.func25, Try.ntmps25
  go_wp2
  go_loopw [3] (fun i wr => ∃ k : Nat, k ≤ n ∧ i = .int .i64 k ∧ Hid (Below w.heap.size w wr)) (fun i _ => n - (intOf i).toNat)
  case atStart => exact ⟨0, Nat.zero_le _, rfl, Lib.hid (Below.refl _ _)⟩
  case round =>
    obtain ⟨k, hk, rfl, hB⟩ := hrel
    by_cases hlt : k < n
    · obtain ⟨s, hcell, hsz, hpn⟩ := (H.out.below hB.out).2.2 k hlt
      have HP := Lib.hid hpn
      clear hpn
      go_wp2_with fail
      refine (form_no hsz HP.out _).mono ?_
      rintro e w5 ⟨rfl, hb5⟩
      go_wp2
      trace_state
      go_roundw
      case rel => exact ⟨k + 1, by omega, by go_num, Lib.hid ((bstep hB.out hb5).alloc (Nat.le_trans hB.out.size hb5.size) _)⟩
      case measure => simp [intOf]; omega
    · go_wp2
      go_ret
      exact ⟨rfl, hB.out⟩
end Go.Proofs.Ythcncghhjlaicaa.Lab
