/- The law's helper as: values, as the program's. -/
import Derived.Test.YthcncghhjlaicaaFlat
import Derived.Deep.DeepCutAuto
import Derived.Deep.LoopGhost
namespace Go.Proofs.Ythcncghhjlaicaa.Lab
open Go.RowKit

set_option maxHeartbeats 2000000 in
theorem as_any (a : Option Addr) (n c : Nat) (ps : List V) (hn : n ≤ 100) (w : World) (h : PalS w a n ps) :
    Calls Try.prog 11 #[.slice a n c] w fun e w' => (∃ v, e = .returned v ∧ w'.ownsRow w.heap.size 35 3 v n (flat ps)) ∧ Below w.heap.size w w' := by
  obtain ⟨ib, hi, hz0, hz1, hz2⟩ := info_parts infoV
  have hlen := h.len.1
  have H := Lib.hid h
  have HLEN := Lib.hid hlen
  clear h hlen
  go_enter Try.func11, Try.ntmps11
  go_wp2_with fail
  go_loopw [3, 4] (fun p i wr => ∃ k : Nat, k ≤ n ∧ i = .int .i64 k ∧ Hid (Below w.heap.size w wr) ∧ Hid (wr.ownsRow w.heap.size 35 3 p k (flat (ps.take k)))) (fun _ i _ => n - (intOf i).toNat)
  case atStart => exact ⟨0, Nat.zero_le _, rfl, Lib.hid (Below.refl _ _), Lib.hid (World.ownsRow_nil _ _ _ _)⟩
  case round =>
    obtain ⟨k, hk, rfl, hB, hO⟩ := hrel
    by_cases hl1 : k < n
    · have HPL := PalS.below H.out hB.out
      obtain ⟨b, off, rfl, hp⟩ : ∃ b off, a = some ⟨b, off, none⟩ ∧ PalAt wr b off n ps := by
        rcases HPL with ⟨h0, _⟩ | h
        · omega
        · exact h
      obtain ⟨hu, c0, c1, c2⟩ := hp.2.2.2 k hl1
      have HS := Lib.hid (flat_snoc ps k (by rw [HLEN.out]; exact hl1))
      have hb1 := hp.1
      clear hp
      change U16 (at3 ps k) at hu
      change wr.cell? _ = some (.int .u16 (at3 ps k).1) at c0
      change wr.cell? _ = some (.int .u16 (at3 ps k).2.1) at c1
      change wr.cell? _ = some (.int .u16 (at3 ps k).2.2) at c2
      generalize at3 ps k = u at *
      have hsz := Lib.hid hB.out.size
      go_wp2_with (at_builtin; refine wpList_append_own _ rfl (.tmp 11) (.tmp 16) 42 rfl w.heap.size 35 ib (.agg #[.int .u16 0, .int .u16 0, .int .u16 0]) 3 6 Try.underlying42 hi hz0 hz1 hz2 rfl (by decide) _ _ _ rfl (hO.out.alloc _) ⟨wr.heap.size, 0, none⟩ 1 1 (cells3 u) rfl rfl ?c1 ?c2 ?c3 ?c4 ?c5 ?_)
      case c1 => exact new3 _ _ _ _ rfl
      case c2 => exact flat_one u
      case c3 => unfold maxLen; omega
      case c4 => omega
      case c5 => have := hsz.out; simp; omega
      intro p' w' own' grow' _
      go_wp2
      go_roundw
      case rel => exact ⟨k + 1, by omega, by go_num, Lib.hid ((hB.out.alloc hB.out.size _).grown grow' (by have := hsz.out; simp; omega) (fun j hj => (hO.out.lt j hj).1)), Lib.hid (by rw [HS.out]; exact own')⟩
      case measure => simp [intOf]; omega
    · have hkn : k = n := by omega
      subst hkn
      have e0 : ps.take k = ps := List.take_of_length_le (by rw [HLEN.out]; omega)
      have hO2 := hO.out
      rw [e0] at hO2
      have HO := Lib.hid hO2
      clear hO hO2 H
      go_wp2
      go_ret
      exact ⟨⟨_, rfl, HO.out⟩, hB.out⟩
end Go.Proofs.Ythcncghhjlaicaa.Lab
