/- The Go law LabelTells returns true for every slice of levels, and writes nothing that was there. -/
import Derived.Test.YteelegmpadfoeaaOpen
import Derived.Deep.DeepCutAuto
import Derived.Deep.LoopGhost
import Derived.WalkSmall
namespace Go.Proofs.Yteelegmpadfoeaa.Lab
open Go.RowKit Go.ChangeShapes Go.WideShapes Go.ChangeAt

theorem Lv.below {w w' : World} {a : Option Addr} {len : Nat} {xs : List Int} (h : Lv w a len xs) (hb : Below w.heap.size w w') : Lv w' a len xs := by
  obtain ⟨h1, h2, h3⟩ := h
  refine ⟨h1, h2, fun h0 => ?_⟩
  obtain ⟨b, off, ha, hc⟩ := h3 h0
  exact ⟨b, off, ha, fun i hi => (hb.cell (p := ⟨b, off + i, none⟩) (block_lt (hc 0 h0))).trans (hc i hi)⟩

theorem Lv.drewN {w : World} {a : Option Addr} {len : Nat} {xs : List Int} (h : Lv w a len xs) (n : Nat) : Lv (w.drewN n) a len xs := by
  obtain ⟨h1, h2, h3⟩ := h
  refine ⟨h1, h2, fun h0 => ?_⟩
  obtain ⟨b, off, ha, hc⟩ := h3 h0
  exact ⟨b, off, ha, fun i hi => by rw [← hc i hi]; simp [go_sem]⟩

theorem Lv.take {w : World} {a : Option Addr} {len : Nat} {xs : List Int} (h : Lv w a len xs) (m : Nat) (hm : m ≤ len) : Lv w a m (xs.take m) := by
  obtain ⟨h1, h2, h3⟩ := h
  refine ⟨by simp; omega, by omega, fun h0 => ?_⟩
  obtain ⟨b, off, ha, hc⟩ := h3 (by omega)
  exact ⟨b, off, ha, fun i hi => by rw [List.getElem?_take_of_lt hi]; exact hc i (by omega)⟩

theorem flows_q (a b : Int) (w : World) : Calls Try.prog 14 #[.int .u8 a, .int .u8 b] w fun e w' => e = .returned (.bool (flowsB a b)) ∧ w' = w := (flows_any a b w).mono fun _ _ ⟨h, k⟩ => ⟨h, k.symm⟩
theorem rflows_q (a b : Int) (w : World) : Calls Try.prog 15 #[.int .u8 a, .int .u8 b] w fun e w' => e = .returned (.bool (flowsB a b)) ∧ w' = w := (rflows_any a b w).mono fun _ _ ⟨h, k⟩ => ⟨h, k.symm⟩

set_option maxRecDepth 100000 in
set_option maxHeartbeats 1000000 in
theorem tells_none (a : Option Addr) (cap : Nat) (w : World) (hl : Lv w a 0 []) :
    Calls Try.prog 3 #[.slice a 0 cap] w fun e w' => e = .returned (.bool true) ∧ Below w.heap.size w w' := by
  have HL := Lib.hid hl
  clear hl
  go_enter Try.func3, Try.ntmps3
  go_wp2_with (first | (go_at_call 8; refine (right_any _ _ _ _ _ HL.out).mono ?_; rintro e w' ⟨rfl, rfl⟩) | (go_at_call 9; refine (rright_any _ _ _ _ _ HL.out).mono ?_; rintro e w' ⟨rfl, rfl⟩) | (go_at_call 10; refine (join_any _ _ _ _ _ HL.out).mono ?_; rintro e w' ⟨rfl, rfl⟩) | (go_at_call 11; refine (rjoin_any _ _ _ _ _ HL.out).mono ?_; rintro e w' ⟨rfl, rfl⟩) | (go_at_call 12; refine (meet_any _ _ _ _ _ HL.out).mono ?_; rintro e w' ⟨rfl, rfl⟩) | (go_at_call 13; refine (rmeet_any _ _ _ _ _ HL.out).mono ?_; rintro e w' ⟨rfl, rfl⟩))
  refine wp_loop_rounds 1 ?_
  rw [rounds_succ]
  go_wp2_with ((go_at_call 16; refine (works_any _).mono ?_; rintro e w' ⟨rfl, hbw⟩))
  go_ret
  exact ⟨rfl, hbw⟩

set_option maxRecDepth 100000 in
set_option maxHeartbeats 1000000 in
theorem tells_row (b off len cap m : Nat) (xs : List Int) (w : World) (hcap : len ≤ cap) (hm : Hid (m = min len 40)) (h0 : 0 < m) (hl : Lv w (some ⟨b, off, none⟩) m xs) :
    Calls Try.prog 3 #[.slice (some ⟨b, off, none⟩) len cap] w fun e w' => e = .returned (.bool true) ∧ Below w.heap.size w w' := by
  have HL := Lib.hid hl
  clear hl
  have hm40 : m ≤ 40 := by have := hm.out; omega
  go_enter Try.func3, Try.ntmps3
  go_upto_region 1 with (fail)
  go_cut [0] (fun v wc => v = .slice (some ⟨b, off, none⟩) m cap ∧ wc = w)
  case first =>
    have hm' := hm.out
    by_cases h40 : len ≤ 40
    · obtain rfl : m = len := by omega
      clear hm'
      go_wp2_with fail
      go_meet
      case rel => exact ⟨rfl, rfl⟩
    · obtain rfl : m = 40 := by omega
      clear hm'
      go_wp2_with fail
      go_meet
      case rel => exact ⟨rfl, rfl⟩
  case rest =>
    obtain ⟨rfl, rfl⟩ := hcut
    go_wp2_with (first | (go_at_call 8; refine (right_any _ _ _ _ _ HL.out).mono ?_; rintro e w' ⟨rfl, rfl⟩) | (go_at_call 9; refine (rright_any _ _ _ _ _ HL.out).mono ?_; rintro e w' ⟨rfl, rfl⟩) | (go_at_call 10; refine (join_any _ _ _ _ _ HL.out).mono ?_; rintro e w' ⟨rfl, rfl⟩) | (go_at_call 11; refine (rjoin_any _ _ _ _ _ HL.out).mono ?_; rintro e w' ⟨rfl, rfl⟩) | (go_at_call 12; refine (meet_any _ _ _ _ _ HL.out).mono ?_; rintro e w' ⟨rfl, rfl⟩) | (go_at_call 13; refine (rmeet_any _ _ _ _ _ HL.out).mono ?_; rintro e w' ⟨rfl, rfl⟩))
    have HW : Hid (Below wc.heap.size wc wc) := Lib.hid (Below.refl _ _)
    go_loopg [3] m (fun g i wr => ∃ k : Nat, g + k = m ∧ i = .int .i64 k ∧ Below wc.heap.size wc wr)
    case atStart => exact ⟨0, by omega, rfl, HW.out⟩
    case round =>
      obtain ⟨k, hk, rfl, hbk⟩ := hrel
      have HB := Lib.hid hbk
      clear hbk
      obtain ⟨go1, rfl⟩ : ∃ x : Nat, x = gk := ⟨_, rfl⟩
      by_cases hkm : k < m
      · obtain ⟨wo, rfl⟩ : ∃ wo : World, wo = wr := ⟨_, rfl⟩
        go_wp2_with fail
        go_loopg [4] m (fun g j wr => ∃ k2 : Nat, g + k2 = m ∧ j = .int .i64 k2 ∧ Below wc.heap.size wc wr)
        case atStart => exact ⟨0, by omega, rfl, HB.out⟩
        case round =>
          obtain ⟨k2, hk2, rfl, hb2⟩ := hrel
          have hcs : ∀ i, i < m → wr.cell? ⟨b, off + i, none⟩ = some (.int .u8 (xs[i]?.getD 0)) := by
            obtain ⟨_, _, h3⟩ := HL.out.below hb2
            obtain ⟨b', off', hbo, hc⟩ := h3 h0
            cases hbo
            exact hc
          have HB2 := Lib.hid hb2
          clear hb2
          by_cases hk2m : k2 < m
          · have c1 := hcs k hkm
            have c2 := hcs k2 hk2m
            clear hcs
            have i1 : (0 : Int) ≤ (k : Int) := by omega
            have i2 : (k : Int) < (m : Int) := by omega
            have i3 : (0 : Int) ≤ (k2 : Int) := by omega
            have i4 : (k2 : Int) < (m : Int) := by omega
            go_wp2_with fail
            go_quiet ((first | (go_at_call 14; exact Calls.quiet_of_same (flows_q _ _ _)) | (go_at_call 15; exact Calls.quiet_of_same (rflows_q _ _ _))))
            go_wp2_with fail
            go_roundg (gk - 1)
            case measure => omega
            case rel => exact ⟨k2 + 1, by omega, by go_num, below_drewN HB2.out _⟩
          · have hkm' : k2 = m := by omega
            subst hkm'
            clear hcs
            go_wp2_with fail
            go_roundg (go1 - 1)
            case measure => omega
            case rel => exact ⟨k + 1, by omega, by go_num, HB2.out⟩
      · have hkm' : k = m := by omega
        subst hkm'
        go_wp2_with (go_at_call 16; refine (works_any _).mono ?_; rintro e w' ⟨rfl, hbw⟩)
        go_ret
        exact ⟨rfl, bstep HB.out hbw⟩

theorem labelTells_walk {H : Type} (enc : TypeId × Value → H) (base : Nat) (W : World) (v : Value) (d : DataW H) (p : List MemPlace) (ok : Value.okWide Try.prog W .any base 22 v) (k : DataW.Trod enc Try.prog W 0 (fun _ => true) true 22 v d p) :
    Calls Try.prog 3 #[v] W fun e w' => e = .returned (.bool true) ∧ Below W.heap.size W w' := by
  obtain ⟨a, len, cap, xs, rfl, h1, h2, h3, h4, _, h6⟩ := open_u8s enc base W Try.underlying22 Try.underlying25 (by kernel_rfl) ok k
  by_cases h0 : len = 0
  · subst h0
    exact tells_none a cap W ⟨rfl, by omega, fun h => by omega⟩
  · obtain ⟨b, off, rfl, hb, hc⟩ := h6 (by omega)
    refine tells_row b off len cap (min len 40) (xs.take (min len 40)) W h1 (Lib.hid rfl) (by omega) ⟨by simp; omega, by omega, fun _ => ⟨b, off, rfl, fun i hi => ?_⟩⟩
    rw [List.getElem?_take_of_lt hi]
    exact hc i (by omega)

end Go.Proofs.Yteelegmpadfoeaa.Lab
