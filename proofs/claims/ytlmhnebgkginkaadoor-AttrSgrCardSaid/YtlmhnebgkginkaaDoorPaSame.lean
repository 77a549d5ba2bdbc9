/- The reference's Row and Same, where both are alike. -/
import Derived.Test.YtlmhnebgkginkaaDoorPaParse
import Derived.Deep.Draws
namespace Go.Proofs.YtlmhnebgkginkaaDoor.Lab
open Go.RowKit

def TrueQ (w : World) (e : Ending) (w' : World) : Prop := e = .returned (.bool true) ∧ ∃ m, w' = w.drewN m

set_option maxHeartbeats 2000000 in
theorem row_true (g1 g2 n c1 c2 : Nat) (r : List Int) (w : World) (_ : n = r.length) (hm : n ≤ maxLen) (h1 : ∀ j, j < n → w.cell? ⟨g1, j, none⟩ = some (.int .i64 (r.getD j 0))) (h2 : ∀ j, j < n → w.cell? ⟨g2, j, none⟩ = some (.int .i64 (r.getD j 0))) :
    Calls Tryd.prog 34 #[.slice (some ⟨g1, 0, none⟩) n c1, .slice (some ⟨g2, 0, none⟩) n c2] w (TrueQ w) := by
  unfold maxLen at hm
  have H1 := Lib.hid h1
  have H2 := Lib.hid h2
  clear h1 h2
  go_enter Tryd.func34, Tryd.ntmps34
  go_wp2
  go_loopw [5] (fun i wr => ∃ k m : Nat, k ≤ n ∧ i = .int .i64 k ∧ Hid (wr = w.drewN m)) (fun i _ => n - (intOf i).toNat)
  case atStart => exact ⟨0, 0, Nat.zero_le _, rfl, Lib.hid rfl⟩
  case round =>
    obtain ⟨k, m, hk, rfl, HW⟩ := hrel
    by_cases hlt : k < n
    · have a1 := (show wr.cell? ⟨g1, k, none⟩ = some (.int .i64 (r.getD k 0)) by rw [HW.out]; exact H1.out k hlt)
      have a2 := (show wr.cell? ⟨g2, k, none⟩ = some (.int .i64 (r.getD k 0)) by rw [HW.out]; exact H2.out k hlt)
      go_wp2
      go_quiet (fail)
      have HW2 := Lib.hid (show wr.drewN nq = w.drewN (m + nq) by rw [HW.out, World.drewN_drewN])
      clear a1 a2 HW
      go_wp2
      go_roundw
      case rel => exact ⟨k + 1, m + nq, by omega, by go_num, HW2⟩
      case measure => simp [intOf]; omega
    · go_wp2
      go_ret
      exact ⟨rfl, m, HW.out⟩

theorem row_at {w : World} {lo lo' : Nat} {u u' : Value} {r : List Int} (h : IntsAt w lo u r) (h' : IntsAt w lo' u' r) : Calls Tryd.prog 34 #[u, u'] w (TrueQ w) := by
  obtain ⟨g, c, cur, rfl, _, _, hc, _, k1, _⟩ := h.open
  obtain ⟨g', c', cur', rfl, _, _, _, _, k2, _⟩ := h'.open
  refine row_true g g' r.length c c' r w rfl ?_ k1 k2
  rcases h.1.2 with ⟨h, _⟩ | ⟨_, cap, _, e, _, _, h1, h2, _⟩
  · simp at h
  · simp at e
    omega

set_option maxHeartbeats 2000000 in
theorem same_true (g1 g2 n c1 c2 lo lo' : Nat) (R : Rws) (w : World) (_ : n = R.length) (hm : n ≤ maxLen) (h1 : ∀ i, i < n → ∃ u, w.cell? ⟨g1, i, none⟩ = some u ∧ IntsAt w lo u (R.getD i [])) (h2 : ∀ i, i < n → ∃ u, w.cell? ⟨g2, i, none⟩ = some u ∧ IntsAt w lo' u (R.getD i [])) :
    Calls Tryd.prog 14 #[.slice (some ⟨g1, 0, none⟩) n c1, .slice (some ⟨g2, 0, none⟩) n c2] w (TrueQ w) := by
  unfold maxLen at hm
  have H1 := Lib.hid h1
  have H2 := Lib.hid h2
  clear h1 h2
  go_enter Tryd.func14, Tryd.ntmps14
  go_wp2
  go_loopw [5] (fun i wr => ∃ k m : Nat, k ≤ n ∧ i = .int .i64 k ∧ Hid (wr = w.drewN m)) (fun i _ => n - (intOf i).toNat)
  case atStart => exact ⟨0, 0, Nat.zero_le _, rfl, Lib.hid rfl⟩
  case round =>
    obtain ⟨k, m, hk, rfl, HW⟩ := hrel
    by_cases hlt : k < n
    · have hb : Below w.heap.size w wr := by rw [HW.out]; exact ⟨rfl, rfl, rfl, Nat.le_refl _, fun _ _ => rfl⟩
      obtain ⟨u1, d1, I1⟩ := H1.out k hlt
      obtain ⟨u2, d2, I2⟩ := H2.out k hlt
      have a1 := (show wr.cell? ⟨g1, k, none⟩ = some u1 by rw [HW.out]; exact d1)
      have a2 := (show wr.cell? ⟨g2, k, none⟩ = some u2 by rw [HW.out]; exact d2)
      have C := Lib.hid (fun q => row_at ((I1.below hb).below (w' := wr.drewN q) ⟨rfl, rfl, rfl, Nat.le_refl _, fun _ _ => rfl⟩) ((I2.below hb).below (w' := wr.drewN q) ⟨rfl, rfl, rfl, Nat.le_refl _, fun _ _ => rfl⟩))
      clear d1 d2 I1 I2 hb
      go_wp2
      go_quiet ((go_at_call 34; exact Calls.quiet_of (C.out _)))
      have HW2 := Lib.hid (show wr.drewN nq = w.drewN (m + nq) by rw [HW.out, World.drewN_drewN])
      clear a1 a2 HW C
      go_wp2
      go_roundw
      case rel => exact ⟨k + 1, m + nq, by omega, by go_num, HW2⟩
      case measure => simp [intOf]; omega
    · go_wp2
      go_ret
      exact ⟨rfl, m, HW.out⟩

set_option maxHeartbeats 2000000 in
theorem same_zero (a b : Option Addr) (c d : Nat) (w : World) : Calls Tryd.prog 14 #[.slice a 0 c, .slice b 0 d] w (TrueQ w) := by
  go_enter Tryd.func14, Tryd.ntmps14
  go_wp2
  refine wp_loop_rounds 1 ?_
  rw [rounds_succ]
  go_wp2
  go_ret
  exact ⟨rfl, 0, rfl⟩

theorem same_at {w : World} {lo lo' : Nat} {v v' : Value} {R : Rws} (h : RowsAt w lo v R) (h' : RowsAt w lo' v' R) : Calls Tryd.prog 14 #[v, v'] w (TrueQ w) := by
  obtain ⟨us, h0, _⟩ := id h
  rcases h.open with ⟨rfl, e⟩ | ⟨g, c, rfl, _, _, _, _, k1⟩
  · subst e
    rcases h'.open with ⟨rfl, _⟩ | ⟨g', c', rfl, _⟩
    · exact same_zero _ _ _ _ w
    · exact same_zero _ _ _ _ w
  · rcases h'.open with ⟨rfl, e⟩ | ⟨g', c', rfl, _, _, _, _, k2⟩
    · subst e
      exact same_zero _ _ _ _ w
    · refine same_true g g' R.length c c' lo lo' R w rfl ?_ k1 k2
      rcases h0.2 with ⟨h, _⟩ | ⟨_, cap, _, e, _, _, h1, h2, _⟩
      · simp at h
      · simp at e
        omega
end Go.Proofs.YtlmhnebgkginkaaDoor.Lab
