/- What a grid that is none answers: Up, Same. -/
import Derived.Test.YtdeahnphcfcfpaaGgGood
import Derived.Test.YtdeahnphcfcfpaaGkUpV
namespace Go.Proofs.Ytdeahnphcfcfpaa.Lab
open Go Go.RowKit

theorem region_nil (w : World) : Calls Try.prog 57 #[.pointer none, .int .i64 0, .int .i64 0] w fun e w' => e = .returned (.slice none 0 0) ∧ w = w' := by
  go_enter Try.func57, Try.ntmps57
  go_wp2_with fail
  refine (kept_none w).mono ?_
  rintro e w' ⟨rfl, rfl⟩
  go_wp2
  go_ret
  exact ⟨rfl, rfl⟩
theorem up_nil (w : World) (lo p rb c m : Nat) (G : List Cls) (h : Gg w lo p rb c G) (g : Good G m) (hlo : lo ≤ w.heap.size) :
    Calls Try.prog 28 #[.pointer none, .int .i64 0, .int .i64 0, .int .i64 1, celV Cel.z] w fun e w' => ∃ a cc, e = .returned (.slice a 0 cc) ∧ Gg w' lo p rb c G ∧ Buts (· = rb) w w' := by
  obtain ⟨H, h1, h2⟩ := h
  have hl : H.length = G.length := by rw [← h2, List.length_map]
  have hR : ∀ y ∈ H, y.R.length = m := fun y hy => (g.row y.R (by rw [← h2]; exact List.mem_map_of_mem hy)).2.1
  have n1 := g.n1
  have m1 := g.m1
  refine (gupv_any (.pointer none) w lo p rb c 0 0 m none H 0 0 1 Cel.z h1 hlo (fun w' _ => region_nil w') (fun h => absurd h (by decide)) (fun _ => rfl) (by omega) (by omega) hR g.m0 (by omega)).mono ?_
  rintro e w' ⟨v, F, rfl, hv, hF, _, _, hg, bt⟩
  obtain rfl : F = [] := List.length_eq_zero_iff.1 (by rw [hF]; omega)
  obtain ⟨a, cc, rfl⟩ := hv.shape
  refine ⟨a, cc, by simp, ⟨H, ?_, h2⟩, bt⟩
  unfold upH at hg
  simpa using hg
theorem eqf_nil (w : World) (fv : Value) : Calls Try.prog 72 #[.slice none 0 0, .slice none 0 0, fv] w fun e w' => e = .returned (.bool true) ∧ w = w' := by
  go_enter Try.func72, Try.ntmps72
  go_wp2
  refine wp_loop_rounds (1) ?_
  rw [rounds_succ]
  go_wp2
  go_ret
  exact ⟨rfl, rfl⟩
theorem eqf_len (w : World) (fv : Value) (a : Option Addr) (n c : Nat) (hn : 0 < n) : Calls Try.prog 72 #[.slice none 0 0, .slice a n c, fv] w fun e w' => e = .returned (.bool false) ∧ w = w' := by
  have h1 : ((0 : Int) != (n : Int)) = true := by simp; omega
  go_enter Try.func72, Try.ntmps72
  go_wp2
  go_ret
  exact ⟨rfl, rfl⟩
theorem same_nil (w : World) : Calls Try.prog 39 #[.pointer none, .pointer none] w fun e w' => e = .returned (.bool true) ∧ w = w' := by
  go_enter Try.func39, Try.ntmps39
  go_wp2_with fail
  refine (kept_none w).mono ?_
  rintro e w' ⟨rfl, rfl⟩
  go_wp2_with fail
  refine (kept_none w).mono ?_
  rintro e w' ⟨rfl, rfl⟩
  go_wp2_with fail
  refine (eqf_nil w _).mono ?_
  rintro e w' ⟨rfl, rfl⟩
  go_wp2
  go_ret
  exact ⟨rfl, rfl⟩
theorem same_other (w : World) (lo p rb c m : Nat) (G : List Cls) (h : Gg w lo p rb c G) (g : Good G m) : Calls Try.prog 39 #[.pointer none, gV p] w fun e w' => e = .returned (.bool false) ∧ w = w' := by
  obtain ⟨H, h1, h2⟩ := h
  have HC := Lib.hid h1.cell
  have HN := Lib.hid (show 0 < H.length by have := g.n0; rw [← h2, List.length_map] at this; exact this)
  clear h1
  go_enter Try.func39, Try.ntmps39
  go_wp2_with fail
  refine (kept_none w).mono ?_
  rintro e w' ⟨rfl, rfl⟩
  go_wp2_with fail
  refine (kept_any w p _ HC.out).mono ?_
  rintro e w' ⟨rfl, rfl⟩
  go_wp2_with fail
  refine (eqf_len w _ _ _ _ HN.out).mono ?_
  rintro e w' ⟨rfl, rfl⟩
  go_wp2
  go_ret
  exact ⟨rfl, rfl⟩
end Go.Proofs.Ytdeahnphcfcfpaa.Lab
