/- The list's own small methods: number, next, sub, digit. -/
import Derived.Test.YtlmhnebgkginkaaDoorPaLow
import Derived.Test.YtlmhnebgkginkaaDoorProg
import Derived.Outline
import Derived.RegionTactic
namespace Go.Proofs.YtlmhnebgkginkaaDoor.Lab
open Go.RowKit

set_option maxHeartbeats 1000000 in
theorem number_any (w : World) (B m s : Nat) (num : Nat → Int) (sub : Nat → Nat) (o : Bool) (h : Low w B num sub (m + 1) o) (hm : m < 32) (hs : sub m = s) (h8 : s < 8) :
    Calls Tryd.prog 74 #[.pointer (some ⟨B, 0, none⟩)] w fun e w' => e = .returned (.tuple #[]) ∧ Low w' B (upd num (m * 8 + s) (-1)) (upd sub m (s + 1)) (m + 1) o ∧ But B w w' := by
  have c1 := h.cp
  have c2 := h.cs m hm
  rw [hs] at c2
  have c3 := h.cn (m * 8 + s) (by omega)
  have f1 := h.fr
  go_enter Tryd.func74, Tryd.ntmps74
  go_wp2
  go_region
  have h1 := (h.setNum (m * 8 + s) (by omega) (-1)).drew
  have b1 := (But.set w B (m * 8 + s) (.int .i64 (-1))).drew
  generalize (w.setCell ⟨B, m * 8 + s, none⟩ (.int .i64 (-1))).drew = w1 at h1 b1 ⊢
  have d2 := h1.cs m hm
  rw [hs] at d2
  have f2 := h1.fr
  clear c1 c2 c3 f1
  go_wp2
  go_region
  go_wp2
  go_end0
  exact ⟨rfl, (h1.setSub m hm (s + 1)).drew, b1.trans (But.set w1 B (256 + m) (.int .i64 ((s + 1 : Nat) : Int))).drew⟩

set_option maxHeartbeats 1000000 in
theorem next_full (w : World) (B : Nat) (num : Nat → Int) (sub : Nat → Nat) (o : Bool) (c : Value) (h : Low w B num sub 32 o) :
    Calls Tryd.prog 62 #[.pointer (some ⟨B, 0, none⟩), c] w fun e w' => e = .returned (.tuple #[]) ∧ Low w' B num sub 32 true ∧ But B w w' := by
  have c1 := h.cp
  have c2 := h.co
  have f1 := h.fr
  go_enter Tryd.func62, Tryd.ntmps62
  go_wp2
  go_end0
  exact ⟨rfl, h.setO true, But.set w B 289 (.bool true)⟩

set_option maxHeartbeats 1000000 in
theorem next_more (w : World) (B n s : Nat) (num : Nat → Int) (sub : Nat → Nat) (o : Bool) (c : Value) (h : Low w B num sub n o) (hn : n < 32) (hs : sub n = s) (h8 : s < 8) :
    Calls Tryd.prog 62 #[.pointer (some ⟨B, 0, none⟩), c] w fun e w' => e = .returned (.tuple #[]) ∧ Low w' B (upd num (n * 8 + s) (-1)) (upd sub n (s + 1)) (n + 1) false ∧ But B w w' := by
  have c1 := h.cp
  have c2 := h.co
  have f1 := h.fr
  have e1 : ((n : Int) == 32) = false := by simp; omega
  have L1 := (h.setO false).setN (n + 1)
  have b1 := (But.set w B 289 (.bool false)).trans (But.set (w.setCell ⟨B, 289, none⟩ (.bool false)) B 288 (.int .i64 ((n + 1 : Nat) : Int)))
  go_enter Tryd.func62, Tryd.ntmps62
  go_wp2_with fail
  refine (number_any _ B n s num sub false L1 hn hs h8).mono ?_
  rintro e w2 ⟨rfl, L2, b2⟩
  go_wp2
  go_end0
  exact ⟨rfl, L2, b1.trans b2⟩

set_option maxHeartbeats 1000000 in
theorem sub_out (w : World) (B n : Nat) (num : Nat → Int) (sub : Nat → Nat) (c : Value) (h : Low w B num sub n true) :
    Calls Tryd.prog 73 #[.pointer (some ⟨B, 0, none⟩), c] w fun e w' => e = .returned (.tuple #[]) ∧ Low w' B num sub n true ∧ But B w w' := by
  have c2 := h.co
  have f1 := h.fr
  go_enter Tryd.func73, Tryd.ntmps73
  go_wp2
  go_region
  have h1 := (h.setO true).drew
  have b1 := (But.set w B 289 (.bool true)).drew
  generalize (w.setCell ⟨B, 289, none⟩ (.bool true)).drew = w1 at h1 b1 ⊢
  have c1 := h1.co
  go_wp2
  go_end0
  exact ⟨rfl, h1, b1⟩

set_option maxHeartbeats 1000000 in
theorem sub_full (w : World) (B m : Nat) (num : Nat → Int) (sub : Nat → Nat) (c : Value) (h : Low w B num sub (m + 1) false) (hm : m < 32) (hs : sub m = 8) :
    Calls Tryd.prog 73 #[.pointer (some ⟨B, 0, none⟩), c] w fun e w' => e = .returned (.tuple #[]) ∧ Low w' B num sub (m + 1) true ∧ But B w w' := by
  have c1 := h.cp
  have c2 := h.co
  have c3 := h.cs m hm
  rw [hs] at c3
  have f1 := h.fr
  go_enter Tryd.func73, Tryd.ntmps73
  go_wp2
  go_region
  have h1 := (h.setO true).drew
  have b1 := (But.set w B 289 (.bool true)).drew
  generalize (w.setCell ⟨B, 289, none⟩ (.bool true)).drew = w1 at h1 b1 ⊢
  have c1 := h1.co
  go_wp2
  go_end0
  exact ⟨rfl, h1, b1⟩

set_option maxHeartbeats 1000000 in
theorem sub_more (w : World) (B m s : Nat) (num : Nat → Int) (sub : Nat → Nat) (c : Value) (h : Low w B num sub (m + 1) false) (hm : m < 32) (hs : sub m = s) (h8 : s < 8) :
    Calls Tryd.prog 73 #[.pointer (some ⟨B, 0, none⟩), c] w fun e w' => e = .returned (.tuple #[]) ∧ Low w' B (upd num (m * 8 + s) (-1)) (upd sub m (s + 1)) (m + 1) false ∧ But B w w' := by
  have c1 := h.cp
  have c2 := h.co
  have c3 := h.cs m hm
  rw [hs] at c3
  have f1 := h.fr
  have e1 : ((s : Int) == 8) = false := by simp; omega
  go_enter Tryd.func73, Tryd.ntmps73
  go_wp2
  go_region
  have h1 := (h.setO false).drew
  have b1 := (But.set w B 289 (.bool false)).drew
  generalize (w.setCell ⟨B, 289, none⟩ (.bool false)).drew = w1 at h1 b1 ⊢
  have c1 := h1.co
  go_wp2_with fail
  refine (number_any _ B m s num sub false h1 hm hs h8).mono ?_
  rintro e w2 ⟨rfl, L2, b2⟩
  go_wp2
  go_end0
  exact ⟨rfl, L2, b1.trans b2⟩

set_option maxHeartbeats 1000000 in
theorem digit_out (w : World) (B n : Nat) (num : Nat → Int) (sub : Nat → Nat) (c : Value) (h : Low w B num sub n true) :
    Calls Tryd.prog 72 #[.pointer (some ⟨B, 0, none⟩), c] w fun e w' => e = .returned (.tuple #[]) ∧ Low w' B num sub n true ∧ But B w w' := by
  have c2 := h.co
  go_enter Tryd.func72, Tryd.ntmps72
  go_wp2
  refine bodyPost_ret (results_none rfl _ _ _) rfl ?_
  exact ⟨rfl, h, But.refl _ _⟩

set_option maxHeartbeats 1000000 in
theorem digit_any (w : World) (B m s : Nat) (x : Int) (num : Nat → Int) (sub : Nat → Nat) (c : Int) (h : Low w B num sub (m + 1) false) (hm : m < 32) (hs : sub m = s + 1) (h8 : s < 8) (hx : num (m * 8 + s) = x) (x0 : -1 ≤ x) (x1 : x ≤ 65535) (h48 : 48 ≤ c) (h57 : c ≤ 57) :
    Calls Tryd.prog 72 #[.pointer (some ⟨B, 0, none⟩), .int .u8 c] w fun e w' => e = .returned (.tuple #[]) ∧ Low w' B (upd num (m * 8 + s) (min (10 * max x 0 + (c - 48)) 65535)) sub (m + 1) false ∧ But B w w' := by
  have c1 := h.cp
  have c2 := h.co
  have c3 := h.cs m hm
  rw [hs] at c3
  have c4 := h.cn (m * 8 + s) (by omega)
  rw [hx] at c4
  have f1 := h.fr
  go_enter Tryd.func72, Tryd.ntmps72
  go_wp2
  have K : ∀ (q : Nat) (V : Int), V = min (10 * max x 0 + (c - 48)) 65535 → Low ((w.setCell ⟨B, m * 8 + s, none⟩ (.int .i64 V)).drewN q) B (upd num (m * 8 + s) (min (10 * max x 0 + (c - 48)) 65535)) sub (m + 1) false ∧ But B w ((w.setCell ⟨B, m * 8 + s, none⟩ (.int .i64 V)).drewN q) := by
    intro q V hV
    subst hV
    exact ⟨(h.setNum (m * 8 + s) (by omega) _).drewN q, (But.set w B (m * 8 + s) _).drewN q⟩
  go_quiet (fail)
  go_wp2
  all_goals
    go_end0
    refine ⟨rfl, K _ _ ?_⟩
    omega
end Go.Proofs.YtlmhnebgkginkaaDoor.Lab
