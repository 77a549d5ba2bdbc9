/- The small helpers of attr: needed, part, only, like, rest, Flags. -/
import Derived.Test.YtlmhnebgkginkaaDoorAtMem
namespace Go.Proofs.YtlmhnebgkginkaaDoor.Lab
open Go Go.RowKit

set_option maxHeartbeats 1000000 in
theorem needed_any (k : Int) (w : World) : Calls Tryd.prog 77 #[.int .i64 k] w fun e w' => e = .returned (.int .i64 (needed k : Nat)) ∧ w = w' := by
  by_cases h5 : k = 5
  · subst h5
    go_enter Tryd.func77, Tryd.ntmps77
    go_wp2
    go_ret
    exact ⟨rfl, rfl⟩
  · have e5 : (k == 5) = false := by simp [h5]
    by_cases h2 : k = 2
    · subst h2
      go_enter Tryd.func77, Tryd.ntmps77
      go_wp2
      go_ret
      exact ⟨rfl, rfl⟩
    · have e2 : (k == 2) = false := by simp [h2]
      have HN := Lib.hid (show needed k = 0 by unfold needed; rw [if_neg h5, if_neg h2])
      go_enter Tryd.func77, Tryd.ntmps77
      go_wp2
      go_ret
      exact ⟨by rw [HN.out]; rfl, rfl⟩

abbrev partV (x : Int) : Value := .tuple #[.int .u8 ((partM x).getD 0), .bool (partM x).isSome]
set_option maxHeartbeats 1000000 in
theorem prt_any (x : Int) (w : World) : Calls Tryd.prog 79 #[.int .i64 x] w fun e w' => e = .returned (partV x) ∧ w = w' := by
  by_cases h1 : x = -1
  · subst h1
    go_enter Tryd.func79, Tryd.ntmps79
    go_wp2
    go_ret2
    exact ⟨rfl, rfl⟩
  · have e1 : (x == -1) = false := by simp [h1]
    have hv : valM x = x := by unfold valM; rw [if_neg h1]
    by_cases h0 : x < 0
    · have HP := Lib.hid (show partM x = none by unfold partM; rw [hv, if_neg (by omega)])
      clear hv
      go_enter Tryd.func79, Tryd.ntmps79
      go_wp2
      go_ret2
      exact ⟨by unfold partV; rw [HP.out]; rfl, rfl⟩
    · by_cases h2 : 255 < x
      · have HP := Lib.hid (show partM x = none by unfold partM; rw [hv, if_neg (by omega)])
        clear hv
        go_enter Tryd.func79, Tryd.ntmps79
        go_wp2
        go_ret2
        exact ⟨by unfold partV; rw [HP.out]; rfl, rfl⟩
      · have HP := Lib.hid (show partM x = some x by unfold partM; rw [hv, if_pos (by omega)])
        have hw : IntKind.u8.wrap x = x := by rw [IntKind.wrap_u8']; omega
        clear hv
        go_enter Tryd.func79, Tryd.ntmps79
        go_wp2
        go_ret2
        exact ⟨by unfold partV; rw [HP.out]; rfl, rfl⟩

set_option maxHeartbeats 1000000 in
theorem at_one (w : World) (B : Nat) (u : Value) (hc : w.cell? ⟨B, 0, none⟩ = some u) (a : Option Addr) (n c : Nat) (hu : u = .slice a n c) :
    Calls Tryd.prog 80 #[.slice (some ⟨B, 0, none⟩) 1 1, .int .i64 0] w fun e w' => e = .returned u ∧ w = w' := by
  subst hu
  go_enter Tryd.func80, Tryd.ntmps80
  go_wp2
  go_ret
  exact ⟨rfl, rfl⟩
set_option maxHeartbeats 1000000 in
theorem said_one (w : World) (B g o c : Nat) (x : Int) (hc : w.cell? ⟨B, 0, none⟩ = some (.slice (some ⟨g, o, none⟩) 1 c)) (hx : w.cell? ⟨g, o, none⟩ = some (.int .i64 x)) :
    Calls Tryd.prog 69 #[.slice (some ⟨B, 0, none⟩) 1 1, .int .i64 0, .int .i64 0] w fun e w' => e = .returned (.int .i64 (valM x)) ∧ w = w' := by
  have C := Lib.hid (at_one w B _ hc _ 1 c rfl)
  have hx0 : w.cell? ⟨g, o + 0, none⟩ = some (.int .i64 x) := hx
  clear hc
  by_cases h1 : x = -1
  · subst h1
    go_enter Tryd.func69, Tryd.ntmps69
    go_wp2_with fail
    refine C.out.mono ?_
    rintro e w1 ⟨rfl, rfl⟩
    go_wp2
    go_ret
    exact ⟨rfl, rfl⟩
  · have e1 : (x == -1) = false := by simp [h1]
    have HV := Lib.hid (show valM x = x by unfold valM; rw [if_neg h1])
    go_enter Tryd.func69, Tryd.ntmps69
    go_wp2_with fail
    refine C.out.mono ?_
    rintro e w1 ⟨rfl, rfl⟩
    go_wp2
    go_ret
    exact ⟨by rw [HV.out]; rfl, rfl⟩

abbrev onlyV (row : List Int) : Value := .tuple #[.int .i64 ((onlyM row).getD 0), .bool (onlyM row).isSome]
theorem only_not {row : List Int} (h : row.length ≠ 1) : onlyM row = none := by
  unfold onlyM
  split
  · simp at h
  · rfl
set_option maxHeartbeats 1000000 in
theorem only_any (w : World) (X : Nat → Prop) (v : Value) (row : List Int) (h : NumsAt w X v row) : Calls Tryd.prog 52 #[v] w fun e w' => e = .returned (onlyV row) ∧ Below w.heap.size w w' := by
  by_cases h1 : row.length = 1
  · obtain ⟨x, rfl⟩ : ∃ x, row = [x] := by
      match row, h1 with
      | [x], _ => exact ⟨x, rfl⟩
    obtain ⟨g, o, c, rfl, hc1, _, _, hg, hcell⟩ := h.open (by simp)
    have hx : w.cell? ⟨g, o, none⟩ = some (.int .i64 x) := hcell 0 (by simp)
    have b1 : Below w.heap.size w (w.alloc (.cells #[.slice (some ⟨g, o, none⟩) [x].length c] 50)) := (Below.refl _ _).alloc (Nat.le_refl _) _
    have hx1 : (w.alloc (.cells #[.slice (some ⟨g, o, none⟩) [x].length c] 50)).cell? ⟨g, o, none⟩ = some (.int .i64 x) := (b1.cell (p := ⟨g, o, none⟩) hg).trans hx
    have C := Lib.hid (said_one _ w.heap.size g o c x (by simp) hx1)
    have HB := Lib.hid b1
    clear b1 hx1 hx hcell hc1 h
    have hl : [x].length = 1 := rfl
    rw [hl] at C HB ⊢
    go_enter Tryd.func52, Tryd.ntmps52
    go_wp2_with fail
    refine C.out.mono ?_
    rintro e w1 ⟨rfl, rfl⟩
    go_wp2
    go_ret2
    exact ⟨rfl, HB.out⟩
  · have HO := Lib.hid (only_not h1)
    obtain ⟨a, c, rfl⟩ := h.shape
    generalize row.length = n at *
    have e1 : ((n : Int) != 1) = true := by simp; omega
    have e2 : ((n : Int) == 1) = false := by simp; omega
    clear h
    go_enter Tryd.func52, Tryd.ntmps52
    go_wp2
    go_ret2
    exact ⟨by unfold onlyV; rw [HO.out]; rfl, Below.refl _ _⟩

def likeN (n : Int) : Int := if 30 ≤ n ∧ n ≤ 37 then 30 else if 40 ≤ n ∧ n ≤ 47 then 40 else if 90 ≤ n ∧ n ≤ 97 then 90 else if 100 ≤ n ∧ n ≤ 107 then 100 else n
abbrev firsts : Value := .agg #[.int .i64 30, .int .i64 40, .int .i64 90, .int .i64 100]
set_option maxHeartbeats 4000000 in
theorem like_int (n : Int) (w : World) : Calls Tryd.prog 54 #[.int .i64 n] w fun e w' => e = .returned (.int .i64 (likeN n)) ∧ w = w' := by
  have x0 : ∀ w : World, (Instr.index 116 firsts (.int .i64 0)).run Tryd.prog w = .ok (.int .i64 30) w := fun _ => by kernel_rfl
  have x1 : ∀ w : World, (Instr.index 116 firsts (.int .i64 1)).run Tryd.prog w = .ok (.int .i64 40) w := fun _ => by kernel_rfl
  have x2 : ∀ w : World, (Instr.index 116 firsts (.int .i64 2)).run Tryd.prog w = .ok (.int .i64 90) w := fun _ => by kernel_rfl
  have x3 : ∀ w : World, (Instr.index 116 firsts (.int .i64 3)).run Tryd.prog w = .ok (.int .i64 100) w := fun _ => by kernel_rfl
  by_cases h1 : 30 ≤ n ∧ n < 38
  · obtain ⟨a1, a2⟩ := h1
    have HL := Lib.hid (show likeN n = 30 by unfold likeN; rw [if_pos (by omega)])
    go_enter Tryd.func54, Tryd.ntmps54
    go_wp2
    refine wp_loop_rounds 1 ?_
    rw [rounds_succ]
    go_wp2
    go_ret
    exact ⟨by rw [HL.out]; rfl, rfl⟩
  · have c1 : (decide (30 ≤ n) && decide (n < 38)) = false := by simp; omega
    by_cases h2 : 40 ≤ n ∧ n < 48
    · obtain ⟨a1, a2⟩ := h2
      have HL := Lib.hid (show likeN n = 40 by unfold likeN; rw [if_neg (by omega), if_pos (by omega)])
      have d1 : decide (30 ≤ n) = true := by simp; omega
      have d2 : decide (n < 38) = false := by simp; omega
      clear c1 h1
      go_enter Tryd.func54, Tryd.ntmps54
      go_wp2
      refine wp_loop_rounds 2 ?_
      rw [rounds_succ]
      go_wp2
      rw [rounds_succ]
      go_wp2
      go_ret
      exact ⟨by rw [HL.out]; rfl, rfl⟩
    · by_cases h3 : 90 ≤ n ∧ n < 98
      · obtain ⟨a1, a2⟩ := h3
        have HL := Lib.hid (show likeN n = 90 by unfold likeN; rw [if_neg (by omega), if_neg (by omega), if_pos (by omega)])
        have d1 : decide (30 ≤ n) = true := by simp; omega
        have d2 : decide (n < 38) = false := by simp; omega
        have d3 : decide (40 ≤ n) = true := by simp; omega
        have d4 : decide (n < 48) = false := by simp; omega
        clear c1 h1 h2
        go_enter Tryd.func54, Tryd.ntmps54
        go_wp2
        refine wp_loop_rounds 3 ?_
        iterate 3
          rw [rounds_succ]
          go_wp2
        go_ret
        exact ⟨by rw [HL.out]; rfl, rfl⟩
      · by_cases h4 : 100 ≤ n ∧ n < 108
        · obtain ⟨a1, a2⟩ := h4
          have HL := Lib.hid (show likeN n = 100 by unfold likeN; rw [if_neg (by omega), if_neg (by omega), if_neg (by omega), if_pos (by omega)])
          have d1 : decide (30 ≤ n) = true := by simp; omega
          have d2 : decide (n < 38) = false := by simp; omega
          have d3 : decide (40 ≤ n) = true := by simp; omega
          have d4 : decide (n < 48) = false := by simp; omega
          have d5 : decide (90 ≤ n) = true := by simp; omega
          have d6 : decide (n < 98) = false := by simp; omega
          clear c1 h1 h2 h3
          go_enter Tryd.func54, Tryd.ntmps54
          go_wp2
          refine wp_loop_rounds 4 ?_
          iterate 4
            rw [rounds_succ]
            go_wp2
          go_ret
          exact ⟨by rw [HL.out]; rfl, rfl⟩
        · have HL := Lib.hid (show likeN n = n by unfold likeN; rw [if_neg (by omega), if_neg (by omega), if_neg (by omega), if_neg (by omega)])
          clear c1
          have k1 : n < 30 ∨ 38 ≤ n := by omega
          have k2 : n < 40 ∨ 48 ≤ n := by omega
          have k3 : n < 90 ∨ 98 ≤ n := by omega
          have k4 : n < 100 ∨ 108 ≤ n := by omega
          clear h1 h2 h3 h4
          rcases k1 with k1 | k1
          all_goals rcases k2 with k2 | k2
          all_goals rcases k3 with k3 | k3
          all_goals rcases k4 with k4 | k4
          all_goals first
            | (exfalso; omega)
            | (go_enter Tryd.func54, Tryd.ntmps54
               go_wp2
               refine wp_loop_rounds 5 ?_
               iterate 5
                 rw [rounds_succ]
                 go_wp2
               go_ret
               exact ⟨by rw [HL.out]; rfl, rfl⟩)
end Go.Proofs.YtlmhnebgkginkaaDoor.Lab
