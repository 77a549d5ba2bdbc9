/- The reference's tab stops: a truth for each column; size, first, Raise, Declassify, New, Resize. -/
import Derived.Test.YtmfbknmcmopjnaaTbDoes
set_option linter.unusedVariables false
namespace Go.Proofs.Ytmfbknmcmopjnaa.Lab
open Go Go.RowKit Go.Shelf

abbrev bV (b : Bool) : Value := .bool b
abbrev bVs (L : List Bool) : List Value := L.map bV
theorem infoBool : (Try.prog.info? 4).map (fun i => (i.zero, i.size, i.bytes)) = some (some (.bool false), 1, 1) := by kernel_rfl
/-- Truths as they can be read. -/
def BIn (w : World) (v : Value) (L : List Bool) : Prop :=
  ∃ a c, v = .slice a L.length c ∧ (0 < L.length → ∃ g o, a = some ⟨g, o, none⟩ ∧ g < w.heap.size ∧ ∀ i, (hi : i < L.length) → w.cell? ⟨g, o + i, none⟩ = some (.bool L[i])) ∧ (L.length = 0 → a = none ∨ ∃ x, a = some x)
theorem BIn.below {w w' : World} {v : Value} {L : List Bool} (h : BIn w v L) (k : Below w.heap.size w w') : BIn w' v L := by
  obtain ⟨a, c, e, h, hz⟩ := h
  refine ⟨a, c, e, fun h0 => ?_, hz⟩
  obtain ⟨g, o, ea, hg, hC⟩ := h h0
  exact ⟨g, o, ea, Nat.lt_of_lt_of_le hg k.size, fun i hi => (k.cell (p := ⟨g, o + i, none⟩) hg).trans (hC i hi)⟩
theorem BIn.shape {w : World} {v : Value} {L : List Bool} (h : BIn w v L) : ∃ a c, v = .slice a L.length c := by
  obtain ⟨a, c, e, _⟩ := h
  exact ⟨a, c, e⟩
theorem BIn.get {w : World} {a : Option Addr} {n c : Nat} {L : List Bool} (h : BIn w (.slice a n c) L) {i : Nat} (hi : i < L.length) : ∃ g o, a = some ⟨g, o, none⟩ ∧ w.cell? ⟨g, o + i, none⟩ = some (.bool (L.getD i false)) := by
  obtain ⟨a', c', e, h, _⟩ := h
  injection e with e1 _ _
  subst e1
  obtain ⟨g, o, ea, hg, hC⟩ := h (by omega)
  refine ⟨g, o, ea, ?_⟩
  rw [hC i hi, List.getD_eq_getElem?_getD, List.getElem?_eq_getElem hi]
  rfl
theorem bIn_own {w : World} {lo : Nat} {v : Value} {L : List Bool} (h : w.ownsRow lo 4 1 v L.length (bVs L)) : BIn w v L := by
  obtain ⟨a, c, e⟩ := own_shape h
  refine ⟨a, c, e, fun h0 => ?_, fun _ => by cases a <;> simp⟩
  rcases h.2 with ⟨_, h1⟩ | ⟨g, cap, cur, ev, _, hg, _⟩
  · omega
  · rw [e] at ev
    injection ev with e1 _ _
    refine ⟨g, 0, e1, (Array.getElem?_eq_some_iff.1 hg).1, fun i hi => ?_⟩
    have := World.ownsRow.cells h (g := g) (by rw [e, e1]; rfl) i (bV L[i]) (by simp [bVs, hi])
    rw [Addr.add_mid] at this
    exact this
abbrev rV (v : Value) (t : Tb) : Value := .agg #[v, .int .u8 (t.l : Nat), .int .u8 (t.b : Nat)]
/-- What a reference's call answers. -/
def RAns (w : World) (t : Tb) (e : Ending) (w' : World) : Prop := ∃ v, e = .returned (rV v t) ∧ BIn w' v t.L ∧ Below w.heap.size w w'
theorem two_allocs (w : World) (o o' : Obj) : Below w.heap.size w ((w.alloc o).alloc o') := ((Below.refl _ _).alloc (Nat.le_refl _) _).alloc (by rw [World.size_alloc]; omega) _
theorem size_any (c : Int) (w : World) : Calls Try.prog 35 #[.int .i64 c] w fun e w' => e = .returned (.int .i64 (szN c : Nat)) ∧ w = w' := by
  go_enter Try.func35, Try.ntmps35
  go_wp2
  all_goals
    go_ret
    refine ⟨ret_int ?_, rfl⟩
    unfold szN inN
    omega
theorem first_any (n : Nat) (w : World) : Calls Try.prog 36 #[.int .i64 (n : Nat)] w fun e w' => e = .returned (.bool (firstB n)) ∧ w = w' := by
  by_cases h0 : n = 0
  · have g0 : ¬ (0 : Int) < (n : Int) := by omega
    have g0n : ¬ 0 < n := by omega
    have HE := Lib.hid (show firstB n = false by unfold firstB; exact decide_eq_false (by omega))
    clear h0
    go_enter Try.func36, Try.ntmps36
    go_wp2
    go_ret
    exact ⟨by rw [HE.out]; rfl, rfl⟩
  · have g0 : (0 : Int) < (n : Int) := by omega
    have g0n : 0 < n := by omega
    by_cases h8 : n % 8 = 0
    · have q1 : ((n : Nat) : Int).tmod 8 = 0 := by rw [Int.tmod_eq_emod_of_nonneg (by omega)]; omega
      have q2 : ((n : Nat) : Int) % 8 = 0 := by omega
      have HE := Lib.hid (show firstB n = true by unfold firstB; exact decide_eq_true ⟨by omega, h8⟩)
      clear h8 h0
      go_enter Try.func36, Try.ntmps36
      go_wp2
      go_ret
      exact ⟨by rw [HE.out]; rfl, rfl⟩
    · obtain ⟨r, hr⟩ : ∃ r, r = n % 8 := ⟨_, rfl⟩
      have q1 : ((n : Nat) : Int).tmod 8 = (r : Nat) := by rw [hr, Int.tmod_eq_emod_of_nonneg (by omega)]; rfl
      have q2 : ((n : Nat) : Int) % 8 = (r : Nat) := by rw [hr]; rfl
      have q3 : ((r : Int) == 0) = false := by
        have : ¬ r = 0 := by rw [hr]; exact h8
        simp [this]
      have HE := Lib.hid (show firstB n = false by unfold firstB; exact decide_eq_false (fun q => h8 q.2))
      clear h8 h0 hr
      go_enter Try.func36, Try.ntmps36
      go_wp2
      go_ret
      exact ⟨by rw [HE.out]; rfl, rfl⟩
set_option maxHeartbeats 2000000 in
theorem rdecl_any (v : Value) (t : Tb) (w : World) (h : BIn w v t.L) : Calls Try.prog 40 #[rV v t] w (RAns w t.decl) := by
  obtain ⟨va, vc, rfl⟩ := h.shape
  obtain ⟨n, hn⟩ : ∃ n, n = t.L.length := ⟨_, rfl⟩
  have HI := Lib.hid h
  rw [← hn] at HI ⊢
  clear hn h
  go_enter Try.func40, Try.ntmps40
  go_wp2
  have hb := two_allocs w (.cells #[.slice va n vc, .int .u8 (t.b : Nat), .int .u8 (t.b : Nat)] 33) (.cells #[.slice va n vc, .int .u8 (t.b : Nat), .int .u8 (t.b : Nat)] 33)
  refine bodyPost_ret (v := rV (.slice va n vc) t.decl) (by simp [results, Try.results40, go_sem]; exact ⟨rfl, rfl⟩) rfl ?_
  exact ⟨_, rfl, HI.out.below hb, hb⟩
set_option maxHeartbeats 2000000 in
theorem rraise_any (v : Value) (t : Tb) (l : Nat) (w : World) (h : BIn w v t.L) : Calls Try.prog 39 #[rV v t, .int .u8 (l : Nat)] w (RAns w (t.raise l)) := by
  obtain ⟨va, vc, rfl⟩ := h.shape
  obtain ⟨n, hn⟩ : ∃ n, n = t.L.length := ⟨_, rfl⟩
  have HI := Lib.hid h
  rw [← hn] at HI ⊢
  clear hn h
  obtain ⟨lm, hlm⟩ : ∃ x, x = max t.l l := ⟨_, rfl⟩
  have hmx : ∀ w, (Builtin.max_ #[26, 26] 26 #[.int .u8 (t.l : Nat), .int .u8 (l : Nat)]).run Try.prog w = .ok (.int .u8 (lm : Nat)) w := fun w => by
    rw [run_max_int2, hlm]
    congr 2
    split <;> omega
  have HLM := Lib.hid hlm
  clear hlm
  go_enter Try.func39, Try.ntmps39
  go_wp2
  have hb := two_allocs w (.cells #[.slice va n vc, .int .u8 (lm : Nat), .int .u8 (t.b : Nat)] 33) (.cells #[.slice va n vc, .int .u8 (lm : Nat), .int .u8 (t.b : Nat)] 33)
  refine bodyPost_ret (v := rV (.slice va n vc) (t.raise l)) (by simp [results, Try.results39, go_sem]; rw [HLM.out]; exact ⟨rfl, rfl⟩) rfl ?_
  exact ⟨_, rfl, HI.out.below hb, hb⟩
end Go.Proofs.Ytmfbknmcmopjnaa.Lab
