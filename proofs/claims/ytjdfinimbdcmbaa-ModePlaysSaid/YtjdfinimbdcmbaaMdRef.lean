/- The reference: all modes; whether one is known, of the alternate screen, set. -/
import Derived.Test.YtjdfinimbdcmbaaMdSoft
set_option linter.unusedVariables false
namespace Go.Proofs.Ytjdfinimbdcmbaa.Lab
open Go Go.RowKit Go.Shelf

theorem eqRef (p q : Bool) (n m : Int) (w : World) : (Op.equalIn 10000 43 (.agg #[.bool p, .int .i64 n]) (.agg #[.bool q, .int .i64 m])).run Try.prog w = .ok (decide ((p, n) = (q, m))) w := by
  rw [show (10000 : Nat) = 9999 + 1 from rfl, run_equalIn_struct w 9999 _ _ _ (by kernel_rfl) Try.stoodInHeld43]
  rw [show (Try.prog.fieldsOf 43).toList = [{ name := "Private", type := 4, offset := 0, embedded := false, tag := "", pkgPath := "", byteOffset := 0 }, { name := "N", type := 3, offset := 1, embedded := false, tag := "", pkgPath := "", byteOffset := 8 }] from by kernel_rfl]
  simp only [Op.eqFields]
  go_simp
  by_cases h1 : p = q <;> by_cases h2 : n = m <;> simp [h1, h2]
def everyL : List Mo := tabM.map (·.1)
theorem not_mem_at {l : List Mo} {x : Mo} (h : ∀ j, j < l.length → l.getD j (false, 0) ≠ x) : x ∉ l := by
  intro hx
  obtain ⟨j, hj, e⟩ := List.getElem_of_mem hx
  exact h j hj (by rw [List.getD_eq_getElem?_getD, List.getElem?_eq_getElem hj]; exact e)
theorem mem_at {l : List Mo} {i : Nat} (h : i < l.length) : l.getD i (false, 0) ∈ l := by
  rw [List.getD_eq_getElem?_getD, List.getElem?_eq_getElem h]
  exact List.getElem_mem h
theorem known_mem (x : Mo) : (bitM x).isSome = decide (x ∈ everyL) := by
  cases e : bitM x with
  | none =>
    refine (decide_eq_false fun h => ?_).symm
    obtain ⟨f, hf, hx⟩ := List.mem_map.1 h
    have hb : bitM f.1 = some f.2 := (by decide +kernel : ∀ e ∈ tabM, bitM e.1 = some e.2) f hf
    rw [hx, e] at hb
    cases hb
  | some j => exact (decide_eq_true (List.mem_map.2 ⟨(x, j), findM_some e, rfl⟩)).symm
theorem is_mem (s : Nat) (x : Mo) : isM s x = decide (x ∈ allM s) := by
  cases h : isM s x with
  | true => exact (decide_eq_true (mem_all.2 h)).symm
  | false => exact (decide_eq_false fun h2 => by rw [mem_all.1 h2] at h; cases h).symm
theorem alt_eq (p : Bool) (n : Int) : altM (p, n) = (p && (decide (n = 47) || (decide (n = 1047) || decide (n = 1049)))) := by
  have h1 : ∀ e ∈ tabM, altM e.1 = (e.1.1 && (decide (e.1.2 = 47) || (decide (e.1.2 = 1047) || decide (e.1.2 = 1049)))) := by decide +kernel
  cases e : bitM (p, n) with
  | some j => exact h1 _ (findM_some e)
  | none =>
    have h2 : altM (p, n) = false := by unfold altM; rw [e]; rfl
    rw [h2]
    cases p
    · rfl
    · have h3 : ∀ k : Int, (k = 47 ∨ k = 1047 ∨ k = 1049) → bitM (true, k) ≠ none := by rintro k (rfl | rfl | rfl) <;> decide
      have a : ¬ n = 47 := fun h => h3 n (.inl h) e
      have b : ¬ n = 1047 := fun h => h3 n (.inr (.inl h)) e
      have c : ¬ n = 1049 := fun h => h3 n (.inr (.inr h)) e
      simp [a, b, c]
set_option maxRecDepth 100000 in
theorem every_any (w : World) : Calls Try.prog 34 #[] w fun e w' => ∃ a c, e = .returned (.slice a 13 c) ∧ MoIn w' (.slice a 13 c) everyL ∧ Below w.heap.size w w' := by
  go_enter Try.func34, Try.ntmps34
  go_wp2
  go_ret
  exact ⟨_, _, rfl, lit_in w everyL _ (by decide) _ rfl, (Below.refl _ _).alloc (Nat.le_refl _) _⟩
set_option maxRecDepth 100000 in
theorem ralt_any (p : Bool) (n : Int) (w : World) : Calls Try.prog 20 #[.agg #[.bool p, .int .i64 n]] w fun e w' => e = .returned (.bool (altM (p, n))) ∧ Below w.heap.size w w' := by
  obtain ⟨r, hr⟩ : ∃ r, r = altM (p, n) := ⟨_, rfl⟩
  have HR := Lib.hid (hr.trans (alt_eq p n))
  rw [← hr]
  clear hr
  have HB := Lib.hid (Below.refl w.heap.size w)
  go_enter Try.func20, Try.ntmps20
  obtain ⟨bx, hbx⟩ : ∃ b, b = w.heap.size := ⟨_, rfl⟩
  obtain ⟨w1, hw1⟩ : ∃ x, x = w.alloc (.cells #[.bool p, .int .i64 n] 43) := ⟨_, rfl⟩
  have HBo := Lib.hid HB.out.size
  have kk : Below w.heap.size w w1 := by rw [hw1]; exact (Below.refl _ _).alloc (Nat.le_refl _) _
  replace HB := Lib.hid (HB.out.trans (kk.mono HB.out.size))
  have HNbx := Lib.hid (show w1.heap[bx]? = some (.cells #[.bool p, .int .i64 n] 43 (0, 0)) by rw [hw1, hbx]; exact World.alloc_heap_new _ _)
  have HLbx := Lib.hid (show w.heap.size ≤ bx by rw [hbx]; exact HBo.out)
  go_upto_region 1 with (fail)
  rw [← hw1, ← hbx]
  clear hw1 hbx kk HBo
  have cbx := (two_cells HNbx.out).1
  have dbx := (two_cells HNbx.out).2.1
  have fbx := (two_cells HNbx.out).2.2.1
  have gbx := (two_cells HNbx.out).2.2.2
  cases p
  · go_wp2
    go_ret
    exact ⟨by rw [HR.out]; rfl, HB.out⟩
  · by_cases h47 : n = 47
    · subst h47
      go_wp2
      go_ret
      exact ⟨by rw [HR.out]; rfl, HB.out⟩
    · have s47 : (n == 47) = false := by rw [beq_eq_false_iff_ne]; exact h47
      have d47 : decide (n = 47) = false := decide_eq_false h47
      by_cases h1047 : n = 1047
      · subst h1047
        go_wp2
        go_ret
        exact ⟨by rw [HR.out]; rfl, HB.out⟩
      · have s1047 : (n == 1047) = false := by rw [beq_eq_false_iff_ne]; exact h1047
        have d1047 : decide (n = 1047) = false := decide_eq_false h1047
        by_cases h1049 : n = 1049
        · subst h1049
          go_wp2
          go_ret
          exact ⟨by rw [HR.out]; rfl, HB.out⟩
        · have s1049 : (n == 1049) = false := by rw [beq_eq_false_iff_ne]; exact h1049
          have d1049 : decide (n = 1049) = false := decide_eq_false h1049
          have HD := Lib.hid (show (true && (decide (n = 47) || (decide (n = 1047) || decide (n = 1049)))) = false by rw [d47, d1047, d1049]; rfl)
          clear h47 h1047 h1049
          go_wp2
          go_ret
          exact ⟨by rw [HR.out, HD.out]; rfl, HB.out⟩
set_option maxHeartbeats 2000000 in
set_option maxRecDepth 100000 in
theorem rknown_any (p : Bool) (n : Int) (w : World) : Calls Try.prog 18 #[.agg #[.bool p, .int .i64 n]] w fun e w' => e = .returned (.bool (decide ((p, n) ∈ everyL))) ∧ Below w.heap.size w w' := by
  have HB := Lib.hid (Below.refl w.heap.size w)
  have HLL := Lib.hid (show everyL.length = 13 from rfl)
  have HNL := Lib.hid (show 13 ≤ 10000 by omega)
  go_enter Try.func18, Try.ntmps18
  obtain ⟨bx, hbx⟩ : ∃ b, b = w.heap.size := ⟨_, rfl⟩
  obtain ⟨w1, hw1⟩ : ∃ x, x = w.alloc (.cells #[.bool p, .int .i64 n] 43) := ⟨_, rfl⟩
  have HBo := Lib.hid HB.out.size
  have kk : Below w.heap.size w w1 := by rw [hw1]; exact (Below.refl _ _).alloc (Nat.le_refl _) _
  replace HB := Lib.hid (HB.out.trans (kk.mono HB.out.size))
  have HNbx := Lib.hid (show w1.heap[bx]? = some (.cells #[.bool p, .int .i64 n] 43 (0, 0)) by rw [hw1, hbx]; exact World.alloc_heap_new _ _)
  have HLbx := Lib.hid (show w.heap.size ≤ bx by rw [hbx]; exact HBo.out)
  go_upto_region 1 with (fail)
  rw [← hw1, ← hbx]
  clear hw1 hbx kk HBo
  have cbx := (two_cells HNbx.out).1
  have dbx := (two_cells HNbx.out).2.1
  have fbx := (two_cells HNbx.out).2.2.1
  have gbx := (two_cells HNbx.out).2.2.2
  go_wp2_with fail
  refine (every_any _).mono ?_
  rintro e w2 ⟨a2, c2, rfl, hli, bb⟩
  have HLI := Lib.hid hli
  clear hli
  replace HNbx := Lib.hid (blk_below HNbx.out bb)
  replace HB := Lib.hid (HB.out.trans (bb.mono HB.out.size))
  clear bb
  clear cbx dbx fbx gbx
  go_wp2_with fail
  go_loopw [4] (fun v wr => ∃ i : Nat, v = .int .i64 (i : Nat) ∧ Hid (i ≤ 13) ∧ Hid (∀ j, j < i → (everyL).getD j (false, 0) ≠ (p, n)) ∧ Hid (Below w2.heap.size w2 wr)) (fun v wr => 20000 - (intOf v).toNat)
  case atStart => exact ⟨0, rfl, Lib.hid (Nat.zero_le _), Lib.hid (fun j hj => absurd hj (Nat.not_lt_zero _)), Lib.hid (Below.refl _ _)⟩
  case round =>
    obtain ⟨i, rfl, HI, HN, HY⟩ := hrel
    have u1 : IntKind.i64.wrap ((i : Int) + 1) = ((i + 1 : Nat) : Int) := by rw [IntKind.wrap_i64]; have := HI.out; have := HNL.out; omega
    replace HNbx := Lib.hid (blk_below HNbx.out HY.out)
    replace HB := Lib.hid (HB.out.trans (HY.out.mono HB.out.size))
    by_cases h1 : i < 13
    · obtain ⟨g, o, hla, c0, c1⟩ := (HLI.out.below HY.out).at (i := i) h1
      subst hla
      have HH1 := Lib.hid h1
      obtain ⟨y, hy⟩ : ∃ y, y = (everyL).getD i (false, 0) := ⟨_, rfl⟩
      rw [← hy] at c0 c1
      have HYY := Lib.hid hy
      clear hy
      obtain ⟨q, k⟩ := y
      simp only [] at c0 c1
      have cbx := (two_cells HNbx.out).1
      have dbx := (two_cells HNbx.out).2.1
      have fbx := (two_cells HNbx.out).2.2.1
      have gbx := (two_cells HNbx.out).2.2.2
      by_cases he : (q, k) = (p, n)
      · have hq : ∀ w, (Op.equalIn 10000 43 (.agg #[.bool q, .int .i64 k]) (.agg #[.bool p, .int .i64 n])).run Try.prog w = .ok true w := fun w => by rw [eqRef, decide_eq_true he]
        have HE := Lib.hid he
        clear he
        go_upto_region 5 with (fail)
        go_quiet (fail)
        go_wp2
        go_ret
        have e9 : decide ((p, n) ∈ everyL) = true := decide_eq_true (by rw [← HE.out, HYY.out]; exact mem_at (by have := HH1.out; have := HLL.out; omega))
        exact ⟨by rw [e9]; rfl, below_drewN HB.out _⟩
      · have hq : ∀ w, (Op.equalIn 10000 43 (.agg #[.bool q, .int .i64 k]) (.agg #[.bool p, .int .i64 n])).run Try.prog w = .ok false w := fun w => by rw [eqRef, decide_eq_false he]
        have HE := Lib.hid he
        clear he
        go_upto_region 5 with (fail)
        go_quiet (fail)
        go_wp2
        go_roundw
        case rel => exact ⟨i + 1, by go_num, Lib.hid HH1.out, Lib.hid (fun j hj => by
          rcases (by omega : j < i ∨ j = i) with h | rfl
          · exact HN.out j h
          · exact fun e => HE.out (HYY.out.trans e)), Lib.hid (below_drewN HY.out _)⟩
        case measure => simp only [intOf]; have := HI.out; have := HNL.out; omega
    · have h2 : i = 13 := by have := HI.out; omega
      have HKM := Lib.hid h2
      clear h2
      have cbx := (two_cells HNbx.out).1
      have dbx := (two_cells HNbx.out).2.1
      have fbx := (two_cells HNbx.out).2.2.1
      have gbx := (two_cells HNbx.out).2.2.2
      go_wp2
      go_ret
      have e9 : decide ((p, n) ∈ everyL) = false := decide_eq_false (not_mem_at fun j hj => HN.out j (by have := HKM.out; have := HLL.out; omega))
      exact ⟨by rw [e9]; rfl, HB.out⟩
set_option maxHeartbeats 2000000 in
set_option maxRecDepth 100000 in
theorem ris_any (v : Value) (l : List Mo) (hl : l.length ≤ 10000) (p : Bool) (n : Int) (w : World) (h : MoIn w v l) : Calls Try.prog 22 #[.agg #[v], .agg #[.bool p, .int .i64 n]] w fun e w' => e = .returned (.bool (decide ((p, n) ∈ l))) ∧ Below w.heap.size w w' := by
  obtain ⟨la, lc, rfl⟩ := h.shape
  have hL : ∃ ll, ll = l.length := ⟨_, rfl⟩
  obtain ⟨ll, hll⟩ := hL
  rw [← hll] at h hl ⊢
  have HLL := Lib.hid hll.symm
  have HNL := Lib.hid hl
  have HLI := Lib.hid h
  clear hll hl h
  have HB := Lib.hid (Below.refl w.heap.size w)
  go_enter Try.func22, Try.ntmps22
  obtain ⟨bm, hbm⟩ : ∃ b, b = w.heap.size := ⟨_, rfl⟩
  obtain ⟨w0, hw0⟩ : ∃ x, x = w.alloc (.cells #[.slice la ll lc] 31) := ⟨_, rfl⟩
  obtain ⟨bx, hbx⟩ : ∃ b, b = w.heap.size + 1 := ⟨_, rfl⟩
  obtain ⟨w1, hw1⟩ : ∃ x, x = w0.alloc (.cells #[.bool p, .int .i64 n] 43) := ⟨_, rfl⟩
  have k0 : Below w.heap.size w w0 := by rw [hw0]; exact (Below.refl _ _).alloc (Nat.le_refl _) _
  have k1 : Below w0.heap.size w0 w1 := by rw [hw1]; exact (Below.refl _ _).alloc (Nat.le_refl _) _
  have HNbm := Lib.hid (blk_below (show w0.heap[bm]? = some (.cells #[.slice la ll lc] 31 (0, 0)) by rw [hw0, hbm]; exact World.alloc_heap_new _ _) k1)
  have HNbx := Lib.hid (show w1.heap[bx]? = some (.cells #[.bool p, .int .i64 n] 43 (0, 0)) by rw [hw1, hbx, show w.heap.size + 1 = w0.heap.size by rw [hw0]; simp]; exact World.alloc_heap_new _ _)
  replace HB := Lib.hid (k0.trans (k1.mono k0.size))
  replace HLI := Lib.hid (HLI.out.below HB.out)
  go_upto_region 1 with (fail)
  rw [← hw0, ← hw1, ← hbx, ← hbm]
  clear hw0 hw1 hbx hbm k0 k1
  have cbm := (one_cell HNbm.out).1
  have fbm := (one_cell HNbm.out).2
  have cbx := (two_cells HNbx.out).1
  have dbx := (two_cells HNbx.out).2.1
  have fbx := (two_cells HNbx.out).2.2.1
  have gbx := (two_cells HNbx.out).2.2.2
  go_wp2_with fail
  clear cbm fbm cbx dbx fbx gbx
  go_loopw [5] (fun v wr => ∃ i : Nat, v = .int .i64 (i : Nat) ∧ Hid (i ≤ ll) ∧ Hid (∀ j, j < i → (l).getD j (false, 0) ≠ (p, n)) ∧ Hid (Below w1.heap.size w1 wr)) (fun v wr => 20000 - (intOf v).toNat)
  case atStart => exact ⟨0, rfl, Lib.hid (Nat.zero_le _), Lib.hid (fun j hj => absurd hj (Nat.not_lt_zero _)), Lib.hid (Below.refl _ _)⟩
  case round =>
    obtain ⟨i, rfl, HI, HN, HY⟩ := hrel
    have u1 : IntKind.i64.wrap ((i : Int) + 1) = ((i + 1 : Nat) : Int) := by rw [IntKind.wrap_i64]; have := HI.out; have := HNL.out; omega
    replace HNbm := Lib.hid (blk_below HNbm.out HY.out)
    replace HNbx := Lib.hid (blk_below HNbx.out HY.out)
    replace HB := Lib.hid (HB.out.trans (HY.out.mono HB.out.size))
    by_cases h1 : i < ll
    · obtain ⟨g, o, hla, c0, c1⟩ := (HLI.out.below HY.out).at (i := i) h1
      subst hla
      have HH1 := Lib.hid h1
      obtain ⟨y, hy⟩ : ∃ y, y = (l).getD i (false, 0) := ⟨_, rfl⟩
      rw [← hy] at c0 c1
      have HYY := Lib.hid hy
      clear hy
      obtain ⟨q, k⟩ := y
      simp only [] at c0 c1
      have cbm := (one_cell HNbm.out).1
      have fbm := (one_cell HNbm.out).2
      have cbx := (two_cells HNbx.out).1
      have dbx := (two_cells HNbx.out).2.1
      have fbx := (two_cells HNbx.out).2.2.1
      have gbx := (two_cells HNbx.out).2.2.2
      by_cases he : (q, k) = (p, n)
      · have hq : ∀ w, (Op.equalIn 10000 43 (.agg #[.bool q, .int .i64 k]) (.agg #[.bool p, .int .i64 n])).run Try.prog w = .ok true w := fun w => by rw [eqRef, decide_eq_true he]
        have HE := Lib.hid he
        clear he
        go_upto_region 4 with (fail)
        go_quiet (fail)
        go_wp2
        go_ret
        have e9 : decide ((p, n) ∈ l) = true := decide_eq_true (by rw [← HE.out, HYY.out]; exact mem_at (by have := HH1.out; have := HLL.out; omega))
        exact ⟨by rw [e9]; rfl, below_drewN HB.out _⟩
      · have hq : ∀ w, (Op.equalIn 10000 43 (.agg #[.bool q, .int .i64 k]) (.agg #[.bool p, .int .i64 n])).run Try.prog w = .ok false w := fun w => by rw [eqRef, decide_eq_false he]
        have HE := Lib.hid he
        clear he
        go_upto_region 4 with (fail)
        go_quiet (fail)
        go_wp2
        go_roundw
        case rel => exact ⟨i + 1, by go_num, Lib.hid HH1.out, Lib.hid (fun j hj => by
          rcases (by omega : j < i ∨ j = i) with h | rfl
          · exact HN.out j h
          · exact fun e => HE.out (HYY.out.trans e)), Lib.hid (below_drewN HY.out _)⟩
        case measure => simp only [intOf]; have := HI.out; have := HNL.out; omega
    · have h2 : i = ll := by have := HI.out; omega
      have HKM := Lib.hid h2
      clear h2
      have cbm := (one_cell HNbm.out).1
      have fbm := (one_cell HNbm.out).2
      have cbx := (two_cells HNbx.out).1
      have dbx := (two_cells HNbx.out).2.1
      have fbx := (two_cells HNbx.out).2.2.1
      have gbx := (two_cells HNbx.out).2.2.2
      go_wp2
      go_ret
      have e9 : decide ((p, n) ∈ l) = false := decide_eq_false (not_mem_at fun j hj => HN.out j (by have := HKM.out; have := HLL.out; omega))
      exact ⟨by rw [e9]; rfl, HB.out⟩
end Go.Proofs.Ytjdfinimbdcmbaa.Lab
