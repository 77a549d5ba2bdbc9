/- The project's isIn, canBe, Size, region; slices.Clone of a row, and of rows. The project's Size, region, Row. -/
import Derived.Test.YtdeahnphcfcfpaaGdMem
import Derived.Lib.SliceRun
namespace Go.Proofs.Ytdeahnphcfcfpaa.Lab
open Go Go.RowKit

abbrev gV (p : Nat) : Value := .pointer (some ⟨p, 0, none⟩)
abbrev rV (rb n c : Nat) : Value := .slice (some ⟨rb, 0, none⟩) n c
theorem kept_any (w : World) (p : Nat) (v : Value) (h : w.cell? ⟨p, 0, none⟩ = some v) : Calls Try.prog 47 #[gV p] w fun e w' => e = .returned v ∧ w = w' := by
  go_enter Try.func47, Try.ntmps47
  go_wp2
  go_ret
  exact ⟨rfl, rfl⟩
theorem kept_none (w : World) : Calls Try.prog 47 #[.pointer none] w fun e w' => e = .returned (.slice none 0 0) ∧ w = w' := by
  go_enter Try.func47, Try.ntmps47
  go_wp2
  go_ret
  exact ⟨rfl, rfl⟩
/-- The header at a place; any beyond. -/
def hdAt (H : List Hd) (k : Nat) : Hd := H.getD k ⟨0, 0, []⟩
theorem hdAt_eq {H : List Hd} {k : Nat} (h : k < H.length) : hdAt H k = H[k] := by
  unfold hdAt
  rw [List.getD_eq_getElem?_getD, List.getElem?_eq_getElem h]
  rfl
def isInB (n : Int) (m : Nat) : Bool := decide (0 ≤ n) && decide (n < m)
theorem isInB_true {n : Int} {m : Nat} (h : isInB n m = true) : ∃ k : Nat, n = (k : Int) ∧ k < m := by
  unfold isInB at h
  rw [Bool.and_eq_true, decide_eq_true_eq, decide_eq_true_eq] at h
  exact ⟨n.toNat, by omega, by omega⟩
theorem isInB_nat (k m : Nat) : isInB (k : Int) m = decide (k < m) := by
  unfold isInB
  rw [show decide ((0 : Int) ≤ (k : Int)) = true from decide_eq_true (by omega), Bool.true_and]
  exact decide_eq_decide.2 (by omega)
theorem isIn_any (w : World) (n : Int) (m : Nat) : Calls Try.prog 45 #[.int .i64 n, .int .i64 (m : Nat)] w fun e w' => e = .returned (.bool (isInB n m)) ∧ w = w' := by
  obtain ⟨q, hq⟩ : ∃ q, q = isInB n m := ⟨_, rfl⟩
  rw [← hq]
  unfold isInB at hq
  by_cases h0 : 0 ≤ n
  · by_cases h1 : n < m
    · obtain rfl : q = true := by rw [hq]; simp [h0, h1]
      clear hq
      go_enter Try.func45, Try.ntmps45
      go_wp2
      go_ret
      exact ⟨rfl, rfl⟩
    · obtain rfl : q = false := by rw [hq]; simp [h0, h1]
      clear hq
      go_enter Try.func45, Try.ntmps45
      go_wp2
      go_ret
      exact ⟨rfl, rfl⟩
  · obtain rfl : q = false := by rw [hq]; simp [h0]
    clear hq
    go_enter Try.func45, Try.ntmps45
    go_wp2
    go_ret
    exact ⟨rfl, rfl⟩
def canB (r c : Int) : Bool := decide (1 ≤ r) && decide (r ≤ 512) && decide (1 ≤ c) && decide (c ≤ 512)
theorem canB_true {r c : Int} (h : canB r c = true) : ∃ n m : Nat, r = (n : Int) ∧ c = (m : Int) ∧ 1 ≤ n ∧ n ≤ 512 ∧ 1 ≤ m ∧ m ≤ 512 := by
  unfold canB at h
  simp only [Bool.and_eq_true, decide_eq_true_eq] at h
  exact ⟨r.toNat, c.toNat, by omega, by omega, by omega, by omega, by omega, by omega⟩
theorem canBe_any (w : World) (r c : Int) : Calls Try.prog 42 #[.int .i64 r, .int .i64 c] w fun e w' => e = .returned (.bool (canB r c)) ∧ w = w' := by
  obtain ⟨q, hq⟩ : ∃ q, q = canB r c := ⟨_, rfl⟩
  rw [← hq]
  unfold canB at hq
  by_cases h0 : 1 ≤ r
  · by_cases h1 : r ≤ 512
    · by_cases h2 : 1 ≤ c
      · by_cases h3 : c ≤ 512
        · obtain rfl : q = true := by rw [hq]; simp [h0, h1, h2, h3]
          clear hq
          go_enter Try.func42, Try.ntmps42
          go_wp2
          go_ret
          exact ⟨rfl, rfl⟩
        · obtain rfl : q = false := by rw [hq]; simp [h3]
          clear hq
          go_enter Try.func42, Try.ntmps42
          go_wp2
          go_ret
          exact ⟨rfl, rfl⟩
      · obtain rfl : q = false := by rw [hq]; simp [h2]
        clear hq
        go_enter Try.func42, Try.ntmps42
        go_wp2
        go_ret
        exact ⟨rfl, rfl⟩
    · obtain rfl : q = false := by rw [hq]; simp [h1]
      clear hq
      go_enter Try.func42, Try.ntmps42
      go_wp2
      go_ret
      exact ⟨rfl, rfl⟩
  · obtain rfl : q = false := by rw [hq]; simp [h0]
    clear hq
    go_enter Try.func42, Try.ntmps42
    go_wp2
    go_ret
    exact ⟨rfl, rfl⟩
set_option maxRecDepth 100000 in
/-- A row of one's own. -/
theorem clone_any (w : World) (v : Value) (R : Cls) (h : RowIn w v R) (h0 : 0 < R.length) (hl : R.length ≤ 10000) : Calls Try.prog 48 #[v] w fun e w' => ∃ x : Hd, e = .returned (hdV x) ∧ x.R = R ∧ w.heap.size ≤ x.b ∧ CRow w' w.heap.size (hdV x) x.R ∧ Below w.heap.size w w' := by
  obtain ⟨g, o, c, rfl, _, _, _⟩ := h.open h0
  obtain ⟨n, hn⟩ : ∃ n, n = R.length := ⟨_, rfl⟩
  obtain ⟨w1, hw1⟩ : ∃ w1, w1 = w.alloc (.cells #[] 42) := ⟨_, rfl⟩
  have b1 : Below w.heap.size w w1 := by rw [hw1]; exact (Below.refl _ _).alloc (Nat.le_refl _) _
  have HE := Lib.hid (show CRow w1 w.heap.size (.slice (some ⟨w.heap.size, 0, none⟩) 0 0) [] by rw [hw1]; exact CRow.empty w _ (Nat.le_refl _))
  have HR := Lib.hid (h.below b1)
  have HB := Lib.hid b1
  have H0 := Lib.hid h0
  rw [← hn] at HR ⊢
  have HNL := Lib.hid hn
  clear h b1 hn h0
  have q22 : ∀ (w : World) (a : Option Addr) (n c n' c' : Nat), (binOp .eql 26 (.slice a n c) (.slice none n' c')).run Try.prog w = .ok (.bool a.isNone) w := fun w a n c n' c' => Lib.run_eql_slice_nil w _ _ a n c n' c' Try.underlying26
  go_enter Try.func48, Try.ntmps48
  go_wp2_with (at_builtin; rw [← hw1]; clear hw1; refine wpList_append_cells rfl (.tmp 5) (.tmp 6) rfl w.heap.size (.slice (some ⟨w.heap.size, 0, none⟩) 0 0) [] rfl HE.out (.slice (some ⟨g, o, none⟩) n c) R rfl HR.out (by simp; omega) HB.out.size ?_)
  intro v' w2 own2 hnil grow2
  have HO := Lib.hid (show CRow w2 w.heap.size v' R from own2)
  have HB2 := Lib.hid (show Below w.heap.size w w2 from HB.out.grown grow2 HB.out.size (fun j hj => by simp [Value.ownBlock] at hj; omega))
  obtain ⟨g2, c2, e2, hg2, _⟩ := HO.out.here H0.out
  rw [← HNL.out] at e2
  subst e2
  have HG := Lib.hid hg2
  clear own2 hnil grow2 hg2
  go_wp2
  go_ret
  have := HNL.out
  subst this
  exact ⟨⟨g2, c2, R⟩, rfl, rfl, HG.out, HO.out, HB2.out⟩
set_option maxRecDepth 100000 in
/-- Rows of one's own, of rows that stay where they are. -/
theorem hclone_any (w : World) (lo : Nat) (v : Value) (H : List Hd) (h : GIn w lo v H) (hl : H.length ≤ 10000) : Calls Try.prog 58 #[v] w fun e w' => ∃ v', e = .returned v' ∧ GRow w' lo w.heap.size v' H ∧ Below w.heap.size w w' := by
  obtain ⟨a, c, rfl⟩ := h.shape
  obtain ⟨n, hn⟩ : ∃ n, n = H.length := ⟨_, rfl⟩
  cases a with
  | none =>
    have h0 : H = [] := by
      obtain ⟨a, c', e, _, _, hh, _⟩ := h
      by_cases h0 : 0 < H.length
      · obtain ⟨g, o, ea, _⟩ := hh h0
        injection e with e1 _ _
        rw [ea] at e1
        cases e1
      · exact List.length_eq_zero_iff.1 (by omega)
    subst h0
    simp only [List.length_nil] at hn ⊢
    clear h hl
    have q22 : ∀ (w : World) (a : Option Addr) (n c n' c' : Nat), (binOp .eql 27 (.slice a n c) (.slice none n' c')).run Try.prog w = .ok (.bool a.isNone) w := fun w a n c n' c' => Lib.run_eql_slice_nil w _ _ a n c n' c' Try.underlying27
    go_enter Try.func58, Try.ntmps58
    go_wp2
    go_ret
    exact ⟨_, rfl, GRow.nil _ _ _, Below.refl _ _⟩
  | some ad =>
    obtain ⟨g, o, r⟩ := ad
    obtain ⟨w1, hw1⟩ : ∃ w1, w1 = w.alloc (.cells #[] 26) := ⟨_, rfl⟩
    have b1 : Below w.heap.size w w1 := by rw [hw1]; exact (Below.refl _ _).alloc (Nat.le_refl _) _
    have HE := Lib.hid (show GRow w1 lo w.heap.size (.slice (some ⟨w.heap.size, 0, none⟩) 0 0) [] by rw [hw1]; exact GRow.empty w _ _ (Nat.le_refl _))
    have HR := Lib.hid (h.below b1)
    have HB := Lib.hid b1
    rw [← hn] at HR ⊢
    have HNL := Lib.hid hn
    clear h b1 hn
    have q22 : ∀ (w : World) (a : Option Addr) (n c n' c' : Nat), (binOp .eql 27 (.slice a n c) (.slice none n' c')).run Try.prog w = .ok (.bool a.isNone) w := fun w a n c n' c' => Lib.run_eql_slice_nil w _ _ a n c n' c' Try.underlying27
    go_enter Try.func58, Try.ntmps58
    go_wp2_with (at_builtin; rw [← hw1]; clear hw1; refine wpList_append_hds rfl (.tmp 5) (.tmp 6) rfl lo w.heap.size (.slice (some ⟨w.heap.size, 0, none⟩) 0 0) [] rfl HE.out (.slice (some ⟨g, o, r⟩) n c) H rfl HR.out (by simp; omega) HB.out.size ?_)
    intro v' w2 own2 grow2
    have HO := Lib.hid (show GRow w2 lo w.heap.size v' H from own2)
    have HB2 := Lib.hid (show Below w.heap.size w w2 from HB.out.grown grow2 HB.out.size (fun j hj => by simp [Value.ownBlock] at hj; omega))
    obtain ⟨a2, c2, e2⟩ := HO.out.shape
    rw [← HNL.out] at e2
    subst e2
    clear own2 grow2
    go_wp2
    go_ret
    exact ⟨_, rfl, HO.out, HB2.out⟩

theorem GAt.head {w : World} {lo p rb c : Nat} {H : List Hd} (h : GAt w lo p rb c H) {i : Nat} (hi : i < H.length) : w.cell? ⟨rb, i, none⟩ = some (hdV (hdAt H i)) := by
  rw [hdAt_eq hi]
  exact h.2.2.at hi
theorem GAt.row {w : World} {lo p rb c : Nat} {H : List Hd} (h : GAt w lo p rb c H) {i : Nat} (hi : i < H.length) : CRow w lo (hdV (hdAt H i)) (hdAt H i).R := by
  rw [hdAt_eq hi]
  exact h.2.2.row hi
theorem size_any (w : World) (lo p rb c : Nat) (H : List Hd) (h : GAt w lo p rb c H) (h0 : 0 < H.length) : Calls Try.prog 22 #[gV p] w fun e w' => e = .returned (.tuple #[.int .i64 (H.length : Nat), .int .i64 ((hdAt H 0).R.length : Nat)]) ∧ Below w.heap.size w w' := by
  have hc := h.head h0
  have hk := h.cell
  obtain ⟨n, hn⟩ : ∃ n, n = H.length := ⟨_, rfl⟩
  obtain ⟨x, hx⟩ : ∃ x, x = hdAt H 0 := ⟨_, rfl⟩
  rw [← hx] at hc ⊢
  rw [← hn] at h0 hk ⊢
  have hz : ¬ n = 0 := by omega
  clear h hn hx
  go_enter Try.func22, Try.ntmps22
  go_wp2_with fail
  refine (kept_any w p _ hk).mono ?_
  rintro e w' ⟨rfl, rfl⟩
  go_wp2
  go_quiet (fail)
  go_wp2
  go_ret2
  exact ⟨rfl, rfl, rfl, rfl, Nat.le_refl _, fun _ _ => rfl⟩
theorem size_none (w : World) : Calls Try.prog 22 #[.pointer none] w fun e w' => e = .returned (.tuple #[.int .i64 0, .int .i64 0]) ∧ w = w' := by
  go_enter Try.func22, Try.ntmps22
  go_wp2_with fail
  refine (kept_none w).mono ?_
  rintro e w' ⟨rfl, rfl⟩
  go_wp2
  go_ret2
  exact ⟨rfl, rfl⟩
/-- Is it a region? -/
def regB (n : Nat) (t b : Int) : Bool := decide (0 ≤ t) && decide (t ≤ b) && decide (b < n)
theorem regB_true {n : Nat} {t b : Int} (h : regB n t b = true) : ∃ i j : Nat, t = (i : Int) ∧ b = (j : Int) ∧ i ≤ j ∧ j < n := by
  unfold regB at h
  simp only [Bool.and_eq_true, decide_eq_true_eq] at h
  exact ⟨t.toNat, b.toNat, by omega, by omega, by omega, by omega⟩
theorem region_yes (w : World) (p rb n c i j : Nat) (h : w.cell? ⟨p, 0, none⟩ = some (rV rb n c)) (hij : i ≤ j) (hj : j < n) (hc : n ≤ c) (hm : c ≤ maxLen) : Calls Try.prog 57 #[gV p, .int .i64 (i : Nat), .int .i64 (j : Nat)] w fun e w' => e = .returned (.slice (some ⟨rb, i, none⟩) (j + 1 - i) (j + 1 - i)) ∧ w = w' := by
  have hs : ∀ w, (Instr.sliceAt 27 (rV rb n c) (some (.int .i64 (i : Nat))) (some (.int .i64 ((j : Int) + 1))) (some (.int .i64 ((j : Int) + 1)))).run Try.prog w = .ok (.slice (some ⟨rb, i, none⟩) (j + 1 - i) (j + 1 - i)) w := fun w => by
    have := hds_cut rb 0 n c i (j + 1) (by omega) (by omega) w
    rw [Nat.zero_add] at this
    rw [← this]
    rfl
  have hw : IntKind.i64.wrap ((j : Int) + 1) = (j : Int) + 1 := by rw [IntKind.wrap_i64]; unfold maxLen at hm; omega
  have HS := Lib.hid hs
  have d1 : decide ((i : Int) < 0) = false := decide_eq_false (by omega)
  have d2 : decide ((j : Int) < (i : Int)) = false := decide_eq_false (by omega)
  have d2' : decide (j < i) = false := decide_eq_false (by omega)
  have d3 : decide ((n : Int) ≤ (j : Int)) = false := decide_eq_false (by omega)
  have d3' : decide (n ≤ j) = false := decide_eq_false (by omega)
  have e1 : ¬ (i : Int) < 0 := by omega
  have e2 : ¬ j < i := by omega
  have e3 : ¬ n ≤ j := by omega
  clear hij hj hc hm
  go_enter Try.func57, Try.ntmps57
  go_wp2_with fail
  refine (kept_any w p _ h).mono ?_
  rintro e w' ⟨rfl, rfl⟩
  go_wp2
  go_ret
  exact ⟨rfl, rfl⟩
theorem region_no (w : World) (p n c : Nat) (a : Option Addr) (t b : Int) (h : w.cell? ⟨p, 0, none⟩ = some (.slice a n c)) (hr : regB n t b = false) : Calls Try.prog 57 #[gV p, .int .i64 t, .int .i64 b] w fun e w' => e = .returned (.slice none 0 0) ∧ w = w' := by
  unfold regB at hr
  by_cases h1 : 0 ≤ t
  · by_cases h2 : t ≤ b
    · have h3 : ¬ b < n := by simpa [h1, h2] using hr
      have e1 : ¬ t < 0 := by omega
      have e2 : ¬ b < t := by omega
      have e3 : (n : Int) ≤ b := by omega
      clear hr h1 h2 h3
      go_enter Try.func57, Try.ntmps57
      go_wp2_with fail
      refine (kept_any w p _ h).mono ?_
      rintro e w' ⟨rfl, rfl⟩
      go_wp2
      go_ret
      exact ⟨rfl, rfl⟩
    · have e1 : ¬ t < 0 := by omega
      have e2 : b < t := by omega
      clear hr h1 h2
      go_enter Try.func57, Try.ntmps57
      go_wp2_with fail
      refine (kept_any w p _ h).mono ?_
      rintro e w' ⟨rfl, rfl⟩
      go_wp2
      go_ret
      exact ⟨rfl, rfl⟩
  · have e1 : t < 0 := by omega
    clear hr h1
    go_enter Try.func57, Try.ntmps57
    go_wp2_with fail
    refine (kept_any w p _ h).mono ?_
    rintro e w' ⟨rfl, rfl⟩
    go_wp2
    go_ret
    exact ⟨rfl, rfl⟩
theorem row_yes (w : World) (lo p rb c k : Nat) (H : List Hd) (h : GAt w lo p rb c H) (hk : k < H.length) (hR : 0 < (hdAt H k).R.length ∧ (hdAt H k).R.length ≤ 1000) : Calls Try.prog 16 #[gV p, .int .i64 (k : Nat)] w fun e w' => ∃ x : Hd, e = .returned (hdV x) ∧ x.R = (hdAt H k).R ∧ w.heap.size ≤ x.b ∧ CRow w' w.heap.size (hdV x) x.R ∧ Below w.heap.size w w' := by
  have hc := h.head hk
  have hkk := h.cell
  have HR := Lib.hid (h.row hk).row
  have HL := Lib.hid hR
  obtain ⟨n, hn⟩ : ∃ n, n = H.length := ⟨_, rfl⟩
  obtain ⟨x, hx⟩ : ∃ x, x = hdAt H k := ⟨_, rfl⟩
  rw [← hx] at hc HR HL ⊢
  rw [← hn] at hk hkk
  have HB := Lib.hid (show isInB (k : Nat) n = true by rw [isInB_nat]; exact decide_eq_true hk)
  have hk' : (k : Int) < (n : Int) := by omega
  clear h hn hx hR
  go_enter Try.func16, Try.ntmps16
  go_wp2_with fail
  refine (kept_any w p _ hkk).mono ?_
  rintro e w' ⟨rfl, rfl⟩
  go_wp2_with fail
  refine (isIn_any w (k : Nat) n).mono ?_
  rintro e w' ⟨rfl, rfl⟩
  rw [HB.out]
  go_wp2_with fail
  refine (clone_any w _ _ HR.out HL.out.1 (by have := HL.out.2; omega)).mono ?_
  rintro e w1 ⟨y, rfl, hyR, hyb, own1, b1⟩
  have HY := Lib.hid hyR
  have HYB := Lib.hid hyb
  have HO := Lib.hid own1
  have HBB := Lib.hid b1
  clear hyR hyb own1 b1 hc hkk hk'
  go_wp2
  go_ret
  exact ⟨y, rfl, HY.out, HYB.out, HO.out, HBB.out⟩
theorem row_no (w : World) (p n c : Nat) (a : Option Addr) (k : Int) (h : w.cell? ⟨p, 0, none⟩ = some (.slice a n c)) (hk : isInB k n = false) : Calls Try.prog 16 #[gV p, .int .i64 k] w fun e w' => e = .returned (.slice none 0 0) ∧ w = w' := by
  have HB := Lib.hid hk
  clear hk
  go_enter Try.func16, Try.ntmps16
  go_wp2_with fail
  refine (kept_any w p _ h).mono ?_
  rintro e w' ⟨rfl, rfl⟩
  go_wp2_with fail
  refine (isIn_any w k n).mono ?_
  rintro e w' ⟨rfl, rfl⟩
  rw [HB.out]
  go_wp2
  go_ret
  exact ⟨rfl, rfl⟩
end Go.Proofs.Ytdeahnphcfcfpaa.Lab
