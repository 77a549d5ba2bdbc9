/- The project's New, Len, Label, at, Line of a ring; slices.Clone of a row. The reference's May. -/
import Derived.Test.YtnefamgjlhdffaaRgMem
import Derived.Lib.SliceRun
set_option linter.unusedVariables false
namespace Go.Proofs.Ytnefamgjlhdffaa.Lab
open Go Go.RowKit

theorem new_ok (w : World) (n : Nat) (l : Int) (hn : n ≤ 1000) : Calls Try.prog 8 #[.int .i64 (n : Nat), .int .u8 l] w fun e w' => ∃ p, e = .returned (pV p) ∧ w.heap.size ≤ p ∧ Rg (fun j => j = p) w' p n [] l ∧ Below w.heap.size w w' := by
  have h1 : ¬ (n : Int) < 0 := by omega
  have h2 : ¬ (n : Int) > 1000 := by omega
  have HN := Lib.hid hn
  obtain ⟨w1, hw1⟩ : ∃ w1, w1 = w.alloc (.cells #[.int .i64 (n : Nat), .slice none 0 0, .int .i64 0, .int .u8 l] 73) := ⟨_, rfl⟩
  have HB := Lib.hid (show Below w.heap.size w w1 by rw [hw1]; exact (Below.refl _ _).alloc (Nat.le_refl _) _)
  have HR := Lib.hid (show RgAt (fun j => j = w.heap.size) w1 w.heap.size n (.slice none 0 0) [] 0 l from
    ⟨by rw [hw1]; exact heap_alloc_new w _, Rows1.nil _ _, rfl, fun j hj => by rw [hj, hw1]; simp, hn, Nat.zero_le _, ⟨Nat.zero_le _, fun h => h⟩, fun h => absurd h (by decide), fun _ h => by cases h⟩)
  clear hn
  go_enter Try.func8, Try.ntmps8
  go_wp2
  go_ret
  rw [← hw1]
  exact ⟨_, rfl, Nat.le_refl _, ⟨_, _, _, HR.out, rfl⟩, HB.out⟩
theorem new_no (w : World) (m : Int) (l : Int) (h : m < 0 ∨ 1000 < m) : Calls Try.prog 8 #[.int .i64 m, .int .u8 l] w fun e w' => e = .returned (.pointer none) ∧ w = w' := by
  rcases h with h | h
  · go_enter Try.func8, Try.ntmps8
    go_wp2
    go_ret
    exact ⟨rfl, rfl⟩
  · have h1 : ¬ m < 0 := by omega
    have h2 : m > 1000 := h
    clear h
    go_enter Try.func8, Try.ntmps8
    go_wp2
    go_ret
    exact ⟨rfl, rfl⟩
theorem may_any (w : World) (m : Int) : Calls Try.prog 9 #[.int .i64 m] w fun e w' => e = .returned (.bool (decide (0 ≤ m ∧ m ≤ 1000))) ∧ w = w' := by
  by_cases h0 : m ≥ 0
  · by_cases h1 : m ≤ 1000
    · rw [decide_eq_true (show 0 ≤ m ∧ m ≤ 1000 from ⟨h0, h1⟩)]
      go_enter Try.func9, Try.ntmps9
      go_wp2
      go_ret
      exact ⟨rfl, rfl⟩
    · rw [decide_eq_false (show ¬ (0 ≤ m ∧ m ≤ 1000) by omega)]
      go_enter Try.func9, Try.ntmps9
      go_wp2
      go_ret
      exact ⟨rfl, rfl⟩
  · rw [decide_eq_false (show ¬ (0 ≤ m ∧ m ≤ 1000) by omega)]
    go_enter Try.func9, Try.ntmps9
    go_wp2
    go_ret
    exact ⟨rfl, rfl⟩
theorem len_any (X : Nat → Prop) (w : World) (p n f : Nat) (v : Value) (H : List Ln) (l : Int) (h : RgAt X w p n v H f l) : Calls Try.prog 23 #[pV p] w fun e w' => e = .returned (.int .i64 (H.length : Nat)) ∧ w = w' := by
  obtain ⟨c0, c1, c2, c3⟩ := h.cells
  obtain ⟨a, c, e⟩ := own_shape h.rws.hds
  subst e
  clear h
  go_enter Try.func23, Try.ntmps23
  go_wp2
  go_ret
  exact ⟨rfl, rfl⟩
theorem len_nil (w : World) : Calls Try.prog 23 #[.pointer none] w fun e w' => e = .returned (.int .i64 0) ∧ w = w' := by
  go_enter Try.func23, Try.ntmps23
  go_wp2
  go_ret
  exact ⟨rfl, rfl⟩
theorem label_any (X : Nat → Prop) (w : World) (p n : Nat) (G : List Cls) (l : Int) (h : Rg X w p n G l) : Calls Try.prog 24 #[pV p] w fun e w' => e = .returned (.int .u8 l) ∧ w = w' := by
  obtain ⟨v, H, f, h, _⟩ := h
  obtain ⟨c0, c1, c2, c3⟩ := h.cells
  clear h
  go_enter Try.func24, Try.ntmps24
  go_wp2
  go_ret
  exact ⟨rfl, rfl⟩
theorem label_nil (w : World) : Calls Try.prog 24 #[.pointer none] w fun e w' => e = .returned (.int .u8 0) ∧ w = w' := by
  go_enter Try.func24, Try.ntmps24
  go_wp2
  go_ret
  exact ⟨rfl, rfl⟩
/-- The line at a place, oldest first. -/
def lnAt (H : List Ln) (f k : Nat) : Ln := (turnL f H).getD k ⟨undef, []⟩
theorem lnAt_mem {H : List Ln} {f k : Nat} (hk : k < H.length) : lnAt H f k ∈ H := by
  have : k < (turnL f H).length := by rw [turnL_len]; exact hk
  unfold lnAt
  rw [List.getD_eq_getElem?_getD, List.getElem?_eq_getElem this]
  exact (turnL_perm f H).mem_iff.1 (List.getElem_mem this)
theorem lnAt_R {H : List Ln} {f k : Nat} (hk : k < H.length) : (lnAt H f k).R = rowG (turnL f (rws H)) k := by
  have : k < (turnL f H).length := by rw [turnL_len]; exact hk
  unfold lnAt rowG rws
  rw [turnL_map, List.getD_eq_getElem?_getD, List.getD_eq_getElem?_getD, List.getElem?_map, List.getElem?_eq_getElem this]
  rfl
theorem lnAt_phys {H : List Ln} {f k : Nat} (hf : f ≤ H.length) (hk : k < H.length) : ∃ h : (f + k) % H.length < H.length, H[(f + k) % H.length] = lnAt H f k := by
  have hm : (f + k) % H.length < H.length := Nat.mod_lt _ (by omega)
  refine ⟨hm, ?_⟩
  unfold lnAt
  rw [List.getD_eq_getElem?_getD, turnL_get hf hk, List.getElem?_eq_getElem hm]
  rfl
set_option maxHeartbeats 2000000 in
theorem at_any (X : Nat → Prop) (w : World) (p n f k : Nat) (v : Value) (H : List Ln) (l : Int) (h : RgAt X w p n v H f l) (hk : k < H.length) : Calls Try.prog 45 #[pV p, .int .i64 (k : Nat)] w fun e w' => e = .returned (lnAt H f k).v ∧ Below w.heap.size w w' := by
  obtain ⟨c0, c1, c2, c3⟩ := h.cells
  obtain ⟨g, c, e, hc, hg, _, hh⟩ := h.rws.hds.get (by omega)
  subst e
  obtain ⟨hm, em⟩ := lnAt_phys h.first.1 hk
  have hq := hh _ hm
  rw [em] at hq
  obtain ⟨q, hqe⟩ : ∃ q, q = (f + k) % H.length := ⟨_, rfl⟩
  rw [← hqe] at hq hm
  obtain ⟨a, ca, ea⟩ := own_shape (h.rws.ok _ (lnAt_mem (f := f) hk))
  have hf := h.first.1
  have hn := h.n1
  have hl := h.len
  have u1 : IntKind.i64.wrap ((f : Int) + (k : Int)) = ((f + k : Nat) : Int) := by rw [IntKind.wrap_i64]; omega
  obtain ⟨s, hs⟩ : ∃ s, s = f + k := ⟨_, rfl⟩
  rw [← hs] at u1 hqe
  obtain ⟨m, hm'⟩ : ∃ m, m = H.length := ⟨_, rfl⟩
  rw [← hm'] at c1 hc hqe hm hk
  have u2 : ((s : Nat) : Int).tmod (m : Int) = (q : Int) := by rw [hqe]; rfl
  have u3 : IntKind.i64.wrap (q : Int) = (q : Int) := by rw [IntKind.wrap_i64]; omega
  have u4 : ¬ (m : Int) = 0 := by omega
  have u5 : ((s : Nat) : Int) % (m : Int) = (q : Int) := by rw [hqe]; rfl
  obtain ⟨u, hu⟩ : ∃ u, u = (lnAt H f k).v := ⟨_, rfl⟩
  rw [← hu] at hq ⊢
  clear h em hh hqe hs hm' hf hn hl ea hu hc
  go_enter Try.func45, Try.ntmps45
  go_upto_region 1 with (fail)
  go_quiet (fail)
  go_wp2
  go_ret
  exact ⟨rfl, below_drewN (Below.refl _ _) _⟩
set_option maxHeartbeats 2000000 in
theorem clone_any (w : World) (v : Value) (R : Cls) (h : RowIn w v R) (hl : R.length ≤ 10000) : Calls Try.prog 42 #[v] w fun e w' => ∃ u, e = .returned u ∧ CRow w' w.heap.size u R ∧ Below w.heap.size w w' := by
  obtain ⟨a, c, rfl⟩ := h.shape
  obtain ⟨n, hn⟩ : ∃ n, n = R.length := ⟨_, rfl⟩
  have q22 : ∀ (w : World) (a : Option Addr) (n c n' c' : Nat), (binOp .eql 38 (.slice a n c) (.slice none n' c')).run Try.prog w = .ok (.bool a.isNone) w := fun w a n c n' c' => Lib.run_eql_slice_nil w _ _ a n c n' c' Try.underlying38
  cases a with
  | none =>
    have h0 : R = [] := by
      obtain ⟨a, c', e, _, _, hh⟩ := h
      by_cases h0 : 0 < R.length
      · obtain ⟨g, o, ea, _⟩ := hh h0
        injection e with e1 _ _
        rw [ea] at e1
        cases e1
      · exact List.length_eq_zero_iff.1 (by omega)
    subst h0
    clear h hn
    go_enter Try.func42, Try.ntmps42
    go_wp2
    go_ret
    exact ⟨_, rfl, CRow.nil _ _, Below.refl _ _⟩
  | some ad =>
    obtain ⟨w1, hw1⟩ : ∃ w1, w1 = w.alloc (.cells #[] 47) := ⟨_, rfl⟩
    have b1 : Below w.heap.size w w1 := by rw [hw1]; exact (Below.refl _ _).alloc (Nat.le_refl _) _
    have HE := Lib.hid (show CRow w1 w.heap.size (.slice (some ⟨w.heap.size, 0, none⟩) 0 0) [] by rw [hw1]; exact CRow.empty w _ (Nat.le_refl _))
    have HR := Lib.hid (h.below b1)
    have HB := Lib.hid b1
    have HL := Lib.hid hl
    rw [← hn] at HR ⊢
    have HNL := Lib.hid hn
    clear h b1 hn hl
    go_enter Try.func42, Try.ntmps42
    go_wp2_with (at_builtin; rw [← hw1]; clear hw1; refine wpList_append_cells rfl (.tmp 5) (.tmp 6) rfl w.heap.size (.slice (some ⟨w.heap.size, 0, none⟩) 0 0) [] rfl HE.out (.slice (some ad) n c) R rfl HR.out (by have := HL.out; simp; omega) HB.out.size ?_)
    intro v' w2 own2 hnil grow2
    have HO := Lib.hid (show CRow w2 w.heap.size v' R from own2)
    have HB2 := Lib.hid (show Below w.heap.size w w2 from HB.out.grown grow2 HB.out.size (fun j hj => by simp [Value.ownBlock] at hj; omega))
    obtain ⟨a2, c2, e2⟩ := HO.out.shape
    subst e2
    clear own2 hnil grow2
    go_wp2
    go_ret
    exact ⟨_, rfl, HO.out, HB2.out⟩
def RowOut (w : World) (R : Cls) (e : Ending) (w' : World) : Prop := ∃ u, e = .returned (.tuple #[u, .bool true]) ∧ CRow w' w.heap.size u R ∧ Below w.heap.size w w'
set_option maxHeartbeats 2000000 in
theorem line_yes (X : Nat → Prop) (w : World) (p n k : Nat) (G : List Cls) (l : Int) (h : Rg X w p n G l) (hk : k < G.length) : Calls Try.prog 26 #[pV p, .int .i64 (k : Nat)] w (RowOut w (rowG G k)) := by
  have hrl := h.len.2.2
  obtain ⟨v, H, f, h, rfl⟩ := h
  have hkH : k < H.length := by rw [turnL_len, List.length_map] at hk; exact hk
  have hr := lnAt_R (f := f) hkH
  obtain ⟨x, hx⟩ : ∃ x, x = lnAt H f k := ⟨_, rfl⟩
  have HX := Lib.hid hx
  have hxm : x ∈ H := by rw [hx]; exact lnAt_mem hkH
  have HK := Lib.hid hkH
  have HR := Lib.hid h
  rw [← hx] at hr
  rw [← hr]
  have HO := Lib.hid (h.rws.ok x hxm)
  have HXL := Lib.hid (h.rowl x hxm)
  obtain ⟨m, hm⟩ : ∃ m, m = H.length := ⟨_, rfl⟩
  have HM := Lib.hid hm
  have g1 : ¬ (k : Int) < 0 := by omega
  have g2 : ¬ (k : Int) ≥ (m : Int) := by omega
  have g3 : ¬ m ≤ k := by omega
  clear h hk hkH hr hx hxm hrl hm
  go_enter Try.func26, Try.ntmps26
  go_wp2_with fail
  refine (len_any X w p n f v H l HR.out).mono ?_
  rintro e wx ⟨rfl, rfl⟩
  rw [← HM.out]
  go_wp2_with fail
  refine (at_any X w p n f k v H l HR.out HK.out).mono ?_
  rintro e w1 ⟨rfl, b1⟩
  rw [← HX.out]
  have HB1 := Lib.hid b1
  have HO1 := Lib.hid (HO.out.below b1)
  clear b1
  go_wp2_with fail
  refine (clone_any w1 _ _ HO1.out.row (by have := HXL.out; omega)).mono ?_
  rintro e w2 ⟨u, rfl, ow, b2⟩
  have HB2 := Lib.hid (HB1.out.trans (b2.mono HB1.out.size))
  have HO2 := Lib.hid (ow.lower HB1.out.size)
  clear ow b2
  go_wp2
  go_ret2
  exact ⟨_, rfl, HO2.out, HB2.out⟩
theorem line_low (w : World) (v : Value) (k : Int) (hk : k < 0) : Calls Try.prog 26 #[v, .int .i64 k] w fun e w' => e = .returned (.tuple #[.slice none 0 0, .bool false]) ∧ w = w' := by
  go_enter Try.func26, Try.ntmps26
  go_wp2
  go_ret2
  exact ⟨rfl, rfl⟩
theorem line_high (X : Nat → Prop) (w : World) (p n k : Nat) (G : List Cls) (l : Int) (h : Rg X w p n G l) (hk : G.length ≤ k) : Calls Try.prog 26 #[pV p, .int .i64 (k : Nat)] w fun e w' => e = .returned (.tuple #[.slice none 0 0, .bool false]) ∧ w = w' := by
  obtain ⟨v, H, f, h, rfl⟩ := h
  have hkH : H.length ≤ k := by rw [turnL_len, List.length_map] at hk; exact hk
  have HR := Lib.hid h
  obtain ⟨m, hm⟩ : ∃ m, m = H.length := ⟨_, rfl⟩
  have HM := Lib.hid hm
  have g1 : ¬ (k : Int) < 0 := by omega
  have g2 : (k : Int) ≥ (m : Int) := by omega
  have g3 : m ≤ k := by omega
  clear h hk hkH hm
  go_enter Try.func26, Try.ntmps26
  go_wp2_with fail
  refine (len_any X w p n f v H l HR.out).mono ?_
  rintro e wx ⟨rfl, rfl⟩
  rw [← HM.out]
  go_wp2
  go_ret2
  exact ⟨rfl, rfl⟩
theorem line_nil (w : World) (k : Nat) : Calls Try.prog 26 #[.pointer none, .int .i64 (k : Nat)] w fun e w' => e = .returned (.tuple #[.slice none 0 0, .bool false]) ∧ w = w' := by
  have g1 : ¬ (k : Int) < 0 := by omega
  have g2 : (k : Int) ≥ 0 := by omega
  go_enter Try.func26, Try.ntmps26
  go_wp2_with fail
  refine (len_nil w).mono ?_
  rintro e wx ⟨rfl, rfl⟩
  go_wp2
  go_ret2
  exact ⟨rfl, rfl⟩
end Go.Proofs.Ytnefamgjlhdffaa.Lab
