/- The chapter's examples; ends; all columns; none: TabsKnown. -/
import Derived.Test.YtmdpdogjpdkanaaTbWorks
set_option linter.unusedVariables false
namespace Go.Proofs.Ytmdpdogjpdkanaa.Lab
open Go Go.RowKit Go.Shelf

def Q0 : Tb := Tb.zero
theorem Q0_ok : Q0.Ok := ⟨by decide +kernel, by decide, by decide⟩
def Q1 : Tb := newM 1 0
theorem Q1_ok : Q1.Ok := ⟨by decide +kernel, by decide, by decide⟩
theorem Qc0 (w : World) : Calls Try.prog 9 #[.int .i64 1, .int .u8 0] w fun e w' => e = .returned (tbV Q1) ∧ Below w.heap.size w w' := by
  have h := new_any 1 0 w
  rw [show newM 1 0 = Q1 by decide +kernel] at h
  exact h
def Q2 : Tb := newM 513 1
theorem Q2_ok : Q2.Ok := ⟨by decide +kernel, by decide, by decide⟩
theorem Qc1 (w : World) : Calls Try.prog 9 #[.int .i64 513, .int .u8 1] w fun e w' => e = .returned (tbV Q2) ∧ Below w.heap.size w w' := by
  have h := new_any 513 1 w
  rw [show newM 513 1 = Q2 by decide +kernel] at h
  exact h
def Q3 : Tb := ⟨List.replicate 512 true, 1, 1⟩
theorem Q3_ok : Q3.Ok := ⟨by decide +kernel, by decide, by decide⟩
theorem Qc2 (w : World) : Calls Try.prog 18 #[tbV Q3] w fun e w' => e = .returned (.int .i64 512) ∧ Below w.heap.size w w' := by
  have h := cols_any Q3 w
  rw [show Q3.L.length = 512 by decide +kernel] at h
  exact h
theorem Qc3 (w : World) : Calls Try.prog 15 #[tbV Q3] w fun e w' => ∃ gg oo c, e = .returned (.slice (some ⟨gg, oo, none⟩) 512 c) ∧ w'.cell? ⟨gg, oo + 511, none⟩ = some (.int .i64 511) ∧ Below w.heap.size w w' := by
  refine (list_any Q3 Q3_ok.len w).mono ?_
  rintro e w' ⟨v, rfl, ow, b⟩
  have hI := isIn_of ow
  have hl : (is (stops Q3.L)).length = 512 := by rw [List.length_map]; decide +kernel
  obtain ⟨a, c, rfl⟩ := hI.shape
  obtain ⟨gg, oo, rfl, hc⟩ := hI.get (i := 511) (by rw [hl]; decide)
  rw [hl]
  refine ⟨gg, oo, c, rfl, ?_, b⟩
  rw [hc]
  have : (is (stops Q3.L))[511]? = some 511 := by decide +kernel
  rw [List.getElem?_eq_getElem (by rw [hl]; decide)] at this
  rw [Option.some.inj this]
theorem Qc4 (w : World) : Calls Try.prog 17 #[tbV Q3] w fun e w' => e = .returned (.int .u8 1) ∧ Below w.heap.size w w' := label_any Q3 w
def Q4 : Tb := Q3.none
theorem Q4_ok : Q4.Ok := ⟨by decide +kernel, by decide, by decide⟩
theorem Qc5 (w : World) : Calls Try.prog 32 #[tbV Q3] w fun e w' => e = .returned (tbV Q4) ∧ Below w.heap.size w w' := by
  have h := none_any Q3 w
  rw [show Q3.none = Q4 by decide +kernel] at h
  exact h
theorem Qc6 (w : World) : Calls Try.prog 17 #[tbV Q4] w fun e w' => e = .returned (.int .u8 1) ∧ Below w.heap.size w w' := label_any Q4 w
theorem Qc7 (w : World) : Calls Try.prog 20 #[tbV Q3, .int .i64 510, .int .i64 1] w fun e w' => e = .returned (.int .i64 511) ∧ Below w.heap.size w w' := by
  have h := next_any Q3 Q3_ok.len 510 1 (by decide) w
  rw [show nextM Q3.L 510 1 = 511 by decide +kernel] at h
  exact h
theorem Qc8 (w : World) : Calls Try.prog 20 #[tbV Q3, .int .i64 (-5), .int .i64 1] w fun e w' => e = .returned (.int .i64 0) ∧ Below w.heap.size w w' := by
  have h := next_any Q3 Q3_ok.len (-5) 1 (by decide) w
  rw [show nextM Q3.L (-5) 1 = 0 by decide +kernel] at h
  exact h
theorem Qc9 (w : World) : Calls Try.prog 20 #[tbV Q3, .int .i64 600, .int .i64 1] w fun e w' => e = .returned (.int .i64 511) ∧ Below w.heap.size w w' := by
  have h := next_any Q3 Q3_ok.len 600 1 (by decide) w
  rw [show nextM Q3.L 600 1 = 511 by decide +kernel] at h
  exact h
theorem Qc10 (w : World) : Calls Try.prog 20 #[tbV Q3, .int .i64 600, .int .i64 0] w fun e w' => e = .returned (.int .i64 511) ∧ Below w.heap.size w w' := by
  have h := next_any Q3 Q3_ok.len 600 0 (by decide) w
  rw [show nextM Q3.L 600 0 = 511 by decide +kernel] at h
  exact h
theorem Qc11 (w : World) : Calls Try.prog 22 #[tbV Q3, .int .i64 (-5), .int .i64 1] w fun e w' => e = .returned (.int .i64 0) ∧ Below w.heap.size w w' := by
  have h := back_any Q3 Q3_ok.len (-5) 1 (by decide) w
  rw [show backM Q3.L (-5) 1 = 0 by decide +kernel] at h
  exact h
theorem Qc12 (w : World) : Calls Try.prog 22 #[tbV Q3, .int .i64 600, .int .i64 1] w fun e w' => e = .returned (.int .i64 511) ∧ Below w.heap.size w w' := by
  have h := back_any Q3 Q3_ok.len 600 1 (by decide) w
  rw [show backM Q3.L 600 1 = 511 by decide +kernel] at h
  exact h
theorem Qc13 (w : World) : Calls Try.prog 20 #[tbV Q3, .int .i64 63, .int .i64 2] w fun e w' => e = .returned (.int .i64 65) ∧ Below w.heap.size w w' := by
  have h := next_any Q3 Q3_ok.len 63 2 (by decide) w
  rw [show nextM Q3.L 63 2 = 65 by decide +kernel] at h
  exact h
theorem Qc14 (w : World) : Calls Try.prog 22 #[tbV Q3, .int .i64 65, .int .i64 2] w fun e w' => e = .returned (.int .i64 63) ∧ Below w.heap.size w w' := by
  have h := back_any Q3 Q3_ok.len 65 2 (by decide) w
  rw [show backM Q3.L 65 2 = 63 by decide +kernel] at h
  exact h
theorem Qc15 (w : World) : Calls Try.prog 20 #[tbV Q0, .int .i64 3, .int .i64 1] w fun e w' => e = .returned (.int .i64 0) ∧ Below w.heap.size w w' := by
  have h := next_any Q0 Q0_ok.len 3 1 (by decide) w
  rw [show nextM Q0.L 3 1 = 0 by decide +kernel] at h
  exact h
theorem Qc16 (w : World) : Calls Try.prog 22 #[tbV Q0, .int .i64 3, .int .i64 1] w fun e w' => e = .returned (.int .i64 0) ∧ Below w.heap.size w w' := by
  have h := back_any Q0 Q0_ok.len 3 1 (by decide) w
  rw [show backM Q0.L 3 1 = 0 by decide +kernel] at h
  exact h
theorem Qc17 (w : World) : Calls Try.prog 15 #[tbV Q0] w fun e w' => ∃ a c, e = .returned (.slice a 0 c) ∧ IsIn w' (.slice a 0 c) [] ∧ Below w.heap.size w w' := by
  refine (list_any Q0 Q0_ok.len w).mono ?_
  rintro e w' ⟨v, rfl, ow, b⟩
  have hI := isIn_of ow
  rw [show is (stops Q0.L) = [] by decide +kernel] at hI
  obtain ⟨a, c, rfl⟩ := hI.shape
  exact ⟨a, c, rfl, hI, b⟩
theorem Qc18 (w : World) : Calls Try.prog 20 #[tbV Q0, .int .i64 3, .int .i64 0] w fun e w' => e = .returned (.int .i64 0) ∧ Below w.heap.size w w' := by
  have h := next_any Q0 Q0_ok.len 3 0 (by decide) w
  rw [show nextM Q0.L 3 0 = 0 by decide +kernel] at h
  exact h
theorem Qc19 (w : World) : Calls Try.prog 19 #[tbV Q0, .int .i64 0] w fun e w' => e = .returned (.bool false) ∧ Below w.heap.size w w' := has_val Q0 Q0_ok 0 false (by decide +kernel) w
theorem Qc20 (w : World) : Calls Try.prog 9 #[.int .i64 (-4), .int .u8 0] w fun e w' => e = .returned (tbV Q0) ∧ Below w.heap.size w w' := by
  have h := new_any (-4) 0 w
  rw [show newM (-4) 0 = Q0 by decide +kernel] at h
  exact h
theorem Qc21 (w : World) : Calls Try.prog 18 #[tbV Q0] w fun e w' => e = .returned (.int .i64 0) ∧ Below w.heap.size w w' := by
  have h := cols_any Q0 w
  rw [show Q0.L.length = 0 by decide +kernel] at h
  exact h
theorem Qc22 (w : World) : Calls Try.prog 20 #[tbV Q1, .int .i64 0, .int .i64 1] w fun e w' => e = .returned (.int .i64 0) ∧ Below w.heap.size w w' := by
  have h := next_any Q1 Q1_ok.len 0 1 (by decide) w
  rw [show nextM Q1.L 0 1 = 0 by decide +kernel] at h
  exact h
theorem Qc23 (w : World) : Calls Try.prog 15 #[tbV Q1] w fun e w' => ∃ a c, e = .returned (.slice a 0 c) ∧ IsIn w' (.slice a 0 c) [] ∧ Below w.heap.size w w' := by
  refine (list_any Q1 Q1_ok.len w).mono ?_
  rintro e w' ⟨v, rfl, ow, b⟩
  have hI := isIn_of ow
  rw [show is (stops Q1.L) = [] by decide +kernel] at hI
  obtain ⟨a, c, rfl⟩ := hI.shape
  exact ⟨a, c, rfl, hI, b⟩
theorem Qc24 (w : World) : Calls Try.prog 26 #[tbV Q1, .int .u8 0, .slice (some ⟨w.heap.size, 0, none⟩) 2 2] (w.alloc (.cells #[.int .i64 1, .int .i64 (-1)] 3)) fun e w' => e = .returned (tbV Q1) ∧ Below w.heap.size w w' := by
  have h := set_any Q1 Q1_ok 0 (by decide) _ [1, (-1)] _ (lit_in w [1, (-1)]) (by decide)
  rw [show Q1.put true 0 [1, (-1)] = Q1 by decide +kernel] at h
  exact h.mono (fun e w' q => ⟨q.1, (lit_below w [1, (-1)]).trans (q.2.mono (lit_below w [1, (-1)]).size)⟩)
theorem Qc25 (w : World) : Calls Try.prog 19 #[tbV Q1, .int .i64 1] w fun e w' => e = .returned (.bool false) ∧ Below w.heap.size w w' := has_val Q1 Q1_ok 1 false (by decide +kernel) w
def Q5 : Tb := Q1.put true 0 [0]
theorem Q5_ok : Q5.Ok := ⟨by decide +kernel, by decide, by decide⟩
theorem Qc26 (w : World) : Calls Try.prog 26 #[tbV Q1, .int .u8 0, .slice (some ⟨w.heap.size, 0, none⟩) 1 1] (w.alloc (.cells #[.int .i64 0] 3)) fun e w' => e = .returned (tbV Q5) ∧ Below w.heap.size w w' := by
  have h := set_any Q1 Q1_ok 0 (by decide) _ [0] _ (lit_in w [0]) (by decide)
  rw [show Q1.put true 0 [0] = Q5 by decide +kernel] at h
  exact h.mono (fun e w' q => ⟨q.1, (lit_below w [0]).trans (q.2.mono (lit_below w [0]).size)⟩)
theorem Qc27 (w : World) : Calls Try.prog 19 #[tbV Q5, .int .i64 0] w fun e w' => e = .returned (.bool true) ∧ Below w.heap.size w w' := has_val Q5 Q5_ok 0 true (by decide +kernel) w
def Q6 : Tb := newM 9 0
theorem Q6_ok : Q6.Ok := ⟨by decide +kernel, by decide, by decide⟩
theorem Qc28 (w : World) : Calls Try.prog 9 #[.int .i64 9, .int .u8 0] w fun e w' => e = .returned (tbV Q6) ∧ Below w.heap.size w w' := by
  have h := new_any 9 0 w
  rw [show newM 9 0 = Q6 by decide +kernel] at h
  exact h
theorem Qc29 (w : World) : Calls Try.prog 19 #[tbV Q6, .int .i64 8] w fun e w' => e = .returned (.bool true) ∧ Below w.heap.size w w' := has_val Q6 Q6_ok 8 true (by decide +kernel) w
def Q7 : Tb := newM 64 0
theorem Q7_ok : Q7.Ok := ⟨by decide +kernel, by decide, by decide⟩
theorem Qc30 (w : World) : Calls Try.prog 9 #[.int .i64 64, .int .u8 0] w fun e w' => e = .returned (tbV Q7) ∧ Below w.heap.size w w' := by
  have h := new_any 64 0 w
  rw [show newM 64 0 = Q7 by decide +kernel] at h
  exact h
def Q8 : Tb := Q7.put false 0 [8, 16, 24, 32, 40, 48, 56]
theorem Q8_ok : Q8.Ok := ⟨by decide +kernel, by decide, by decide⟩
theorem Qc31 (w : World) : Calls Try.prog 28 #[tbV Q7, .int .u8 0, .slice (some ⟨w.heap.size, 0, none⟩) 7 7] (w.alloc (.cells #[.int .i64 8, .int .i64 16, .int .i64 24, .int .i64 32, .int .i64 40, .int .i64 48, .int .i64 56] 3)) fun e w' => e = .returned (tbV Q8) ∧ Below w.heap.size w w' := by
  have h := clear_any Q7 Q7_ok 0 (by decide) _ [8, 16, 24, 32, 40, 48, 56] _ (lit_in w [8, 16, 24, 32, 40, 48, 56]) (by decide)
  rw [show Q7.put false 0 [8, 16, 24, 32, 40, 48, 56] = Q8 by decide +kernel] at h
  exact h.mono (fun e w' q => ⟨q.1, (lit_below w [8, 16, 24, 32, 40, 48, 56]).trans (q.2.mono (lit_below w [8, 16, 24, 32, 40, 48, 56]).size)⟩)
theorem Qc32 (w : World) : Calls Try.prog 32 #[tbV Q7] w fun e w' => e = .returned (tbV Q8) ∧ Below w.heap.size w w' := by
  have h := none_any Q7 w
  rw [show Q7.none = Q8 by decide +kernel] at h
  exact h
theorem Qc33 (w : World) : (Op.equalIn 10000 TB (tbV Q8) (tbV Q8)).run Try.prog w = .ok true w := by
  rw [eqTb Q8 Q8 Q8_ok w]
  congr 1 <;> decide +kernel
def allN (n i : Nat) : List Bool := (List.range n).map (fun j => firstB j || decide (j < i))
def allK (i : Nat) : Tb := ⟨allN 512 i, 1, 1⟩
theorem len_allN (n i : Nat) : (allN n i).length = n := by simp [allN]
theorem allK_ok (i : Nat) : (allK i).Ok := ⟨by unfold allK; rw [len_allN]; exact Nat.le_refl _, Nat.le_refl _, Nat.le_refl _⟩
theorem getD_allN (n i j : Nat) (hj : j < n) : (allN n i).getD j false = (firstB j || decide (j < i)) := by
  unfold allN
  rw [List.getD_eq_getElem?_getD, List.getElem?_map, List.getElem?_range hj]
  rfl
theorem allN_more (n i : Nat) : putL true (allN n i) [(i : Int)] = allN n (i + 1) := by
  refine bools_ext (by rw [len_putL, len_allN, len_allN]) fun j hj => ?_
  have hj2 : j < n := by rw [len_putL, len_allN] at hj; exact hj
  show (putB true (allN n i) (i : Int)).getD j false = _
  rw [getD_putB, getD_allN _ _ _ hj2, getD_allN _ _ _ hj2, len_allN]
  by_cases e : (i : Int) = (j : Int)
  · obtain rfl : i = j := by omega
    simp [hj2]
  · rw [if_neg (fun q => e q.1)]
    congr 1
    rw [Bool.eq_iff_iff]
    simp only [decide_eq_true_eq]
    omega
theorem allK_start : allK 0 = Q2 := by decide +kernel
theorem allK_end : allK 600 = Q3 := by decide +kernel
theorem allT (n i : Nat) : Tb.put ⟨allN n i, 1, 1⟩ true 0 [(i : Int)] = ⟨allN n (i + 1), 1, 1⟩ := by
  unfold Tb.put
  simp only [allN_more]
  rfl
theorem allK_more (i : Nat) : (allK i).put true 0 [(i : Int)] = allK (i + 1) := allT 512 i
set_option maxHeartbeats 8000000 in
set_option maxRecDepth 100000 in
theorem tabsKnown_walk (w : World) : Calls Try.prog 8 #[] w fun e w' => e = .returned (.bool true) ∧ Below w.heap.size w w' := by
  go_enter Try.func8, Try.ntmps8
  go_wp2_with fail
  refine (works_any _).mono ?_
  rintro e y1 ⟨rfl, bb⟩
  have HB := Lib.hid bb
  clear bb
  obtain ⟨b1, hb1⟩ : ∃ b, b = y1.heap.size := ⟨_, rfl⟩
  obtain ⟨y2, hy2⟩ : ∃ x, x = y1.alloc (.cells #[.int .u64 0, .int .u64 0, .int .u64 0, .int .u64 0, .int .u64 0, .int .u64 0, .int .u64 0, .int .u64 0, .int .i64 0, .int .u8 0, .int .u8 0] TB) := ⟨_, rfl⟩
  have bb : Below y1.heap.size y1 y2 := by rw [hy2]; exact (Below.refl _ _).alloc (Nat.le_refl _) _
  have HT1 := Lib.hid (show TbAt y2 b1 Q0 by unfold TbAt; rw [hy2, hb1]; rw [show tbC Q0 = #[.int .u64 0, .int .u64 0, .int .u64 0, .int .u64 0, .int .u64 0, .int .u64 0, .int .u64 0, .int .u64 0, .int .i64 0, .int .u8 0, .int .u8 0] from zero_cells]; exact World.alloc_heap_new y1 _)
  replace HB := Lib.hid (HB.out.trans (bb.mono HB.out.size))
  clear bb
  go_upto_region 4 with (fail)
  rw [← hy2, ← hb1]
  clear hy2 hb1
  go_wp2_with fail
  refine (Qc1 _).mono ?_
  rintro e y3 ⟨rfl, bb⟩
  replace HB := Lib.hid (HB.out.trans (bb.mono HB.out.size))
  replace HT1 := Lib.hid (HT1.out.below bb)
  have HL1 := Lib.hid HT1.out.lt
  have HW3 := Lib.hid HB.out.size
  clear bb
  obtain ⟨b2, hb2⟩ : ∃ b, b = y3.heap.size := ⟨_, rfl⟩
  obtain ⟨y4, hy4⟩ : ∃ x, x = y3.alloc (.cells (tbC Q2) TB) := ⟨_, rfl⟩
  have bb : Below y3.heap.size y3 y4 := by rw [hy4]; exact (Below.refl _ _).alloc (Nat.le_refl _) _
  have HT2 := Lib.hid (show TbAt y4 b2 Q2 by unfold TbAt; rw [hy4, hb2]; exact World.alloc_heap_new y3 _)
  replace HB := Lib.hid (HB.out.trans (bb.mono HB.out.size))
  replace HT1 := Lib.hid (HT1.out.below bb)
  have HL2 := Lib.hid (show b1 < b2 by rw [hb2]; exact HL1.out)
  have HWB := Lib.hid (show w.heap.size ≤ b2 by rw [hb2]; exact HW3.out)
  clear bb
  go_upto_region 5 with (fail)
  rw [← hy4, ← hb2]
  clear hy4 hb2
  rw [← allK_start] at HT2
  go_wp2
  go_loopw [3] (fun v wr => ∃ i : Nat, v = .int .i64 (i : Nat) ∧ Hid (i ≤ 600) ∧ Hid (Below w.heap.size w wr ∧ TbAt wr b1 Q0 ∧ TbAt wr b2 (allK i))) (fun v wr => 700 - (intOf v).toNat)
  case atStart => exact ⟨0, rfl, Lib.hid (Nat.zero_le _), Lib.hid ⟨HB.out, HT1.out, HT2.out⟩⟩
  case round =>
    obtain ⟨i, rfl, HI, HK⟩ := hrel
    clear HB HT1 HT2
    obtain ⟨t, ht⟩ : ∃ t, t = allK i := ⟨_, rfl⟩
    have HTE := Lib.hid ht
    obtain ⟨u, hu⟩ : ∃ u, u = allK (i + 1) := ⟨_, rfl⟩
    have HUE := Lib.hid hu
    have HK2 := Lib.hid HK.out.2.2
    rw [← ht] at HK2
    have HSE := Lib.hid (fun w => show Calls Try.prog 26 #[tbV t, .int .u8 0, .slice (some ⟨w.heap.size, 0, none⟩) 1 1] (w.alloc (.cells #[.int .i64 (i : Nat)] 3)) (fun e w' => e = .returned (tbV u) ∧ Below w.heap.size w w') by
      have h := set_any t (by rw [HTE.out]; exact allK_ok i) 0 (by decide) _ [(i : Int)] _ (lit_in w [(i : Int)]) (by simp)
      rw [show t.put true 0 [(i : Int)] = u by rw [HTE.out, HUE.out]; exact allK_more i] at h
      exact h.mono (fun e w' q => ⟨q.1, (lit_below w [(i : Int)]).trans (q.2.mono (lit_below w [(i : Int)]).size)⟩))
    clear ht hu
    by_cases hlt : i < 600
    · have g1 : (i : Int) < 600 := by omega
      have HLT := Lib.hid hlt
      have u1 : IntKind.i64.wrap ((i : Int) + 1) = ((i + 1 : Nat) : Int) := by rw [IntKind.wrap_i64]; omega
      obtain ⟨c0, c1, c2, c3, c4, c5, c6, c7, c8, c9, c10⟩ := HK2.out.cells
      go_wp2_with fail
      refine (HSE.out _).mono ?_
      rintro e y5 ⟨rfl, b5⟩
      have HB5 := Lib.hid b5
      have HT5 := Lib.hid (HK2.out.below b5)
      clear b5 c0 c1 c2 c3 c4 c5 c6 c7 c8 c9 c10 HSE
      obtain ⟨c0, c1, c2, c3, c4, c5, c6, c7, c8, c9, c10⟩ := HT5.out.cells
      have f := zeros_at HT5.out
      have f0 := f 0
      have f1 := f 1
      have f2 := f 2
      have f3 := f 3
      have f4 := f 4
      have f5 := f 5
      have f6 := f 6
      have f7 := f 7
      have f8 := f 8
      have f9 := f 9
      have f10 := f 10
      clear f
      go_wp2
      go_roundw
      case rel =>
        refine ⟨i + 1, by go_num, Lib.hid HLT.out, Lib.hid ⟨?_, ?_, ?_⟩⟩
        · exact (HK.out.1.trans (HB5.out.mono HK.out.1.size)).trans ((putT_below (b := b2) (Nat.le_refl _) u).mono HWB.out)
        · exact putT_other (u := u) (HK.out.2.1.below HB5.out) (by have := HL2.out; omega)
        · rw [← HUE.out]
          exact putT_at HT5.out u
      case measure => simp only [intOf]; have := HI.out; omega
    · obtain rfl : i = 600 := by have := HI.out; omega
      have HB := Lib.hid HK.out.1
      have HT1 := Lib.hid HK.out.2.1
      have HT2 := Lib.hid HK.out.2.2
      rw [allK_end] at HT2
      clear HK HK2 HTE HUE HSE HI hlt
      go_wp2_with fail
      refine (Qc0 _).mono ?_
      rintro e y6 ⟨rfl, bb⟩
      replace HB := Lib.hid (HB.out.trans (bb.mono HB.out.size))
      replace HT1 := Lib.hid (HT1.out.below bb)
      replace HT2 := Lib.hid (HT2.out.below bb)
      clear bb
      obtain ⟨b4, hb4⟩ : ∃ b, b = y6.heap.size := ⟨_, rfl⟩
      obtain ⟨y7, hy7⟩ : ∃ x, x = y6.alloc (.cells (tbC Q1) TB) := ⟨_, rfl⟩
      have bb : Below y6.heap.size y6 y7 := by rw [hy7]; exact (Below.refl _ _).alloc (Nat.le_refl _) _
      have HT4 := Lib.hid (show TbAt y7 b4 Q1 by unfold TbAt; rw [hy7, hb4]; exact World.alloc_heap_new y6 _)
      replace HB := Lib.hid (HB.out.trans (bb.mono HB.out.size))
      replace HT1 := Lib.hid (HT1.out.below bb)
      replace HT2 := Lib.hid (HT2.out.below bb)
      clear bb
      go_upto_region 10 with (fail)
      rw [← hy7, ← hb4]
      clear hy7 hb4
      obtain ⟨c0, c1, c2, c3, c4, c5, c6, c7, c8, c9, c10⟩ := HT1.out.cells
      obtain ⟨d0, d1, d2, d3, d4, d5, d6, d7, d8, d9, d10⟩ := HT2.out.cells
      obtain ⟨g0, g1, g2, g3, g4, g5, g6, g7, g8, g9, g10⟩ := HT4.out.cells
      go_wp2_with fail
      refine (Qc2 _).mono ?_
      rintro e x1 ⟨rfl, bb⟩
      replace HB := Lib.hid (HB.out.trans (bb.mono HB.out.size))
      replace HT1 := Lib.hid (HT1.out.below bb)
      replace HT2 := Lib.hid (HT2.out.below bb)
      replace HT4 := Lib.hid (HT4.out.below bb)
      clear bb
      clear c0 c1 c2 c3 c4 c5 c6 c7 c8 c9 c10 d0 d1 d2 d3 d4 d5 d6 d7 d8 d9 d10 g0 g1 g2 g3 g4 g5 g6 g7 g8 g9 g10
      obtain ⟨c0, c1, c2, c3, c4, c5, c6, c7, c8, c9, c10⟩ := HT1.out.cells
      obtain ⟨d0, d1, d2, d3, d4, d5, d6, d7, d8, d9, d10⟩ := HT2.out.cells
      obtain ⟨g0, g1, g2, g3, g4, g5, g6, g7, g8, g9, g10⟩ := HT4.out.cells
      go_wp2_with fail
      refine (Qc3 _).mono ?_
      rintro e x2 ⟨ra24, ro24, rc24, rfl, hr24, bb⟩
      replace HB := Lib.hid (HB.out.trans (bb.mono HB.out.size))
      replace HT1 := Lib.hid (HT1.out.below bb)
      replace HT2 := Lib.hid (HT2.out.below bb)
      replace HT4 := Lib.hid (HT4.out.below bb)
      clear bb
      clear c0 c1 c2 c3 c4 c5 c6 c7 c8 c9 c10 d0 d1 d2 d3 d4 d5 d6 d7 d8 d9 d10 g0 g1 g2 g3 g4 g5 g6 g7 g8 g9 g10
      obtain ⟨c0, c1, c2, c3, c4, c5, c6, c7, c8, c9, c10⟩ := HT1.out.cells
      obtain ⟨d0, d1, d2, d3, d4, d5, d6, d7, d8, d9, d10⟩ := HT2.out.cells
      obtain ⟨g0, g1, g2, g3, g4, g5, g6, g7, g8, g9, g10⟩ := HT4.out.cells
      go_wp2_with fail
      refine (Qc3 _).mono ?_
      rintro e x3 ⟨ra30, ro30, rc30, rfl, hr30, bb⟩
      replace HB := Lib.hid (HB.out.trans (bb.mono HB.out.size))
      replace HT1 := Lib.hid (HT1.out.below bb)
      replace HT2 := Lib.hid (HT2.out.below bb)
      replace HT4 := Lib.hid (HT4.out.below bb)
      clear bb
      clear c0 c1 c2 c3 c4 c5 c6 c7 c8 c9 c10 d0 d1 d2 d3 d4 d5 d6 d7 d8 d9 d10 g0 g1 g2 g3 g4 g5 g6 g7 g8 g9 g10
      obtain ⟨c0, c1, c2, c3, c4, c5, c6, c7, c8, c9, c10⟩ := HT1.out.cells
      obtain ⟨d0, d1, d2, d3, d4, d5, d6, d7, d8, d9, d10⟩ := HT2.out.cells
      obtain ⟨g0, g1, g2, g3, g4, g5, g6, g7, g8, g9, g10⟩ := HT4.out.cells
      go_wp2_with fail
      refine (Qc4 _).mono ?_
      rintro e x4 ⟨rfl, bb⟩
      replace HB := Lib.hid (HB.out.trans (bb.mono HB.out.size))
      replace HT1 := Lib.hid (HT1.out.below bb)
      replace HT2 := Lib.hid (HT2.out.below bb)
      replace HT4 := Lib.hid (HT4.out.below bb)
      clear bb
      clear c0 c1 c2 c3 c4 c5 c6 c7 c8 c9 c10 d0 d1 d2 d3 d4 d5 d6 d7 d8 d9 d10 g0 g1 g2 g3 g4 g5 g6 g7 g8 g9 g10
      obtain ⟨c0, c1, c2, c3, c4, c5, c6, c7, c8, c9, c10⟩ := HT1.out.cells
      obtain ⟨d0, d1, d2, d3, d4, d5, d6, d7, d8, d9, d10⟩ := HT2.out.cells
      obtain ⟨g0, g1, g2, g3, g4, g5, g6, g7, g8, g9, g10⟩ := HT4.out.cells
      go_wp2_with fail
      refine (Qc5 _).mono ?_
      rintro e x5 ⟨rfl, bb⟩
      replace HB := Lib.hid (HB.out.trans (bb.mono HB.out.size))
      replace HT1 := Lib.hid (HT1.out.below bb)
      replace HT2 := Lib.hid (HT2.out.below bb)
      replace HT4 := Lib.hid (HT4.out.below bb)
      clear bb
      clear c0 c1 c2 c3 c4 c5 c6 c7 c8 c9 c10 d0 d1 d2 d3 d4 d5 d6 d7 d8 d9 d10 g0 g1 g2 g3 g4 g5 g6 g7 g8 g9 g10
      obtain ⟨c0, c1, c2, c3, c4, c5, c6, c7, c8, c9, c10⟩ := HT1.out.cells
      obtain ⟨d0, d1, d2, d3, d4, d5, d6, d7, d8, d9, d10⟩ := HT2.out.cells
      obtain ⟨g0, g1, g2, g3, g4, g5, g6, g7, g8, g9, g10⟩ := HT4.out.cells
      go_wp2_with fail
      refine (Qc6 _).mono ?_
      rintro e x6 ⟨rfl, bb⟩
      replace HB := Lib.hid (HB.out.trans (bb.mono HB.out.size))
      replace HT1 := Lib.hid (HT1.out.below bb)
      replace HT2 := Lib.hid (HT2.out.below bb)
      replace HT4 := Lib.hid (HT4.out.below bb)
      clear bb
      clear c0 c1 c2 c3 c4 c5 c6 c7 c8 c9 c10 d0 d1 d2 d3 d4 d5 d6 d7 d8 d9 d10 g0 g1 g2 g3 g4 g5 g6 g7 g8 g9 g10
      obtain ⟨c0, c1, c2, c3, c4, c5, c6, c7, c8, c9, c10⟩ := HT1.out.cells
      obtain ⟨d0, d1, d2, d3, d4, d5, d6, d7, d8, d9, d10⟩ := HT2.out.cells
      obtain ⟨g0, g1, g2, g3, g4, g5, g6, g7, g8, g9, g10⟩ := HT4.out.cells
      go_wp2_with fail
      refine (Qc7 _).mono ?_
      rintro e x7 ⟨rfl, bb⟩
      replace HB := Lib.hid (HB.out.trans (bb.mono HB.out.size))
      replace HT1 := Lib.hid (HT1.out.below bb)
      replace HT2 := Lib.hid (HT2.out.below bb)
      replace HT4 := Lib.hid (HT4.out.below bb)
      clear bb
      clear c0 c1 c2 c3 c4 c5 c6 c7 c8 c9 c10 d0 d1 d2 d3 d4 d5 d6 d7 d8 d9 d10 g0 g1 g2 g3 g4 g5 g6 g7 g8 g9 g10
      obtain ⟨c0, c1, c2, c3, c4, c5, c6, c7, c8, c9, c10⟩ := HT1.out.cells
      obtain ⟨d0, d1, d2, d3, d4, d5, d6, d7, d8, d9, d10⟩ := HT2.out.cells
      obtain ⟨g0, g1, g2, g3, g4, g5, g6, g7, g8, g9, g10⟩ := HT4.out.cells
      go_wp2_with fail
      refine (Qc8 _).mono ?_
      rintro e x8 ⟨rfl, bb⟩
      replace HB := Lib.hid (HB.out.trans (bb.mono HB.out.size))
      replace HT1 := Lib.hid (HT1.out.below bb)
      replace HT2 := Lib.hid (HT2.out.below bb)
      replace HT4 := Lib.hid (HT4.out.below bb)
      clear bb
      clear c0 c1 c2 c3 c4 c5 c6 c7 c8 c9 c10 d0 d1 d2 d3 d4 d5 d6 d7 d8 d9 d10 g0 g1 g2 g3 g4 g5 g6 g7 g8 g9 g10
      obtain ⟨c0, c1, c2, c3, c4, c5, c6, c7, c8, c9, c10⟩ := HT1.out.cells
      obtain ⟨d0, d1, d2, d3, d4, d5, d6, d7, d8, d9, d10⟩ := HT2.out.cells
      obtain ⟨g0, g1, g2, g3, g4, g5, g6, g7, g8, g9, g10⟩ := HT4.out.cells
      go_wp2_with fail
      refine (Qc9 _).mono ?_
      rintro e x9 ⟨rfl, bb⟩
      replace HB := Lib.hid (HB.out.trans (bb.mono HB.out.size))
      replace HT1 := Lib.hid (HT1.out.below bb)
      replace HT2 := Lib.hid (HT2.out.below bb)
      replace HT4 := Lib.hid (HT4.out.below bb)
      clear bb
      clear c0 c1 c2 c3 c4 c5 c6 c7 c8 c9 c10 d0 d1 d2 d3 d4 d5 d6 d7 d8 d9 d10 g0 g1 g2 g3 g4 g5 g6 g7 g8 g9 g10
      obtain ⟨c0, c1, c2, c3, c4, c5, c6, c7, c8, c9, c10⟩ := HT1.out.cells
      obtain ⟨d0, d1, d2, d3, d4, d5, d6, d7, d8, d9, d10⟩ := HT2.out.cells
      obtain ⟨g0, g1, g2, g3, g4, g5, g6, g7, g8, g9, g10⟩ := HT4.out.cells
      go_wp2_with fail
      refine (Qc10 _).mono ?_
      rintro e x10 ⟨rfl, bb⟩
      replace HB := Lib.hid (HB.out.trans (bb.mono HB.out.size))
      replace HT1 := Lib.hid (HT1.out.below bb)
      replace HT2 := Lib.hid (HT2.out.below bb)
      replace HT4 := Lib.hid (HT4.out.below bb)
      clear bb
      clear c0 c1 c2 c3 c4 c5 c6 c7 c8 c9 c10 d0 d1 d2 d3 d4 d5 d6 d7 d8 d9 d10 g0 g1 g2 g3 g4 g5 g6 g7 g8 g9 g10
      obtain ⟨c0, c1, c2, c3, c4, c5, c6, c7, c8, c9, c10⟩ := HT1.out.cells
      obtain ⟨d0, d1, d2, d3, d4, d5, d6, d7, d8, d9, d10⟩ := HT2.out.cells
      obtain ⟨g0, g1, g2, g3, g4, g5, g6, g7, g8, g9, g10⟩ := HT4.out.cells
      go_wp2_with fail
      refine (Qc11 _).mono ?_
      rintro e x11 ⟨rfl, bb⟩
      replace HB := Lib.hid (HB.out.trans (bb.mono HB.out.size))
      replace HT1 := Lib.hid (HT1.out.below bb)
      replace HT2 := Lib.hid (HT2.out.below bb)
      replace HT4 := Lib.hid (HT4.out.below bb)
      clear bb
      clear c0 c1 c2 c3 c4 c5 c6 c7 c8 c9 c10 d0 d1 d2 d3 d4 d5 d6 d7 d8 d9 d10 g0 g1 g2 g3 g4 g5 g6 g7 g8 g9 g10
      obtain ⟨c0, c1, c2, c3, c4, c5, c6, c7, c8, c9, c10⟩ := HT1.out.cells
      obtain ⟨d0, d1, d2, d3, d4, d5, d6, d7, d8, d9, d10⟩ := HT2.out.cells
      obtain ⟨g0, g1, g2, g3, g4, g5, g6, g7, g8, g9, g10⟩ := HT4.out.cells
      go_wp2_with fail
      refine (Qc12 _).mono ?_
      rintro e x12 ⟨rfl, bb⟩
      replace HB := Lib.hid (HB.out.trans (bb.mono HB.out.size))
      replace HT1 := Lib.hid (HT1.out.below bb)
      replace HT2 := Lib.hid (HT2.out.below bb)
      replace HT4 := Lib.hid (HT4.out.below bb)
      clear bb
      clear c0 c1 c2 c3 c4 c5 c6 c7 c8 c9 c10 d0 d1 d2 d3 d4 d5 d6 d7 d8 d9 d10 g0 g1 g2 g3 g4 g5 g6 g7 g8 g9 g10
      obtain ⟨c0, c1, c2, c3, c4, c5, c6, c7, c8, c9, c10⟩ := HT1.out.cells
      obtain ⟨d0, d1, d2, d3, d4, d5, d6, d7, d8, d9, d10⟩ := HT2.out.cells
      obtain ⟨g0, g1, g2, g3, g4, g5, g6, g7, g8, g9, g10⟩ := HT4.out.cells
      go_wp2_with fail
      refine (Qc13 _).mono ?_
      rintro e x13 ⟨rfl, bb⟩
      replace HB := Lib.hid (HB.out.trans (bb.mono HB.out.size))
      replace HT1 := Lib.hid (HT1.out.below bb)
      replace HT2 := Lib.hid (HT2.out.below bb)
      replace HT4 := Lib.hid (HT4.out.below bb)
      clear bb
      clear c0 c1 c2 c3 c4 c5 c6 c7 c8 c9 c10 d0 d1 d2 d3 d4 d5 d6 d7 d8 d9 d10 g0 g1 g2 g3 g4 g5 g6 g7 g8 g9 g10
      obtain ⟨c0, c1, c2, c3, c4, c5, c6, c7, c8, c9, c10⟩ := HT1.out.cells
      obtain ⟨d0, d1, d2, d3, d4, d5, d6, d7, d8, d9, d10⟩ := HT2.out.cells
      obtain ⟨g0, g1, g2, g3, g4, g5, g6, g7, g8, g9, g10⟩ := HT4.out.cells
      go_wp2_with fail
      refine (Qc14 _).mono ?_
      rintro e x14 ⟨rfl, bb⟩
      replace HB := Lib.hid (HB.out.trans (bb.mono HB.out.size))
      replace HT1 := Lib.hid (HT1.out.below bb)
      replace HT2 := Lib.hid (HT2.out.below bb)
      replace HT4 := Lib.hid (HT4.out.below bb)
      clear bb
      clear c0 c1 c2 c3 c4 c5 c6 c7 c8 c9 c10 d0 d1 d2 d3 d4 d5 d6 d7 d8 d9 d10 g0 g1 g2 g3 g4 g5 g6 g7 g8 g9 g10
      obtain ⟨c0, c1, c2, c3, c4, c5, c6, c7, c8, c9, c10⟩ := HT1.out.cells
      obtain ⟨d0, d1, d2, d3, d4, d5, d6, d7, d8, d9, d10⟩ := HT2.out.cells
      obtain ⟨g0, g1, g2, g3, g4, g5, g6, g7, g8, g9, g10⟩ := HT4.out.cells
      go_wp2_with fail
      refine (Qc15 _).mono ?_
      rintro e x15 ⟨rfl, bb⟩
      replace HB := Lib.hid (HB.out.trans (bb.mono HB.out.size))
      replace HT1 := Lib.hid (HT1.out.below bb)
      replace HT2 := Lib.hid (HT2.out.below bb)
      replace HT4 := Lib.hid (HT4.out.below bb)
      clear bb
      clear c0 c1 c2 c3 c4 c5 c6 c7 c8 c9 c10 d0 d1 d2 d3 d4 d5 d6 d7 d8 d9 d10 g0 g1 g2 g3 g4 g5 g6 g7 g8 g9 g10
      obtain ⟨c0, c1, c2, c3, c4, c5, c6, c7, c8, c9, c10⟩ := HT1.out.cells
      obtain ⟨d0, d1, d2, d3, d4, d5, d6, d7, d8, d9, d10⟩ := HT2.out.cells
      obtain ⟨g0, g1, g2, g3, g4, g5, g6, g7, g8, g9, g10⟩ := HT4.out.cells
      go_wp2_with fail
      refine (Qc16 _).mono ?_
      rintro e x16 ⟨rfl, bb⟩
      replace HB := Lib.hid (HB.out.trans (bb.mono HB.out.size))
      replace HT1 := Lib.hid (HT1.out.below bb)
      replace HT2 := Lib.hid (HT2.out.below bb)
      replace HT4 := Lib.hid (HT4.out.below bb)
      clear bb
      clear c0 c1 c2 c3 c4 c5 c6 c7 c8 c9 c10 d0 d1 d2 d3 d4 d5 d6 d7 d8 d9 d10 g0 g1 g2 g3 g4 g5 g6 g7 g8 g9 g10
      obtain ⟨c0, c1, c2, c3, c4, c5, c6, c7, c8, c9, c10⟩ := HT1.out.cells
      obtain ⟨d0, d1, d2, d3, d4, d5, d6, d7, d8, d9, d10⟩ := HT2.out.cells
      obtain ⟨g0, g1, g2, g3, g4, g5, g6, g7, g8, g9, g10⟩ := HT4.out.cells
      go_wp2_with fail
      refine (Qc17 _).mono ?_
      rintro e x17 ⟨ra98, rc98, rfl, hr98, bb⟩
      have HR98 := Lib.hid hr98
      clear hr98
      replace HB := Lib.hid (HB.out.trans (bb.mono HB.out.size))
      replace HT1 := Lib.hid (HT1.out.below bb)
      replace HT2 := Lib.hid (HT2.out.below bb)
      replace HT4 := Lib.hid (HT4.out.below bb)
      clear bb
      clear c0 c1 c2 c3 c4 c5 c6 c7 c8 c9 c10 d0 d1 d2 d3 d4 d5 d6 d7 d8 d9 d10 g0 g1 g2 g3 g4 g5 g6 g7 g8 g9 g10
      obtain ⟨c0, c1, c2, c3, c4, c5, c6, c7, c8, c9, c10⟩ := HT1.out.cells
      obtain ⟨d0, d1, d2, d3, d4, d5, d6, d7, d8, d9, d10⟩ := HT2.out.cells
      obtain ⟨g0, g1, g2, g3, g4, g5, g6, g7, g8, g9, g10⟩ := HT4.out.cells
      go_wp2_with fail
      refine (Qc18 _).mono ?_
      rintro e x18 ⟨rfl, bb⟩
      replace HB := Lib.hid (HB.out.trans (bb.mono HB.out.size))
      replace HT1 := Lib.hid (HT1.out.below bb)
      replace HT2 := Lib.hid (HT2.out.below bb)
      replace HT4 := Lib.hid (HT4.out.below bb)
      replace HR98 := Lib.hid (HR98.out.below bb)
      clear bb
      clear c0 c1 c2 c3 c4 c5 c6 c7 c8 c9 c10 d0 d1 d2 d3 d4 d5 d6 d7 d8 d9 d10 g0 g1 g2 g3 g4 g5 g6 g7 g8 g9 g10
      obtain ⟨c0, c1, c2, c3, c4, c5, c6, c7, c8, c9, c10⟩ := HT1.out.cells
      obtain ⟨d0, d1, d2, d3, d4, d5, d6, d7, d8, d9, d10⟩ := HT2.out.cells
      obtain ⟨g0, g1, g2, g3, g4, g5, g6, g7, g8, g9, g10⟩ := HT4.out.cells
      go_wp2_with fail
      refine (Qc19 _).mono ?_
      rintro e x19 ⟨rfl, bb⟩
      replace HB := Lib.hid (HB.out.trans (bb.mono HB.out.size))
      replace HT1 := Lib.hid (HT1.out.below bb)
      replace HT2 := Lib.hid (HT2.out.below bb)
      replace HT4 := Lib.hid (HT4.out.below bb)
      replace HR98 := Lib.hid (HR98.out.below bb)
      clear bb
      clear c0 c1 c2 c3 c4 c5 c6 c7 c8 c9 c10 d0 d1 d2 d3 d4 d5 d6 d7 d8 d9 d10 g0 g1 g2 g3 g4 g5 g6 g7 g8 g9 g10
      obtain ⟨c0, c1, c2, c3, c4, c5, c6, c7, c8, c9, c10⟩ := HT1.out.cells
      obtain ⟨d0, d1, d2, d3, d4, d5, d6, d7, d8, d9, d10⟩ := HT2.out.cells
      obtain ⟨g0, g1, g2, g3, g4, g5, g6, g7, g8, g9, g10⟩ := HT4.out.cells
      go_wp2_with fail
      refine (Qc20 _).mono ?_
      rintro e x20 ⟨rfl, bb⟩
      replace HB := Lib.hid (HB.out.trans (bb.mono HB.out.size))
      replace HT1 := Lib.hid (HT1.out.below bb)
      replace HT2 := Lib.hid (HT2.out.below bb)
      replace HT4 := Lib.hid (HT4.out.below bb)
      replace HR98 := Lib.hid (HR98.out.below bb)
      clear bb
      clear c0 c1 c2 c3 c4 c5 c6 c7 c8 c9 c10 d0 d1 d2 d3 d4 d5 d6 d7 d8 d9 d10 g0 g1 g2 g3 g4 g5 g6 g7 g8 g9 g10
      obtain ⟨c0, c1, c2, c3, c4, c5, c6, c7, c8, c9, c10⟩ := HT1.out.cells
      obtain ⟨d0, d1, d2, d3, d4, d5, d6, d7, d8, d9, d10⟩ := HT2.out.cells
      obtain ⟨g0, g1, g2, g3, g4, g5, g6, g7, g8, g9, g10⟩ := HT4.out.cells
      go_wp2_with fail
      refine (Qc21 _).mono ?_
      rintro e x21 ⟨rfl, bb⟩
      replace HB := Lib.hid (HB.out.trans (bb.mono HB.out.size))
      replace HT1 := Lib.hid (HT1.out.below bb)
      replace HT2 := Lib.hid (HT2.out.below bb)
      replace HT4 := Lib.hid (HT4.out.below bb)
      replace HR98 := Lib.hid (HR98.out.below bb)
      clear bb
      clear c0 c1 c2 c3 c4 c5 c6 c7 c8 c9 c10 d0 d1 d2 d3 d4 d5 d6 d7 d8 d9 d10 g0 g1 g2 g3 g4 g5 g6 g7 g8 g9 g10
      obtain ⟨c0, c1, c2, c3, c4, c5, c6, c7, c8, c9, c10⟩ := HT1.out.cells
      obtain ⟨d0, d1, d2, d3, d4, d5, d6, d7, d8, d9, d10⟩ := HT2.out.cells
      obtain ⟨g0, g1, g2, g3, g4, g5, g6, g7, g8, g9, g10⟩ := HT4.out.cells
      go_wp2_with fail
      refine (Qc22 _).mono ?_
      rintro e x22 ⟨rfl, bb⟩
      replace HB := Lib.hid (HB.out.trans (bb.mono HB.out.size))
      replace HT1 := Lib.hid (HT1.out.below bb)
      replace HT2 := Lib.hid (HT2.out.below bb)
      replace HT4 := Lib.hid (HT4.out.below bb)
      replace HR98 := Lib.hid (HR98.out.below bb)
      clear bb
      clear c0 c1 c2 c3 c4 c5 c6 c7 c8 c9 c10 d0 d1 d2 d3 d4 d5 d6 d7 d8 d9 d10 g0 g1 g2 g3 g4 g5 g6 g7 g8 g9 g10
      obtain ⟨c0, c1, c2, c3, c4, c5, c6, c7, c8, c9, c10⟩ := HT1.out.cells
      obtain ⟨d0, d1, d2, d3, d4, d5, d6, d7, d8, d9, d10⟩ := HT2.out.cells
      obtain ⟨g0, g1, g2, g3, g4, g5, g6, g7, g8, g9, g10⟩ := HT4.out.cells
      go_wp2_with fail
      refine (Qc23 _).mono ?_
      rintro e x23 ⟨ra124, rc124, rfl, hr124, bb⟩
      have HR124 := Lib.hid hr124
      clear hr124
      replace HB := Lib.hid (HB.out.trans (bb.mono HB.out.size))
      replace HT1 := Lib.hid (HT1.out.below bb)
      replace HT2 := Lib.hid (HT2.out.below bb)
      replace HT4 := Lib.hid (HT4.out.below bb)
      replace HR98 := Lib.hid (HR98.out.below bb)
      clear bb
      clear c0 c1 c2 c3 c4 c5 c6 c7 c8 c9 c10 d0 d1 d2 d3 d4 d5 d6 d7 d8 d9 d10 g0 g1 g2 g3 g4 g5 g6 g7 g8 g9 g10
      obtain ⟨c0, c1, c2, c3, c4, c5, c6, c7, c8, c9, c10⟩ := HT1.out.cells
      obtain ⟨d0, d1, d2, d3, d4, d5, d6, d7, d8, d9, d10⟩ := HT2.out.cells
      obtain ⟨g0, g1, g2, g3, g4, g5, g6, g7, g8, g9, g10⟩ := HT4.out.cells
      go_wp2_with fail
      refine (Qc24 _).mono ?_
      rintro e x24 ⟨rfl, bb⟩
      replace HB := Lib.hid (HB.out.trans (bb.mono HB.out.size))
      replace HT1 := Lib.hid (HT1.out.below bb)
      replace HT2 := Lib.hid (HT2.out.below bb)
      replace HT4 := Lib.hid (HT4.out.below bb)
      replace HR98 := Lib.hid (HR98.out.below bb)
      replace HR124 := Lib.hid (HR124.out.below bb)
      clear bb
      clear c0 c1 c2 c3 c4 c5 c6 c7 c8 c9 c10 d0 d1 d2 d3 d4 d5 d6 d7 d8 d9 d10 g0 g1 g2 g3 g4 g5 g6 g7 g8 g9 g10
      obtain ⟨c0, c1, c2, c3, c4, c5, c6, c7, c8, c9, c10⟩ := HT1.out.cells
      obtain ⟨d0, d1, d2, d3, d4, d5, d6, d7, d8, d9, d10⟩ := HT2.out.cells
      obtain ⟨g0, g1, g2, g3, g4, g5, g6, g7, g8, g9, g10⟩ := HT4.out.cells
      go_wp2_with fail
      refine (Qc25 _).mono ?_
      rintro e x25 ⟨rfl, bb⟩
      replace HB := Lib.hid (HB.out.trans (bb.mono HB.out.size))
      replace HT1 := Lib.hid (HT1.out.below bb)
      replace HT2 := Lib.hid (HT2.out.below bb)
      replace HT4 := Lib.hid (HT4.out.below bb)
      replace HR98 := Lib.hid (HR98.out.below bb)
      replace HR124 := Lib.hid (HR124.out.below bb)
      clear bb
      clear c0 c1 c2 c3 c4 c5 c6 c7 c8 c9 c10 d0 d1 d2 d3 d4 d5 d6 d7 d8 d9 d10 g0 g1 g2 g3 g4 g5 g6 g7 g8 g9 g10
      obtain ⟨c0, c1, c2, c3, c4, c5, c6, c7, c8, c9, c10⟩ := HT1.out.cells
      obtain ⟨d0, d1, d2, d3, d4, d5, d6, d7, d8, d9, d10⟩ := HT2.out.cells
      obtain ⟨g0, g1, g2, g3, g4, g5, g6, g7, g8, g9, g10⟩ := HT4.out.cells
      go_wp2_with fail
      refine (Qc26 _).mono ?_
      rintro e x26 ⟨rfl, bb⟩
      replace HB := Lib.hid (HB.out.trans (bb.mono HB.out.size))
      replace HT1 := Lib.hid (HT1.out.below bb)
      replace HT2 := Lib.hid (HT2.out.below bb)
      replace HT4 := Lib.hid (HT4.out.below bb)
      replace HR98 := Lib.hid (HR98.out.below bb)
      replace HR124 := Lib.hid (HR124.out.below bb)
      clear bb
      clear c0 c1 c2 c3 c4 c5 c6 c7 c8 c9 c10 d0 d1 d2 d3 d4 d5 d6 d7 d8 d9 d10 g0 g1 g2 g3 g4 g5 g6 g7 g8 g9 g10
      obtain ⟨c0, c1, c2, c3, c4, c5, c6, c7, c8, c9, c10⟩ := HT1.out.cells
      obtain ⟨d0, d1, d2, d3, d4, d5, d6, d7, d8, d9, d10⟩ := HT2.out.cells
      obtain ⟨g0, g1, g2, g3, g4, g5, g6, g7, g8, g9, g10⟩ := HT4.out.cells
      go_wp2_with fail
      refine (Qc27 _).mono ?_
      rintro e x27 ⟨rfl, bb⟩
      replace HB := Lib.hid (HB.out.trans (bb.mono HB.out.size))
      replace HT1 := Lib.hid (HT1.out.below bb)
      replace HT2 := Lib.hid (HT2.out.below bb)
      replace HT4 := Lib.hid (HT4.out.below bb)
      replace HR98 := Lib.hid (HR98.out.below bb)
      replace HR124 := Lib.hid (HR124.out.below bb)
      clear bb
      clear c0 c1 c2 c3 c4 c5 c6 c7 c8 c9 c10 d0 d1 d2 d3 d4 d5 d6 d7 d8 d9 d10 g0 g1 g2 g3 g4 g5 g6 g7 g8 g9 g10
      obtain ⟨c0, c1, c2, c3, c4, c5, c6, c7, c8, c9, c10⟩ := HT1.out.cells
      obtain ⟨d0, d1, d2, d3, d4, d5, d6, d7, d8, d9, d10⟩ := HT2.out.cells
      obtain ⟨g0, g1, g2, g3, g4, g5, g6, g7, g8, g9, g10⟩ := HT4.out.cells
      go_wp2_with fail
      refine (Qc28 _).mono ?_
      rintro e x28 ⟨rfl, bb⟩
      replace HB := Lib.hid (HB.out.trans (bb.mono HB.out.size))
      replace HT1 := Lib.hid (HT1.out.below bb)
      replace HT2 := Lib.hid (HT2.out.below bb)
      replace HT4 := Lib.hid (HT4.out.below bb)
      replace HR98 := Lib.hid (HR98.out.below bb)
      replace HR124 := Lib.hid (HR124.out.below bb)
      clear bb
      clear c0 c1 c2 c3 c4 c5 c6 c7 c8 c9 c10 d0 d1 d2 d3 d4 d5 d6 d7 d8 d9 d10 g0 g1 g2 g3 g4 g5 g6 g7 g8 g9 g10
      obtain ⟨c0, c1, c2, c3, c4, c5, c6, c7, c8, c9, c10⟩ := HT1.out.cells
      obtain ⟨d0, d1, d2, d3, d4, d5, d6, d7, d8, d9, d10⟩ := HT2.out.cells
      obtain ⟨g0, g1, g2, g3, g4, g5, g6, g7, g8, g9, g10⟩ := HT4.out.cells
      go_wp2_with fail
      refine (Qc29 _).mono ?_
      rintro e x29 ⟨rfl, bb⟩
      replace HB := Lib.hid (HB.out.trans (bb.mono HB.out.size))
      replace HT1 := Lib.hid (HT1.out.below bb)
      replace HT2 := Lib.hid (HT2.out.below bb)
      replace HT4 := Lib.hid (HT4.out.below bb)
      replace HR98 := Lib.hid (HR98.out.below bb)
      replace HR124 := Lib.hid (HR124.out.below bb)
      clear bb
      clear c0 c1 c2 c3 c4 c5 c6 c7 c8 c9 c10 d0 d1 d2 d3 d4 d5 d6 d7 d8 d9 d10 g0 g1 g2 g3 g4 g5 g6 g7 g8 g9 g10
      obtain ⟨c0, c1, c2, c3, c4, c5, c6, c7, c8, c9, c10⟩ := HT1.out.cells
      obtain ⟨d0, d1, d2, d3, d4, d5, d6, d7, d8, d9, d10⟩ := HT2.out.cells
      obtain ⟨g0, g1, g2, g3, g4, g5, g6, g7, g8, g9, g10⟩ := HT4.out.cells
      go_wp2_with fail
      refine (Qc30 _).mono ?_
      rintro e x30 ⟨rfl, bb⟩
      replace HB := Lib.hid (HB.out.trans (bb.mono HB.out.size))
      replace HT1 := Lib.hid (HT1.out.below bb)
      replace HT2 := Lib.hid (HT2.out.below bb)
      replace HT4 := Lib.hid (HT4.out.below bb)
      replace HR98 := Lib.hid (HR98.out.below bb)
      replace HR124 := Lib.hid (HR124.out.below bb)
      clear bb
      clear c0 c1 c2 c3 c4 c5 c6 c7 c8 c9 c10 d0 d1 d2 d3 d4 d5 d6 d7 d8 d9 d10 g0 g1 g2 g3 g4 g5 g6 g7 g8 g9 g10
      obtain ⟨c0, c1, c2, c3, c4, c5, c6, c7, c8, c9, c10⟩ := HT1.out.cells
      obtain ⟨d0, d1, d2, d3, d4, d5, d6, d7, d8, d9, d10⟩ := HT2.out.cells
      obtain ⟨g0, g1, g2, g3, g4, g5, g6, g7, g8, g9, g10⟩ := HT4.out.cells
      go_wp2_with fail
      refine (Qc31 _).mono ?_
      rintro e x31 ⟨rfl, bb⟩
      replace HB := Lib.hid (HB.out.trans (bb.mono HB.out.size))
      replace HT1 := Lib.hid (HT1.out.below bb)
      replace HT2 := Lib.hid (HT2.out.below bb)
      replace HT4 := Lib.hid (HT4.out.below bb)
      replace HR98 := Lib.hid (HR98.out.below bb)
      replace HR124 := Lib.hid (HR124.out.below bb)
      clear bb
      clear c0 c1 c2 c3 c4 c5 c6 c7 c8 c9 c10 d0 d1 d2 d3 d4 d5 d6 d7 d8 d9 d10 g0 g1 g2 g3 g4 g5 g6 g7 g8 g9 g10
      obtain ⟨c0, c1, c2, c3, c4, c5, c6, c7, c8, c9, c10⟩ := HT1.out.cells
      obtain ⟨d0, d1, d2, d3, d4, d5, d6, d7, d8, d9, d10⟩ := HT2.out.cells
      obtain ⟨g0, g1, g2, g3, g4, g5, g6, g7, g8, g9, g10⟩ := HT4.out.cells
      go_wp2_with fail
      refine (Qc30 _).mono ?_
      rintro e x32 ⟨rfl, bb⟩
      replace HB := Lib.hid (HB.out.trans (bb.mono HB.out.size))
      replace HT1 := Lib.hid (HT1.out.below bb)
      replace HT2 := Lib.hid (HT2.out.below bb)
      replace HT4 := Lib.hid (HT4.out.below bb)
      replace HR98 := Lib.hid (HR98.out.below bb)
      replace HR124 := Lib.hid (HR124.out.below bb)
      clear bb
      clear c0 c1 c2 c3 c4 c5 c6 c7 c8 c9 c10 d0 d1 d2 d3 d4 d5 d6 d7 d8 d9 d10 g0 g1 g2 g3 g4 g5 g6 g7 g8 g9 g10
      obtain ⟨c0, c1, c2, c3, c4, c5, c6, c7, c8, c9, c10⟩ := HT1.out.cells
      obtain ⟨d0, d1, d2, d3, d4, d5, d6, d7, d8, d9, d10⟩ := HT2.out.cells
      obtain ⟨g0, g1, g2, g3, g4, g5, g6, g7, g8, g9, g10⟩ := HT4.out.cells
      go_wp2_with fail
      refine (Qc32 _).mono ?_
      rintro e x33 ⟨rfl, bb⟩
      replace HB := Lib.hid (HB.out.trans (bb.mono HB.out.size))
      replace HT1 := Lib.hid (HT1.out.below bb)
      replace HT2 := Lib.hid (HT2.out.below bb)
      replace HT4 := Lib.hid (HT4.out.below bb)
      replace HR98 := Lib.hid (HR98.out.below bb)
      replace HR124 := Lib.hid (HR124.out.below bb)
      clear bb
      have hq151 := Qc33
      go_wp2
      go_ret
      exact ⟨rfl, HB.out⟩
end Go.Proofs.Ytmdpdogjpdkanaa.Lab
