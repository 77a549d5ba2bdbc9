/- What is set is there, what is cleared is not: TabsSets. -/
import Derived.Test.YtmdpdogjpdkanaaTbWalks
import Derived.Test.YtmdpdogjpdkanaaMany
set_option linter.unusedVariables false
namespace Go.Proofs.Ytmdpdogjpdkanaa.Lab
open Go Go.RowKit Go.Shelf

/-- What is known in the midst of a region: values that have come, and new blocks. -/
structure SI (w0 : World) (vals : List (Nat × Value)) (ptrs : List Nat) (f : Nat → Bool) (y : Nat → Value) (w : World) : Prop where
  val : ∀ p ∈ vals, f p.1 = true → y p.1 = p.2
  ptr : ∀ i ∈ ptrs, f i = true → ∃ q, y i = .pointer (some ⟨q, 0, none⟩) ∧ TbAt w q Tb.zero ∧ w0.heap.size ≤ q
  ne : ∀ i ∈ ptrs, ∀ j ∈ ptrs, i ≠ j → f i = true → f j = true → y i ≠ y j
  below : Below w0.heap.size w0 w
theorem SI.start {w0 w : World} (vals : List (Nat × Value)) (ptrs : List Nat) (y : Nat → Value) (h : Below w0.heap.size w0 w) : SI w0 vals ptrs (fun _ => false) y w := ⟨fun _ _ h => (by cases h), fun _ _ h => (by cases h), fun _ _ _ _ _ h => (by cases h), h⟩
theorem SI.call {w0 w w' : World} {vals : List (Nat × Value)} {ptrs : List Nat} {f : Nat → Bool} {y : Nat → Value} (h : SI w0 vals ptrs f y w) (i : Nat) (v : Value) (hd : ∀ p ∈ vals, p.1 = i → p.2 = v) (hp : i ∉ ptrs) (b : Below w.heap.size w w') : SI w0 vals ptrs (fun j => f j || j == i) (updM y i v) w' := by
  have hn : ∀ j ∈ ptrs, updM y i v j = y j := fun j hj => by unfold updM; rw [if_neg (fun e => hp (by rw [← e]; exact hj))]
  have hf : ∀ j ∈ ptrs, (f j || j == i) = true → f j = true := fun j hj e => by
    rw [Bool.or_eq_true] at e
    rcases e with e | e
    · exact e
    · exact absurd (beq_iff_eq.1 e) (fun q => hp (by rw [← q]; exact hj))
  refine ⟨fun p hp' e => ?_, fun j hj e => ?_, fun j hj k hk ne e1 e2 => ?_, h.below.trans (b.mono h.below.size)⟩
  · unfold updM
    by_cases q : p.1 = i
    · rw [if_pos q, hd p hp' q]
    · rw [if_neg q]
      refine h.val p hp' ?_
      rw [Bool.or_eq_true] at e
      rcases e with e | e
      · exact e
      · exact absurd (beq_iff_eq.1 e) q
  · obtain ⟨q, h1, h2, h3⟩ := h.ptr j hj (hf j hj e)
    exact ⟨q, (hn j hj).trans h1, h2.below b, h3⟩
  · rw [hn j hj, hn k hk]
    exact h.ne j hj k hk ne (hf j hj e1) (hf k hk e2)
theorem SI.new {w0 w : World} {vals : List (Nat × Value)} {ptrs : List Nat} {f : Nat → Bool} {y : Nat → Value} (h : SI w0 vals ptrs f y w) (i : Nat) (hv : ∀ p ∈ vals, p.1 ≠ i) : SI w0 vals ptrs (fun j => f j || j == i) (updM y i (.pointer (some ⟨w.heap.size, 0, none⟩))) (w.alloc (.cells #[.int .u64 0, .int .u64 0, .int .u64 0, .int .u64 0, .int .u64 0, .int .u64 0, .int .u64 0, .int .u64 0, .int .i64 0, .int .u8 0, .int .u8 0] TB)) := by
  have b : Below w.heap.size w (w.alloc (.cells #[.int .u64 0, .int .u64 0, .int .u64 0, .int .u64 0, .int .u64 0, .int .u64 0, .int .u64 0, .int .u64 0, .int .i64 0, .int .u8 0, .int .u8 0] TB)) := (Below.refl _ _).alloc (Nat.le_refl _) _
  have hf : ∀ j, j ≠ i → (f j || j == i) = true → f j = true := fun j hj e => by
    rw [Bool.or_eq_true] at e
    rcases e with e | e
    · exact e
    · exact absurd (beq_iff_eq.1 e) hj
  have hold : ∀ j, j ∈ ptrs → j ≠ i → (f j || j == i) = true → updM y i (.pointer (some ⟨w.heap.size, 0, none⟩)) j ≠ .pointer (some ⟨w.heap.size, 0, none⟩) := fun j hj ne e => by
    obtain ⟨q, h1, h2, h3⟩ := h.ptr j hj (hf j ne e)
    unfold updM
    rw [if_neg ne, h1]
    intro e
    injection e with e
    injection e with e
    injection e with e _ _
    have := h2.lt
    omega
  refine ⟨fun p hp' e => ?_, fun j hj e => ?_, fun j hj k hk ne e1 e2 => ?_, h.below.trans (b.mono h.below.size)⟩
  · unfold updM
    rw [if_neg (hv p hp')]
    exact h.val p hp' (hf _ (hv p hp') e)
  · by_cases q : j = i
    · refine ⟨w.heap.size, by unfold updM; rw [if_pos q], ?_, h.below.size⟩
      unfold TbAt
      rw [zero_cells]
      exact World.alloc_heap_new w _
    · obtain ⟨q', h1, h2, h3⟩ := h.ptr j hj (hf j q e)
      exact ⟨q', by unfold updM; rw [if_neg q]; exact h1, h2.below b, h3⟩
  · by_cases q1 : j = i
    · have q2 : k ≠ i := fun e => ne (q1.trans e.symm)
      have := hold k hk q2 e2
      intro e
      refine this (e.symm.trans ?_)
      unfold updM
      rw [if_pos q1]
    · by_cases q2 : k = i
      · have := hold j hj q1 e1
        intro e
        refine this (e.trans ?_)
        unfold updM
        rw [if_pos q2]
      · unfold updM
        rw [if_neg q1, if_neg q2]
        exact h.ne j hj k hk ne (hf j q1 e1) (hf k q2 e2)
theorem has_put (v : Bool) (L : List Bool) (cs : List Int) (c : Int) : hasM (putL v L cs) c = if c ∈ cs ∧ isC L c = true then v else hasM L c := by
  unfold hasM
  by_cases h0 : 0 ≤ c
  · obtain ⟨m, rfl⟩ := Int.eq_ofNat_of_zero_le h0
    rw [decide_eq_true h0, Int.toNat_natCast, Bool.true_and, Bool.true_and, getD_putL]
    have e : isC L (m : Nat) = true ↔ m < L.length := by unfold isC; rw [decide_eq_true_iff]; omega
    by_cases h1 : (m : Int) ∈ cs <;> by_cases h2 : m < L.length <;> simp [h1, h2, e]
  · have e : ¬ isC L c = true := by unfold isC; rw [decide_eq_true_iff]; omega
    simp [h0, e]
theorem put_again (v u : Bool) (L : List Bool) (cs : List Int) : putL u (putL v L cs) cs = putL u L cs := by
  refine bools_ext (by rw [len_putL, len_putL, len_putL]) fun j hj => ?_
  rw [len_putL, len_putL] at hj
  rw [getD_putL, len_putL, getD_putL, getD_putL]
  by_cases h : (j : Int) ∈ cs ∧ j < L.length
  · rw [if_pos h, if_pos h]
  · rw [if_neg h, if_neg h, if_neg h]
set_option maxHeartbeats 8000000 in
set_option maxRecDepth 100000 in
theorem sets_core (n : Nat) (hn : n < 65536) (la : Option Addr) (ln lc : Nat) (AL : List Ac) (X : Ac) (xu : Value) (w : World) (hxs : S16 w xu X.l) (hX : X.Ok) (h : AcsIn w (.slice la ln lc) AL) : Calls Try.prog 6 #[.int .u16 (n : Nat), .slice la ln lc, acV X xu] w fun e w' => e = .returned (.bool true) ∧ Below w.heap.size w w' := by
  have HAC := Lib.hid h
  have HLN := Lib.hid (show AL.length = ln by obtain ⟨a, c, e⟩ := h.shape; injection e with _ e _; exact e.symm)
  obtain ⟨xa, xn, xc, hxv⟩ : ∃ x y z, xu = .slice x y z := by obtain ⟨x1, x2, x3, _⟩ := hxs; exact ⟨x1, _, x2, x3⟩
  subst hxv
  have HXS := Lib.hid hxs
  have HXO := Lib.hid hX
  clear h hxs hX
  obtain ⟨c, hc⟩ : ∃ c, c = n % 600 := ⟨_, rfl⟩
  have r1 : ((n : Nat) : Int).tmod 600 = (c : Nat) := by rw [hc, Int.tmod_eq_emod_of_nonneg (by omega)]; rfl
  have r2 : ((n : Nat) : Int) % 600 = (c : Nat) := by rw [hc]; rfl
  have r3 : IntKind.i64.wrap ((c : Nat) : Int) = (c : Nat) := by rw [IntKind.wrap_i64]; omega
  clear hc
  obtain ⟨T0, hT0⟩ : ∃ T0, T0 = newM (c : Nat) 0 := ⟨_, rfl⟩
  have HNEW := Lib.hid (fun w => new_any (c : Nat) 0 w)
  have HOK0 := Lib.hid (show T0.Ok by rw [hT0]; exact newM_ok _ (by decide))
  have HB00 := Lib.hid (show T0.b = 0 by rw [hT0]; rfl)
  rw [← hT0] at HNEW
  clear hT0 hn
  obtain ⟨b5, hb5⟩ : ∃ b, b = w.heap.size := ⟨_, rfl⟩
  obtain ⟨w1, hw1⟩ : ∃ x, x = w.alloc (.cells #[.int .u8 (X.what : Nat), .bool X.high, .slice xa xn xc, .int .i16 X.cols] 37) := ⟨_, rfl⟩
  have HB1 := Lib.hid (show Below w.heap.size w w1 by rw [hw1]; exact (Below.refl _ _).alloc (Nat.le_refl _) _)
  have HA1 := Lib.hid (show AcAt w1 b5 X (.slice xa xn xc) by rw [hw1]; exact AcAt.newAt w b5 hb5 X _ _)
  go_enter Try.func6, Try.ntmps6
  go_upto_region 1 with (fail)
  rw [← hw1, ← hb5]
  clear hw1 hb5
  go_wp2_with fail
  refine (works_any _).mono ?_
  rintro e y1 ⟨rfl, bb⟩
  have HX1 := Lib.hid bb
  clear bb
  go_wp2_with fail
  refine (HNEW.out _).mono ?_
  rintro e y2 ⟨rfl, bb⟩
  have HX2 := Lib.hid (HX1.out.trans (bb.mono HX1.out.size))
  clear bb HNEW r1 r2 r3 HX1
  obtain ⟨bT, hbT⟩ : ∃ b, b = y2.heap.size := ⟨_, rfl⟩
  obtain ⟨y3, hy3⟩ : ∃ x, x = y2.alloc (.cells (tbC T0) TB) := ⟨_, rfl⟩
  have bb : Below y2.heap.size y2 y3 := by rw [hy3]; exact (Below.refl _ _).alloc (Nat.le_refl _) _
  have HX3 := Lib.hid (HX2.out.trans (bb.mono HX2.out.size))
  have HBT1 := Lib.hid (show w1.heap.size ≤ bT by rw [hbT]; exact HX2.out.size)
  have HT01 := Lib.hid (show Below w1.heap.size w1 y3 ∧ TbAt y3 bT (runT AL T0 0) from ⟨HX3.out, by unfold TbAt; rw [runT_zero, hy3, hbT]; exact World.alloc_heap_new y2 _⟩)
  replace HAC := Lib.hid (HAC.out.below HB1.out)
  clear bb
  go_upto_block 0 with (fail)
  rw [← hy3, ← hbT]
  clear hy3 hbT HX2 HX3
  go_cut [] (fun wc => ∃ i : Nat, Hid (Below w1.heap.size w1 wc ∧ TbAt wc bT (runT AL T0 i)))
  case first =>
    go_wp2_with fail
    go_loopw [8] (fun v wr => ∃ i : Nat, v = .int .i64 (i : Nat) ∧ Hid (i ≤ ln ∧ i ≤ 20) ∧ Hid (Below w1.heap.size w1 wr ∧ TbAt wr bT (runT AL T0 i))) (fun v wr => 30 - (intOf v).toNat)
    case atStart => exact ⟨0, rfl, Lib.hid ⟨Nat.zero_le _, Nat.zero_le _⟩, HT01⟩
    case round =>
      obtain ⟨i, rfl, HI, HK⟩ := hrel
      by_cases h1 : i < ln
      · by_cases h2 : i < 20
        · have g2 : (i : Int) < 20 := by omega
          have H12 := Lib.hid (And.intro h1 h2)
          obtain ⟨g, o, u, hla, a0, a1, a2, a3, hs, hok⟩ := (HAC.out.below HK.out.1).at (i := i) (by rw [HLN.out]; exact h1)
          obtain ⟨tn, htn⟩ : ∃ tn, tn = runT AL T0 (i + 1) := ⟨_, rfl⟩
          have HTN := Lib.hid htn
          rw [runT_more T0 (by rw [HLN.out]; exact h1)] at htn
          have htok := runT_ok (AL := AL) HOK0.out i
          obtain ⟨t, ht⟩ : ∃ t, t = runT AL T0 i := ⟨_, rfl⟩
          rw [← ht] at HK htn htok
          obtain ⟨a, ha⟩ : ∃ a, a = AcK AL i := ⟨_, rfl⟩
          rw [← ha] at htn a0 a1 a3 hs hok
          have HD := Lib.hid (fun w (h : S16 w u a.l) => does_any a u t hok htok w h)
          rw [← htn] at HD
          have HS := Lib.hid hs
          subst hla
          clear ht ha htn hs hok htok
          have KEEP := Lib.hid (show ∀ wx, Below wr.heap.size wr wx → (wx.cell? ⟨g, o + i * 4, none⟩ = some (.int .u8 (a.what : Nat)) ∧ wx.cell? ⟨g, o + i * 4 + 1, none⟩ = some (.bool a.high) ∧ wx.cell? ⟨g, o + i * 4 + 2, none⟩ = some u ∧ wx.cell? ⟨g, o + i * 4 + 3, none⟩ = some (.int .i16 a.cols)) ∧ wx.cell? ⟨bT, 0, none⟩ = some (wV t.L 0) ∧ wx.cell? ⟨bT, 1, none⟩ = some (wV t.L 1) ∧ wx.cell? ⟨bT, 2, none⟩ = some (wV t.L 2) ∧ wx.cell? ⟨bT, 3, none⟩ = some (wV t.L 3) ∧ wx.cell? ⟨bT, 4, none⟩ = some (wV t.L 4) ∧ wx.cell? ⟨bT, 5, none⟩ = some (wV t.L 5) ∧ wx.cell? ⟨bT, 6, none⟩ = some (wV t.L 6) ∧ wx.cell? ⟨bT, 7, none⟩ = some (wV t.L 7) ∧ wx.cell? ⟨bT, 8, none⟩ = some (.int .i64 (t.L.length : Nat)) ∧ wx.cell? ⟨bT, 9, none⟩ = some (.int .u8 (t.b : Nat)) ∧ wx.cell? ⟨bT, 10, none⟩ = some (.int .u8 (t.l : Nat)) from fun wx hx => ⟨⟨(hx.cell (World.block_lt_of_cell? wr _ a0)).trans a0, (hx.cell (World.block_lt_of_cell? wr _ a1)).trans a1, (hx.cell (World.block_lt_of_cell? wr _ a2)).trans a2, (hx.cell (World.block_lt_of_cell? wr _ a3)).trans a3⟩, (HK.out.2.below hx).cells⟩)
          have u1 : IntKind.i64.wrap ((i : Int) + 1) = ((i + 1 : Nat) : Int) := by rw [IntKind.wrap_i64]; omega
          obtain ⟨c0, c1, c2, c3, c4, c5, c6, c7, c8, c9, c10⟩ := HK.out.2.cells
          go_upto_region 7 with (fail)
          clear a0 a1 a2 a3 c0 c1 c2 c3 c4 c5 c6 c7 c8 c9 c10
          refine region_but (S := (fun wx => (wx.cell? ⟨g, o + i * 4, none⟩ = some (.int .u8 (a.what : Nat)) ∧ wx.cell? ⟨g, o + i * 4 + 1, none⟩ = some (.bool a.high) ∧ wx.cell? ⟨g, o + i * 4 + 2, none⟩ = some u ∧ wx.cell? ⟨g, o + i * 4 + 3, none⟩ = some (.int .i16 a.cols)) ∧ wx.cell? ⟨bT, 0, none⟩ = some (wV t.L 0) ∧ wx.cell? ⟨bT, 1, none⟩ = some (wV t.L 1) ∧ wx.cell? ⟨bT, 2, none⟩ = some (wV t.L 2) ∧ wx.cell? ⟨bT, 3, none⟩ = some (wV t.L 3) ∧ wx.cell? ⟨bT, 4, none⟩ = some (wV t.L 4) ∧ wx.cell? ⟨bT, 5, none⟩ = some (wV t.L 5) ∧ wx.cell? ⟨bT, 6, none⟩ = some (wV t.L 6) ∧ wx.cell? ⟨bT, 7, none⟩ = some (wV t.L 7) ∧ wx.cell? ⟨bT, 8, none⟩ = some (.int .i64 (t.L.length : Nat)) ∧ wx.cell? ⟨bT, 9, none⟩ = some (.int .u8 (t.b : Nat)) ∧ wx.cell? ⟨bT, 10, none⟩ = some (.int .u8 (t.l : Nat)))) 6 (by kernel_rfl) (KEEP.out _ ((Below.refl _ _).drew)) (fun hHeld => ?_)
          obtain ⟨wz, hwz⟩ : ∃ X, X = wr.drew := ⟨_, rfl⟩
          have HX := Lib.hid (show Below wr.heap.size wr wz by rw [hwz]; exact (Below.refl _ _).drew)
          replace hHeld := KEEP.out _ HX.out
          rw [← hwz]
          clear hwz
          refine ti 0 rfl (fun w hSw => by (try dsimp only at hSw); go_simp; try with_reducible rfl) ?_
          go_frame
          refine ti 1 rfl (fun w hSw => by (try dsimp only at hSw); go_simp; try with_reducible rfl) ?_
          go_frame
          refine ti 2 rfl (fun w hSw => by (try dsimp only at hSw); go_simp; try with_reducible rfl) ?_
          go_frame
          refine ti 3 rfl (fun w hSw => by (try dsimp only at hSw); go_simp; try with_reducible rfl) ?_
          go_frame
          refine ti 4 rfl (fun w hSw => by (try dsimp only at hSw); go_simp; try with_reducible rfl) ?_
          go_frame
          refine th 5 rfl (by kernel_rfl) (by decide) (by kernel_rfl) (fun K hK => ?_)
          go_simp
          refine (HD.out _ (HS.out.below HX.out)).mono ?_
          rintro e wd ⟨rfl, bb⟩
          replace HX := Lib.hid (HX.out.trans (bb.mono HX.out.size))
          clear bb
          go_wp2_with fail
          refine hK.out _ _ (KEEP.out _ HX.out) (fun hHeld => ?_)
          clear hK K
          try go_frame
          obtain ⟨d0, d1, d2, d3, d4, d5, d6, d7, d8, d9, d10⟩ := (HK.out.2.below HX.out).cells
          have f := zeros_at (HK.out.2.below HX.out)
          have f0 := f 0
          have f1 := f 1
          have f2 := f 2
          have f3 := f 3
          have f4 := f 4
          have f5 := f 5
          have f6 := f 6
          have f7 := f 7
          have f8 := f 8
          have f9 := f 9
          have f10 := f 10
          clear f
          refine tx rfl (by kernel_rfl) (by kernel_rfl) (by kernel_rfl) (fun K hK => ?_)
          go_simp
          refine hK.out _ _ ?_
          clear hK K hHeld KEEP
          try go_frame
          go_wp2
          go_roundw
          case rel =>
            refine ⟨i + 1, by go_num, Lib.hid ⟨H12.out.1, H12.out.2⟩, Lib.hid ⟨?_, ?_⟩⟩
            · exact (HK.out.1.trans (HX.out.mono HK.out.1.size)).trans ((putT_below (b := bT) (Nat.le_refl _) tn).mono HBT1.out)
            · rw [← HTN.out]
              exact putT_at (HK.out.2.below HX.out) tn
          case measure => simp only [intOf]; have := H12.out; omega
        · have g2 : ¬ (i : Int) < 20 := by omega
          go_wp2
          go_meet
          case rel => exact ⟨i, Lib.hid HK.out⟩
      · go_wp2
        go_meet
        case rel => exact ⟨i, Lib.hid HK.out⟩
  case rest =>
    obtain ⟨i, HC⟩ := hcut
    have HOK := Lib.hid (runT_ok (AL := AL) HOK0.out i)
    have HTB := Lib.hid (show (runT AL T0 i).b = 0 from (runT_base AL i T0).trans HB00.out)
    obtain ⟨t, ht⟩ : ∃ t, t = runT AL T0 i := ⟨_, rfl⟩
    rw [← ht] at HC HOK HTB
    clear ht HT01 HOK0 HAC
    obtain ⟨x0, hx0⟩ : ∃ x, x = wc := ⟨_, rfl⟩
    rw [← hx0] at HC ⊢
    clear hx0
    have HLI := Lib.hid (fun w => list_any t HOK.out.len w)
    obtain ⟨c0, c1, c2, c3, c4, c5, c6, c7, c8, c9, c10⟩ := HC.out.2.cells
    go_wp2_with fail
    refine (HLI.out _).mono ?_
    rintro e x1 ⟨v9, rfl, ow, bb⟩
    obtain ⟨q9, hq9⟩ : ∃ q, q = (stops t.L).length := ⟨_, rfl⟩
    have HW9 := Lib.hid (isIn_of ow)
    obtain ⟨va, vc, hv9⟩ := own_shape ow
    rw [← hq9] at hv9
    subst hv9
    have HX1 := Lib.hid (HC.out.1.trans (bb.mono HC.out.1.size))
    have HT1 := Lib.hid (HC.out.2.below bb)
    clear ow bb HC hq9 c0 c1 c2 c3 c4 c5 c6 c7 c8 c9 c10
    have HCO := Lib.hid (fun wx (hx : Below w1.heap.size w1 wx) => actcols_any X (.slice xa xn xc) wx ((HXS.out.below HB1.out).below hx))
    obtain ⟨_, a0, a1, a2, a3⟩ := HA1.out.below HX1.out
    go_wp2_with fail
    refine (HCO.out _ HX1.out).mono ?_
    rintro e x2 ⟨v10, rfl, hI, bb⟩
    obtain ⟨cs, hcs⟩ : ∃ c, c = X.l.take 10 := ⟨_, rfl⟩
    rw [← hcs] at hI
    obtain ⟨oa, oc, hv10⟩ := hI.shape
    have HOW := Lib.hid hI
    obtain ⟨on, hon⟩ : ∃ n, n = cs.length := ⟨_, rfl⟩
    have HON := Lib.hid (show cs.length = on ∧ on ≤ 10 by rw [hon, hcs, List.length_take]; omega)
    subst hv10
    rw [← hon] at HOW
    have HX2 := Lib.hid (HX1.out.trans (bb.mono HX1.out.size))
    have HT2 := Lib.hid (HT1.out.below bb)
    have HW2 := Lib.hid (HW9.out.below bb)
    rw [← hon]
    clear bb hI hcs hon HX1 HT1 HW9 HLI a0 a1 a2 a3 HCO
    have HBY := Lib.hid (fun w => by_any X (.slice xa xn xc) w)
    obtain ⟨lv, hlv⟩ : ∃ l, l = lvN X.high := ⟨_, rfl⟩
    have HLV := Lib.hid (show lv ≤ 1 by rw [hlv]; exact lvN_le _)
    have HLVE := Lib.hid hlv
    rw [← hlv] at HBY
    clear hlv
    obtain ⟨tS, htS⟩ : ∃ x, x = t.put true lv cs := ⟨_, rfl⟩
    obtain ⟨tC, htC⟩ : ∃ x, x = t.put false lv cs := ⟨_, rfl⟩
    have HSE := Lib.hid (fun w h => set_any t HOK.out lv HLV.out (.slice oa on oc) cs w h (by have := HON.out; omega))
    have HCE := Lib.hid (fun w h => clear_any t HOK.out lv HLV.out (.slice oa on oc) cs w h (by have := HON.out; omega))
    rw [← htS] at HSE
    rw [← htC] at HCE
    have HTS := Lib.hid htS
    have HTC := Lib.hid htC
    clear htS htC
    have KEEP := Lib.hid (show ∀ wx, Below x2.heap.size x2 wx → (wx.cell? ⟨b5, 0, none⟩ = some (.int .u8 (X.what : Nat)) ∧ wx.cell? ⟨b5, 1, none⟩ = some (.bool X.high) ∧ wx.cell? ⟨b5, 2, none⟩ = some (.slice xa xn xc) ∧ wx.cell? ⟨b5, 3, none⟩ = some (.int .i16 X.cols)) ∧ wx.cell? ⟨bT, 0, none⟩ = some (wV t.L 0) ∧ wx.cell? ⟨bT, 1, none⟩ = some (wV t.L 1) ∧ wx.cell? ⟨bT, 2, none⟩ = some (wV t.L 2) ∧ wx.cell? ⟨bT, 3, none⟩ = some (wV t.L 3) ∧ wx.cell? ⟨bT, 4, none⟩ = some (wV t.L 4) ∧ wx.cell? ⟨bT, 5, none⟩ = some (wV t.L 5) ∧ wx.cell? ⟨bT, 6, none⟩ = some (wV t.L 6) ∧ wx.cell? ⟨bT, 7, none⟩ = some (wV t.L 7) ∧ wx.cell? ⟨bT, 8, none⟩ = some (.int .i64 (t.L.length : Nat)) ∧ wx.cell? ⟨bT, 9, none⟩ = some (.int .u8 (t.b : Nat)) ∧ wx.cell? ⟨bT, 10, none⟩ = some (.int .u8 (t.l : Nat)) from fun wx hx => ⟨((HA1.out.below HX2.out).below hx).2, (HT2.out.below hx).cells⟩)
    go_upto_region 10 with (fail)
    go_cut [11, 12] (fun v11 v12 wc => ∃ p q, v11 = .pointer (some ⟨p, 0, none⟩) ∧ v12 = .pointer (some ⟨q, 0, none⟩) ∧ Hid (Below x2.heap.size x2 wc ∧ TbAt wc p tS ∧ TbAt wc q tC ∧ x2.heap.size ≤ p ∧ x2.heap.size ≤ q))
    case first =>
      refine wp_region_held_drew (S := (fun wx => (wx.cell? ⟨b5, 0, none⟩ = some (.int .u8 (X.what : Nat)) ∧ wx.cell? ⟨b5, 1, none⟩ = some (.bool X.high) ∧ wx.cell? ⟨b5, 2, none⟩ = some (.slice xa xn xc) ∧ wx.cell? ⟨b5, 3, none⟩ = some (.int .i16 X.cols)) ∧ wx.cell? ⟨bT, 0, none⟩ = some (wV t.L 0) ∧ wx.cell? ⟨bT, 1, none⟩ = some (wV t.L 1) ∧ wx.cell? ⟨bT, 2, none⟩ = some (wV t.L 2) ∧ wx.cell? ⟨bT, 3, none⟩ = some (wV t.L 3) ∧ wx.cell? ⟨bT, 4, none⟩ = some (wV t.L 4) ∧ wx.cell? ⟨bT, 5, none⟩ = some (wV t.L 5) ∧ wx.cell? ⟨bT, 6, none⟩ = some (wV t.L 6) ∧ wx.cell? ⟨bT, 7, none⟩ = some (wV t.L 7) ∧ wx.cell? ⟨bT, 8, none⟩ = some (.int .i64 (t.L.length : Nat)) ∧ wx.cell? ⟨bT, 9, none⟩ = some (.int .u8 (t.b : Nat)) ∧ wx.cell? ⟨bT, 10, none⟩ = some (.int .u8 (t.l : Nat)))) (by kernel_rfl) ?_ (fun hHeld => ?_)
      · exact KEEP.out _ ((Below.refl _ _).drew)
      obtain ⟨wz, hwz⟩ : ∃ X, X = x2.drew := ⟨_, rfl⟩
      have HX := Lib.hid (show Below x2.heap.size x2 wz by rw [hwz]; exact (Below.refl _ _).drew)
      replace hHeld := KEEP.out _ HX.out
      rw [← hwz]
      clear hwz
      refine tk 0 rfl (fun w hSw => by (try dsimp only at hSw); go_simp; try with_reducible rfl) ?_
      go_frame
      refine tk 1 rfl (fun w hSw => by (try dsimp only at hSw); go_simp; try with_reducible rfl) ?_
      go_frame
      refine tk 3 rfl (fun w hSw => by (try dsimp only at hSw); go_simp; try with_reducible rfl) ?_
      go_frame
      refine tk 5 rfl (fun w hSw => by (try dsimp only at hSw); go_simp; try with_reducible rfl) ?_
      go_frame
      refine tk 6 rfl (fun w hSw => by (try dsimp only at hSw); go_simp; try with_reducible rfl) ?_
      go_frame
      refine tk 8 rfl (fun w hSw => by (try dsimp only at hSw); go_simp; try with_reducible rfl) ?_
      go_frame
      refine many_at (I := [(2, some 45), (4, some 47), (7, some 50), (9, some 52), (10, some 11), (11, some 12)]) (fun i => if i = 4 then [2] else if i = 7 then [4] else if i = 9 then [4, 7] else []) [true, true, false, true, false, true, true, false, true, false, false, false, false, false] (listed' := #[true, true, true, true, true, true, true, true, true, true, true, true, false, false]) (SI x2 [(2, .int .u8 (lv : Nat)), (4, tbV tS), (7, .int .u8 (lv : Nat)), (9, tbV tC)] [10, 11]) rfl rfl (by decide) (by kernel_rfl) (by kernel_rfl) (fun y => SI.start _ _ y HX.out) hHeld ?_ ?_
      · clear HX hHeld
        refine List.forall_mem_cons.2 ⟨?_, List.forall_mem_cons.2 ⟨?_, List.forall_mem_cons.2 ⟨?_, List.forall_mem_cons.2 ⟨?_, List.forall_mem_cons.2 ⟨?_, List.forall_mem_cons.2 ⟨?_, fun _ h => by cases h⟩⟩⟩⟩⟩⟩
        · refine StepM.mk rfl rfl (fun y => by kernel_rfl) (fun f y u hf hdp hI hHeld K hK => ?_)
          have HI := Lib.hid hI
          clear hI hf hdp
          simp only [actM, List.foldl_cons, List.foldl_nil, Act.put, List.setIfInBounds_toArray, List.set_cons_zero, List.set_cons_succ]
          go_simp
          refine (HBY.out _).mono ?_
          rintro e u' ⟨rfl, bb⟩
          have HI' := Lib.hid (HI.out.call 2 (.int .u8 (lv : Nat)) (fun p hp e => by simp only [List.mem_cons, List.not_mem_nil, or_false] at hp; rcases hp with rfl | rfl | rfl | rfl <;> first | rfl | (simp at e)) (by decide) bb)
          clear HI bb
          go_wp2_with fail
          exact hK.out (.int .u8 (lv : Nat)) _ _ (by kernel_rfl) HI'.out (KEEP.out _ HI'.out.below)
        · refine StepM.mk rfl rfl (fun y => by kernel_rfl) (fun f y u hf hdp hI hHeld K hK => ?_)
          have HI := Lib.hid hI
          have e2 := hI.val (2, .int .u8 (lv : Nat)) (by simp) (hdp _ (by simp))
          clear hI hf hdp
          simp only [actM, List.foldl_cons, List.foldl_nil, Act.put, List.setIfInBounds_toArray, List.set_cons_zero, List.set_cons_succ]
          rw [e2]
          go_simp
          refine (HSE.out _ (HOW.out.below HI.out.below)).mono ?_
          rintro e u' ⟨rfl, bb⟩
          have HI' := Lib.hid (HI.out.call 4 (tbV tS) (fun p hp e => by simp only [List.mem_cons, List.not_mem_nil, or_false] at hp; rcases hp with rfl | rfl | rfl | rfl <;> first | rfl | (simp at e)) (by decide) bb)
          clear HI bb
          go_wp2_with fail
          exact hK.out (tbV tS) _ _ (by simp only [actM, List.foldl_cons, List.foldl_nil, Act.put, List.setIfInBounds_toArray, List.set_cons_zero, List.set_cons_succ]; rw [e2]) HI'.out (KEEP.out _ HI'.out.below)
        · refine StepM.mk rfl rfl (fun y => by kernel_rfl) (fun f y u hf hdp hI hHeld K hK => ?_)
          have HI := Lib.hid hI
          clear hI hf hdp
          simp only [actM, List.foldl_cons, List.foldl_nil, Act.put, List.setIfInBounds_toArray, List.set_cons_zero, List.set_cons_succ]
          go_simp
          refine (HBY.out _).mono ?_
          rintro e u' ⟨rfl, bb⟩
          have HI' := Lib.hid (HI.out.call 7 (.int .u8 (lv : Nat)) (fun p hp e => by simp only [List.mem_cons, List.not_mem_nil, or_false] at hp; rcases hp with rfl | rfl | rfl | rfl <;> first | rfl | (simp at e)) (by decide) bb)
          clear HI bb
          go_wp2_with fail
          exact hK.out (.int .u8 (lv : Nat)) _ _ (by kernel_rfl) HI'.out (KEEP.out _ HI'.out.below)
        · refine StepM.mk rfl rfl (fun y => by kernel_rfl) (fun f y u hf hdp hI hHeld K hK => ?_)
          have HI := Lib.hid hI
          have e7 := hI.val (7, .int .u8 (lv : Nat)) (by simp) (hdp _ (by simp))
          clear hI hf hdp
          simp only [actM, List.foldl_cons, List.foldl_nil, Act.put, List.setIfInBounds_toArray, List.set_cons_zero, List.set_cons_succ]
          rw [e7]
          go_simp
          refine (HCE.out _ (HOW.out.below HI.out.below)).mono ?_
          rintro e u' ⟨rfl, bb⟩
          have HI' := Lib.hid (HI.out.call 9 (tbV tC) (fun p hp e => by simp only [List.mem_cons, List.not_mem_nil, or_false] at hp; rcases hp with rfl | rfl | rfl | rfl <;> first | rfl | (simp at e)) (by decide) bb)
          clear HI bb
          go_wp2_with fail
          exact hK.out (tbV tC) _ _ (by simp only [actM, List.foldl_cons, List.foldl_nil, Act.put, List.setIfInBounds_toArray, List.set_cons_zero, List.set_cons_succ]; rw [e7]) HI'.out (KEEP.out _ HI'.out.below)
        · refine StepM.mk rfl rfl (fun y => by kernel_rfl) (fun f y u hf hdp hI hHeld K hK => ?_)
          have HI' := Lib.hid (hI.new 10 (fun p hp => by simp only [List.mem_cons, List.not_mem_nil, or_false] at hp; rcases hp with rfl | rfl | rfl | rfl <;> simp))
          clear hI hf hdp
          simp only [actM, List.foldl_cons, List.foldl_nil, Act.put, List.setIfInBounds_toArray, List.set_cons_zero, List.set_cons_succ]
          go_wp2_with fail
          exact hK.out (.pointer (some ⟨u.heap.size, 0, none⟩)) _ _ (by kernel_rfl) HI'.out (KEEP.out _ HI'.out.below)
        · refine StepM.mk rfl rfl (fun y => by kernel_rfl) (fun f y u hf hdp hI hHeld K hK => ?_)
          have HI' := Lib.hid (hI.new 11 (fun p hp => by simp only [List.mem_cons, List.not_mem_nil, or_false] at hp; rcases hp with rfl | rfl | rfl | rfl <;> simp))
          clear hI hf hdp
          simp only [actM, List.foldl_cons, List.foldl_nil, Act.put, List.setIfInBounds_toArray, List.set_cons_zero, List.set_cons_succ]
          go_wp2_with fail
          exact hK.out (.pointer (some ⟨u.heap.size, 0, none⟩)) _ _ (by kernel_rfl) HI'.out (KEEP.out _ HI'.out.below)
      · intro y u hI hHeld
        have e4 := hI.val (4, tbV tS) (by simp) rfl
        have e9 := hI.val (9, tbV tC) (by simp) rfl
        obtain ⟨p, ep, hp, hpl⟩ := hI.ptr 10 (by simp) rfl
        obtain ⟨q, eq, hq, hql⟩ := hI.ptr 11 (by simp) rfl
        have hne : p ≠ q := fun e => hI.ne 10 (by simp) 11 (by simp) (by decide) rfl rfl (by rw [ep, eq, e])
        have HP := Lib.hid hp
        have HQ := Lib.hid hq
        have HNE := Lib.hid (show p ≠ q ∧ q ≠ p ∧ x2.heap.size ≤ p ∧ x2.heap.size ≤ q from ⟨hne, hne.symm, hpl, hql⟩)
        have HXU := Lib.hid hI.below
        simp only [actM, List.foldl_cons, List.foldl_nil, Act.put, List.setIfInBounds_toArray, List.set_cons_zero, List.set_cons_succ]
        rw [e4, e9, ep, eq]
        clear e4 e9 ep eq hp hq hpl hql hne hI HX
        obtain ⟨c0, c1, c2, c3, c4, c5, c6, c7, c8, c9, c10⟩ := HP.out.cells
        have f := zeros_at HP.out
        have f0 := f 0
        have f1 := f 1
        have f2 := f 2
        have f3 := f 3
        have f4 := f 4
        have f5 := f 5
        have f6 := f 6
        have f7 := f 7
        have f8 := f 8
        have f9 := f 9
        have f10 := f 10
        clear f
        obtain ⟨wA, hwA⟩ : ∃ X, X = (((((((((((u.setCell ⟨p, 0, none⟩ (wV tS.L 0)).setCell ⟨p, 1, none⟩ (wV tS.L 1)).setCell ⟨p, 2, none⟩ (wV tS.L 2)).setCell ⟨p, 3, none⟩ (wV tS.L 3)).setCell ⟨p, 4, none⟩ (wV tS.L 4)).setCell ⟨p, 5, none⟩ (wV tS.L 5)).setCell ⟨p, 6, none⟩ (wV tS.L 6)).setCell ⟨p, 7, none⟩ (wV tS.L 7)).setCell ⟨p, 8, none⟩ (.int .i64 (tS.L.length : Nat))).setCell ⟨p, 9, none⟩ (.int .u8 (tS.b : Nat))).setCell ⟨p, 10, none⟩ (.int .u8 (tS.l : Nat))) := ⟨_, rfl⟩
        have HPA := Lib.hid (show TbAt wA p tS by rw [hwA]; exact putT_at HP.out tS)
        have HQA := Lib.hid (show TbAt wA q Tb.zero by rw [hwA]; exact putT_other HQ.out HNE.out.2.1)
        have HXA := Lib.hid (show Below x2.heap.size x2 wA by rw [hwA]; exact HXU.out.trans ((putT_below (b := p) (Nat.le_refl _) tS).mono HNE.out.2.2.1))
        refine do_at (i := 12) rfl (by kernel_rfl) (by kernel_rfl) (fun K hK => ?_)
        go_simp
        rw [← hwA]
        clear hwA c0 c1 c2 c3 c4 c5 c6 c7 c8 c9 c10 f0 f1 f2 f3 f4 f5 f6 f7 f8 f9 f10
        refine hK.out _ _ ?_ (fun hHeld => ?_)
        · exact KEEP.out _ HXA.out
        clear hK K
        try go_frame
        obtain ⟨c0, c1, c2, c3, c4, c5, c6, c7, c8, c9, c10⟩ := HQA.out.cells
        have f := zeros_at HQA.out
        have f0 := f 0
        have f1 := f 1
        have f2 := f 2
        have f3 := f 3
        have f4 := f 4
        have f5 := f 5
        have f6 := f 6
        have f7 := f 7
        have f8 := f 8
        have f9 := f 9
        have f10 := f 10
        clear f
        obtain ⟨wB, hwB⟩ : ∃ X, X = (((((((((((wA.setCell ⟨q, 0, none⟩ (wV tC.L 0)).setCell ⟨q, 1, none⟩ (wV tC.L 1)).setCell ⟨q, 2, none⟩ (wV tC.L 2)).setCell ⟨q, 3, none⟩ (wV tC.L 3)).setCell ⟨q, 4, none⟩ (wV tC.L 4)).setCell ⟨q, 5, none⟩ (wV tC.L 5)).setCell ⟨q, 6, none⟩ (wV tC.L 6)).setCell ⟨q, 7, none⟩ (wV tC.L 7)).setCell ⟨q, 8, none⟩ (.int .i64 (tC.L.length : Nat))).setCell ⟨q, 9, none⟩ (.int .u8 (tC.b : Nat))).setCell ⟨q, 10, none⟩ (.int .u8 (tC.l : Nat))) := ⟨_, rfl⟩
        have HQB := Lib.hid (show TbAt wB q tC by rw [hwB]; exact putT_at HQA.out tC)
        have HPB := Lib.hid (show TbAt wB p tS by rw [hwB]; exact putT_other HPA.out HNE.out.1)
        have HXB := Lib.hid (show Below x2.heap.size x2 wB by rw [hwB]; exact HXA.out.trans ((putT_below (b := q) (Nat.le_refl _) tC).mono HNE.out.2.2.2))
        refine do_at (i := 13) rfl (by kernel_rfl) (by kernel_rfl) (fun K hK => ?_)
        go_simp
        rw [← hwB]
        clear hwB c0 c1 c2 c3 c4 c5 c6 c7 c8 c9 c10 f0 f1 f2 f3 f4 f5 f6 f7 f8 f9 f10
        refine hK.out _ _ ?_ (fun hHeld => ?_)
        · exact KEEP.out _ HXB.out
        clear hK K
        try go_frame
        refine wpAnyH_done (by kernel_rfl) ?_ _
        go_wp2
        go_meet
        case rel => exact ⟨p, q, rfl, rfl, Lib.hid ⟨HXB.out, HPB.out, HQB.out, HNE.out.2.2.1, HNE.out.2.2.2⟩⟩
    case rest =>
      obtain ⟨p, q, rfl, rfl, HC⟩ := hcut
      obtain ⟨x3, hx3⟩ : ∃ x, x = wc := ⟨_, rfl⟩
      rw [← hx3] at HC ⊢
      clear hx3 KEEP HBY HSE HCE
      have HXW := Lib.hid (show Below w.heap.size w x3 from HB1.out.trans ((HX2.out.trans (HC.out.1.mono HX2.out.size)).mono HB1.out.size))
      have HT3 := Lib.hid (HT2.out.below HC.out.1)
      have HA3 := Lib.hid ((HA1.out.below HX2.out).below HC.out.1)
      have HO3 := Lib.hid (HOW.out.below HC.out.1)
      have HW3 := Lib.hid (HW2.out.below HC.out.1)
      have HP3 := Lib.hid HC.out.2.1
      have HQ3 := Lib.hid HC.out.2.2.1
      clear HC HT2 HA1 HOW HW2 HX2 HB1
      have HSO := Lib.hid (show tS.Ok ∧ tC.Ok by rw [HTS.out, HTC.out]; exact ⟨HOK.out.put _ HLV.out _, HOK.out.put _ HLV.out _⟩)
      have HCT := Lib.hid (fun w => cols_any t w)
      obtain ⟨m, hm⟩ : ∃ m, m = t.L.length := ⟨_, rfl⟩
      have HM := Lib.hid (show t.L.length = m ∧ m ≤ 512 by have := HOK.out.len; omega)
      rw [← hm] at HCT
      clear hm
      go_upto_block 2 with (fail)
      go_cut [] (fun wc => Hid (Below x3.heap.size x3 wc))
      case first =>
        go_wp2_with fail
        go_loopw [13] (fun v wr => ∃ (k : Nat) (z : Int), v = .int .i64 z ∧ Hid (z = (k : Int) - 1 ∧ k ≤ m + 2) ∧ Hid (Below x3.heap.size x3 wr)) (fun v wr => (520 - intOf v).toNat)
        case atStart => exact ⟨0, -1, rfl, Lib.hid ⟨rfl, by omega⟩, Lib.hid (Below.refl _ _)⟩
        case round =>
          obtain ⟨k, z, rfl, HZ, HK⟩ := hrel
          have HTr := Lib.hid (HT3.out.below HK.out)
          obtain ⟨c0, c1, c2, c3, c4, c5, c6, c7, c8, c9, c10⟩ := HTr.out.cells
          go_wp2_with fail
          refine (HCT.out _).mono ?_
          rintro e z1 ⟨rfl, bb⟩
          have HK1 := Lib.hid (HK.out.trans (bb.mono HK.out.size))
          clear bb HTr c0 c1 c2 c3 c4 c5 c6 c7 c8 c9 c10
          by_cases hlt : z ≤ (m : Int)
          · have HLT := Lib.hid hlt
            have u1 : IntKind.i64.wrap (z + 1) = z + 1 := by rw [IntKind.wrap_i64]; have := HZ.out; have := HM.out; omega
            obtain ⟨inb, hinb⟩ : ∃ b, b = decide (z ∈ cs) := ⟨_, rfl⟩
            have HIN := Lib.hid hinb
            clear hinb
            go_upto_block 4 with (fail)
            go_cut [14] (fun v14 wc => v14 = .bool inb ∧ Hid (wc = z1))
            case first =>
              go_wp2_with fail
              go_loopw [14, 15] (fun v x wr => ∃ i : Nat, x = .int .i64 (i : Nat) ∧ v = .bool (decide (z ∈ cs.take i)) ∧ Hid (i ≤ on) ∧ Hid (wr = z1)) (fun v x wr => on - (intOf x).toNat)
              case atStart => exact ⟨0, rfl, by simp, Lib.hid (Nat.zero_le _), Lib.hid rfl⟩
              case round =>
                rename_i v x
                obtain ⟨i, rfl, rfl, HI, HE⟩ := hrel
                rw [HE.out]
                by_cases h1 : i < on
                · have H1 := Lib.hid h1
                  have u2 : IntKind.i64.wrap ((i : Int) + 1) = ((i + 1 : Nat) : Int) := by rw [IntKind.wrap_i64]; have := HON.out; omega
                  obtain ⟨g, o, hva, hc⟩ := (HO3.out.below HK1.out).get (i := i) (by rw [HON.out.1]; exact h1)
                  subst hva
                  obtain ⟨y, hy⟩ : ∃ y, y = cs[i]'(by rw [HON.out.1]; exact h1) := ⟨_, rfl⟩
                  rw [← hy] at hc
                  have HTK := Lib.hid (show decide (z ∈ cs.take (i + 1)) = (decide (z ∈ cs.take i) || (y == z)) by
                    rw [List.take_succ_eq_append_getElem (by rw [HON.out.1]; exact H1.out), ← hy]
                    by_cases e1 : z ∈ cs.take i
                    · simp [e1]
                    · by_cases e2 : y = z
                      · simp [e1, e2]
                      · simp [e1, e2, Ne.symm e2])
                  clear hy
                  obtain ⟨bi, hbi⟩ : ∃ b, b = decide (z ∈ cs.take i) := ⟨_, rfl⟩
                  rw [← hbi] at HTK ⊢
                  clear hbi
                  cases bi with
                  | true =>
                    go_wp2
                    go_roundw
                    case rel => exact ⟨i + 1, by go_num, by rw [HTK.out]; rfl, Lib.hid H1.out, Lib.hid (by trivial)⟩
                    case measure => simp only [intOf]; have := H1.out; omega
                  | false =>
                    by_cases hyz : y = z
                    · have g5 : (y == z) = true := by simp [hyz]
                      rw [g5] at HTK
                      clear hyz
                      go_wp2
                      go_roundw
                      case rel => exact ⟨i + 1, by go_num, by rw [HTK.out]; rfl, Lib.hid H1.out, Lib.hid (by trivial)⟩
                      case measure => simp only [intOf]; have := H1.out; omega
                    · have g5 : (y == z) = false := by simp [hyz]
                      rw [g5] at HTK
                      clear hyz
                      go_wp2
                      go_roundw
                      case rel => exact ⟨i + 1, by go_num, by rw [HTK.out]; rfl, Lib.hid H1.out, Lib.hid (by trivial)⟩
                      case measure => simp only [intOf]; have := H1.out; omega
                · have HE2 := Lib.hid (show decide (z ∈ cs.take i) = inb by
                    have := HI.out
                    rw [HIN.out, List.take_of_length_le (by rw [HON.out.1]; omega)])
                  go_wp2
                  go_meet
                  case rel => exact ⟨by rw [HE2.out], Lib.hid (by trivial)⟩
            case rest =>
              obtain ⟨rfl, HE⟩ := hcut
              rw [HE.out]
              clear HE
              obtain ⟨th, hth⟩ : ∃ b, b = (inb && isC t.L z) := ⟨_, rfl⟩
              have HTH := Lib.hid hth
              clear hth
              have HT1 := Lib.hid (HT3.out.below HK1.out)
              go_upto_region 19 with (fail)
              go_cut [14, 16] (fun v14 v16 wc => v14 = .bool inb ∧ v16 = .bool th ∧ Hid (Below z1.heap.size z1 wc))
              case first =>
                cases hib : inb with
                | false =>
                  have HE := Lib.hid (show th = false by rw [HTH.out, hib]; rfl)
                  have HIB := Lib.hid hib
                  clear hib
                  go_wp2
                  go_meet
                  case rel => exact ⟨by rw [HIB.out], by rw [HE.out], Lib.hid (Below.refl _ _)⟩
                | true =>
                  by_cases h0 : 0 ≤ z
                  · have HE := Lib.hid (show th = decide (z < (m : Int)) by
                      rw [HTH.out, hib, Bool.true_and]
                      unfold isC
                      rw [HM.out.1]
                      congr 1
                      simp [h0])
                    have HIB := Lib.hid hib
                    clear hib
                    obtain ⟨c0, c1, c2, c3, c4, c5, c6, c7, c8, c9, c10⟩ := HT1.out.cells
                    go_wp2_with fail
                    refine (HCT.out _).mono ?_
                    rintro e z2 ⟨rfl, bb⟩
                    have HBB := Lib.hid bb
                    clear bb c0 c1 c2 c3 c4 c5 c6 c7 c8 c9 c10
                    go_wp2
                    go_meet
                    case rel => exact ⟨by rw [HIB.out], by rw [HE.out], HBB⟩
                  · have HE := Lib.hid (show th = false by
                      rw [HTH.out]
                      unfold isC
                      rw [decide_eq_false (by omega), Bool.and_false])
                    have HIB := Lib.hid hib
                    clear hib
                    go_wp2
                    go_meet
                    case rel => exact ⟨by rw [HIB.out], by rw [HE.out], Lib.hid (Below.refl _ _)⟩
              case rest =>
                obtain ⟨rfl, rfl, HCE⟩ := hcut
                obtain ⟨z2, hz2⟩ : ∃ x, x = wc := ⟨_, rfl⟩
                rw [← hz2] at HCE ⊢
                clear hz2
                have HK2 := Lib.hid (HK1.out.trans (HCE.out.mono HK1.out.size))
                obtain ⟨hT, hhT⟩ : ∃ b, b = hasM t.L z := ⟨_, rfl⟩
                have hin : (z ∈ cs ∧ isC t.L z = true) ↔ th = true := by
                  rw [HTH.out, HIN.out, Bool.and_eq_true, decide_eq_true_iff]
                have HHT := Lib.hid (fun w => has_val t HOK.out z hT hhT.symm w)
                have HHS := Lib.hid (fun w => has_val tS HSO.out.1 z (hT || th) (by
                  rw [HTS.out]
                  show hasM (putL true t.L cs) z = _
                  rw [has_put, hhT]
                  cases th with
                  | true => rw [if_pos (hin.2 rfl), Bool.or_true]
                  | false => rw [if_neg (fun e => by have := hin.1 e; cases this), Bool.or_false]) w)
                have HHC := Lib.hid (fun w => has_val tC HSO.out.2 z (hT && !th) (by
                  rw [HTC.out]
                  show hasM (putL false t.L cs) z = _
                  rw [has_put, hhT]
                  cases th with
                  | true => rw [if_pos (hin.2 rfl), Bool.not_true, Bool.and_false]
                  | false => rw [if_neg (fun e => by have := hin.1 e; cases this), Bool.not_false, Bool.and_true]) w)
                clear hin hhT HTH
                have KEEP := Lib.hid (show ∀ wx, Below z2.heap.size z2 wx → (wx.cell? ⟨bT, 0, none⟩ = some (wV t.L 0) ∧ wx.cell? ⟨bT, 1, none⟩ = some (wV t.L 1) ∧ wx.cell? ⟨bT, 2, none⟩ = some (wV t.L 2) ∧ wx.cell? ⟨bT, 3, none⟩ = some (wV t.L 3) ∧ wx.cell? ⟨bT, 4, none⟩ = some (wV t.L 4) ∧ wx.cell? ⟨bT, 5, none⟩ = some (wV t.L 5) ∧ wx.cell? ⟨bT, 6, none⟩ = some (wV t.L 6) ∧ wx.cell? ⟨bT, 7, none⟩ = some (wV t.L 7) ∧ wx.cell? ⟨bT, 8, none⟩ = some (.int .i64 (t.L.length : Nat)) ∧ wx.cell? ⟨bT, 9, none⟩ = some (.int .u8 (t.b : Nat)) ∧ wx.cell? ⟨bT, 10, none⟩ = some (.int .u8 (t.l : Nat))) ∧ (wx.cell? ⟨p, 0, none⟩ = some (wV tS.L 0) ∧ wx.cell? ⟨p, 1, none⟩ = some (wV tS.L 1) ∧ wx.cell? ⟨p, 2, none⟩ = some (wV tS.L 2) ∧ wx.cell? ⟨p, 3, none⟩ = some (wV tS.L 3) ∧ wx.cell? ⟨p, 4, none⟩ = some (wV tS.L 4) ∧ wx.cell? ⟨p, 5, none⟩ = some (wV tS.L 5) ∧ wx.cell? ⟨p, 6, none⟩ = some (wV tS.L 6) ∧ wx.cell? ⟨p, 7, none⟩ = some (wV tS.L 7) ∧ wx.cell? ⟨p, 8, none⟩ = some (.int .i64 (tS.L.length : Nat)) ∧ wx.cell? ⟨p, 9, none⟩ = some (.int .u8 (tS.b : Nat)) ∧ wx.cell? ⟨p, 10, none⟩ = some (.int .u8 (tS.l : Nat))) ∧ wx.cell? ⟨q, 0, none⟩ = some (wV tC.L 0) ∧ wx.cell? ⟨q, 1, none⟩ = some (wV tC.L 1) ∧ wx.cell? ⟨q, 2, none⟩ = some (wV tC.L 2) ∧ wx.cell? ⟨q, 3, none⟩ = some (wV tC.L 3) ∧ wx.cell? ⟨q, 4, none⟩ = some (wV tC.L 4) ∧ wx.cell? ⟨q, 5, none⟩ = some (wV tC.L 5) ∧ wx.cell? ⟨q, 6, none⟩ = some (wV tC.L 6) ∧ wx.cell? ⟨q, 7, none⟩ = some (wV tC.L 7) ∧ wx.cell? ⟨q, 8, none⟩ = some (.int .i64 (tC.L.length : Nat)) ∧ wx.cell? ⟨q, 9, none⟩ = some (.int .u8 (tC.b : Nat)) ∧ wx.cell? ⟨q, 10, none⟩ = some (.int .u8 (tC.l : Nat)) from fun wx hx => ⟨((HT3.out.below HK2.out).below hx).cells, ((HP3.out.below HK2.out).below hx).cells, ((HQ3.out.below HK2.out).below hx).cells⟩)
                cases hT <;> cases th
                · go_upto_region 20 with (fail)
                  refine region_but (S := (fun wx => (wx.cell? ⟨bT, 0, none⟩ = some (wV t.L 0) ∧ wx.cell? ⟨bT, 1, none⟩ = some (wV t.L 1) ∧ wx.cell? ⟨bT, 2, none⟩ = some (wV t.L 2) ∧ wx.cell? ⟨bT, 3, none⟩ = some (wV t.L 3) ∧ wx.cell? ⟨bT, 4, none⟩ = some (wV t.L 4) ∧ wx.cell? ⟨bT, 5, none⟩ = some (wV t.L 5) ∧ wx.cell? ⟨bT, 6, none⟩ = some (wV t.L 6) ∧ wx.cell? ⟨bT, 7, none⟩ = some (wV t.L 7) ∧ wx.cell? ⟨bT, 8, none⟩ = some (.int .i64 (t.L.length : Nat)) ∧ wx.cell? ⟨bT, 9, none⟩ = some (.int .u8 (t.b : Nat)) ∧ wx.cell? ⟨bT, 10, none⟩ = some (.int .u8 (t.l : Nat))) ∧ (wx.cell? ⟨p, 0, none⟩ = some (wV tS.L 0) ∧ wx.cell? ⟨p, 1, none⟩ = some (wV tS.L 1) ∧ wx.cell? ⟨p, 2, none⟩ = some (wV tS.L 2) ∧ wx.cell? ⟨p, 3, none⟩ = some (wV tS.L 3) ∧ wx.cell? ⟨p, 4, none⟩ = some (wV tS.L 4) ∧ wx.cell? ⟨p, 5, none⟩ = some (wV tS.L 5) ∧ wx.cell? ⟨p, 6, none⟩ = some (wV tS.L 6) ∧ wx.cell? ⟨p, 7, none⟩ = some (wV tS.L 7) ∧ wx.cell? ⟨p, 8, none⟩ = some (.int .i64 (tS.L.length : Nat)) ∧ wx.cell? ⟨p, 9, none⟩ = some (.int .u8 (tS.b : Nat)) ∧ wx.cell? ⟨p, 10, none⟩ = some (.int .u8 (tS.l : Nat))) ∧ wx.cell? ⟨q, 0, none⟩ = some (wV tC.L 0) ∧ wx.cell? ⟨q, 1, none⟩ = some (wV tC.L 1) ∧ wx.cell? ⟨q, 2, none⟩ = some (wV tC.L 2) ∧ wx.cell? ⟨q, 3, none⟩ = some (wV tC.L 3) ∧ wx.cell? ⟨q, 4, none⟩ = some (wV tC.L 4) ∧ wx.cell? ⟨q, 5, none⟩ = some (wV tC.L 5) ∧ wx.cell? ⟨q, 6, none⟩ = some (wV tC.L 6) ∧ wx.cell? ⟨q, 7, none⟩ = some (wV tC.L 7) ∧ wx.cell? ⟨q, 8, none⟩ = some (.int .i64 (tC.L.length : Nat)) ∧ wx.cell? ⟨q, 9, none⟩ = some (.int .u8 (tC.b : Nat)) ∧ wx.cell? ⟨q, 10, none⟩ = some (.int .u8 (tC.l : Nat)))) 22 (by kernel_rfl) (KEEP.out _ ((Below.refl _ _).drew)) (fun hHeld => ?_)
                  obtain ⟨wz, hwz⟩ : ∃ X, X = z2.drew := ⟨_, rfl⟩
                  have HX := Lib.hid (show Below z2.heap.size z2 wz by rw [hwz]; exact (Below.refl _ _).drew)
                  replace hHeld := KEEP.out _ HX.out
                  rw [← hwz]
                  clear hwz
                  refine ti 0 rfl (fun w hSw => by (try dsimp only at hSw); go_simp; try with_reducible rfl) ?_
                  go_frame
                  refine ti 1 rfl (fun w hSw => by (try dsimp only at hSw); go_simp; try with_reducible rfl) ?_
                  go_frame
                  refine ti 3 rfl (fun w hSw => by (try dsimp only at hSw); go_simp; try with_reducible rfl) ?_
                  go_frame
                  refine ti 4 rfl (fun w hSw => by (try dsimp only at hSw); go_simp; try with_reducible rfl) ?_
                  go_frame
                  refine th 2 rfl (by kernel_rfl) (by decide) (by kernel_rfl) (fun K hK => ?_)
                  go_simp
                  refine (HHS.out _).mono ?_
                  rintro e v1 ⟨rfl, bb⟩
                  replace HX := Lib.hid (HX.out.trans (bb.mono HX.out.size))
                  clear bb
                  go_wp2_with fail
                  refine hK.out _ _ (KEEP.out _ HX.out) (fun hHeld => ?_)
                  clear hK K
                  try go_frame
                  refine th 5 rfl (by kernel_rfl) (by decide) (by kernel_rfl) (fun K hK => ?_)
                  go_simp
                  refine (HHT.out _).mono ?_
                  rintro e v2 ⟨rfl, bb⟩
                  replace HX := Lib.hid (HX.out.trans (bb.mono HX.out.size))
                  clear bb
                  go_wp2_with fail
                  refine hK.out _ _ (KEEP.out _ HX.out) (fun hHeld => ?_)
                  clear hK K
                  try go_frame
                  refine ti 6 rfl (fun w hSw => by (try dsimp only at hSw); go_simp; try with_reducible rfl) ?_
                  go_frame
                  refine ti 7 rfl (fun w hSw => by (try dsimp only at hSw); go_simp; try with_reducible rfl) ?_
                  go_frame
                  refine ti 8 rfl (fun w hSw => by (try dsimp only at hSw); go_simp; try with_reducible rfl) ?_
                  go_frame
                  refine ti 9 rfl (fun w hSw => by (try dsimp only at hSw); go_simp; try with_reducible rfl) ?_
                  go_frame
                  refine ti 10 rfl (fun w hSw => by (try dsimp only at hSw); go_simp; try with_reducible rfl) ?_
                  go_frame
                  refine ti 11 rfl (fun w hSw => by (try dsimp only at hSw); go_simp; try with_reducible rfl) ?_
                  go_frame
                  refine ti 12 rfl (fun w hSw => by (try dsimp only at hSw); go_simp; try with_reducible rfl) ?_
                  go_frame
                  refine ti 14 rfl (fun w hSw => by (try dsimp only at hSw); go_simp; try with_reducible rfl) ?_
                  go_frame
                  refine ti 15 rfl (fun w hSw => by (try dsimp only at hSw); go_simp; try with_reducible rfl) ?_
                  go_frame
                  refine th 13 rfl (by kernel_rfl) (by decide) (by kernel_rfl) (fun K hK => ?_)
                  go_simp
                  refine (HHC.out _).mono ?_
                  rintro e v3 ⟨rfl, bb⟩
                  replace HX := Lib.hid (HX.out.trans (bb.mono HX.out.size))
                  clear bb
                  go_wp2_with fail
                  refine hK.out _ _ (KEEP.out _ HX.out) (fun hHeld => ?_)
                  clear hK K
                  try go_frame
                  refine th 16 rfl (by kernel_rfl) (by decide) (by kernel_rfl) (fun K hK => ?_)
                  go_simp
                  refine (HHT.out _).mono ?_
                  rintro e v4 ⟨rfl, bb⟩
                  replace HX := Lib.hid (HX.out.trans (bb.mono HX.out.size))
                  clear bb
                  go_wp2_with fail
                  refine hK.out _ _ (KEEP.out _ HX.out) (fun hHeld => ?_)
                  clear hK K
                  try go_frame
                  refine ti 17 rfl (fun w hSw => by (try dsimp only at hSw); go_simp; try with_reducible rfl) ?_
                  go_frame
                  refine ts 18 rfl ?_
                  go_frame
                  refine ts 19 rfl ?_
                  go_frame
                  refine ti 20 rfl (fun w hSw => by (try dsimp only at hSw); go_simp; try with_reducible rfl) ?_
                  go_frame
                  refine ti 21 rfl (fun w hSw => by (try dsimp only at hSw); go_simp; try with_reducible rfl) ?_
                  go_frame
                  refine tx rfl (by kernel_rfl) (by kernel_rfl) (by kernel_rfl) (fun K hK => ?_)
                  go_simp
                  refine hK.out _ _ ?_
                  clear hK K hHeld KEEP
                  try go_frame
                  go_wp2
                  go_roundw
                  case rel => exact ⟨k + 1, z + 1, rfl, Lib.hid ⟨by have := HZ.out; omega, by have := HZ.out; have := HLT.out; omega⟩, Lib.hid (HK2.out.trans (HX.out.mono HK2.out.size))⟩
                  case measure => simp only [intOf]; have := HZ.out; have := HLT.out; have := HM.out; omega
                · go_upto_region 20 with (fail)
                  refine region_but (S := (fun wx => (wx.cell? ⟨bT, 0, none⟩ = some (wV t.L 0) ∧ wx.cell? ⟨bT, 1, none⟩ = some (wV t.L 1) ∧ wx.cell? ⟨bT, 2, none⟩ = some (wV t.L 2) ∧ wx.cell? ⟨bT, 3, none⟩ = some (wV t.L 3) ∧ wx.cell? ⟨bT, 4, none⟩ = some (wV t.L 4) ∧ wx.cell? ⟨bT, 5, none⟩ = some (wV t.L 5) ∧ wx.cell? ⟨bT, 6, none⟩ = some (wV t.L 6) ∧ wx.cell? ⟨bT, 7, none⟩ = some (wV t.L 7) ∧ wx.cell? ⟨bT, 8, none⟩ = some (.int .i64 (t.L.length : Nat)) ∧ wx.cell? ⟨bT, 9, none⟩ = some (.int .u8 (t.b : Nat)) ∧ wx.cell? ⟨bT, 10, none⟩ = some (.int .u8 (t.l : Nat))) ∧ (wx.cell? ⟨p, 0, none⟩ = some (wV tS.L 0) ∧ wx.cell? ⟨p, 1, none⟩ = some (wV tS.L 1) ∧ wx.cell? ⟨p, 2, none⟩ = some (wV tS.L 2) ∧ wx.cell? ⟨p, 3, none⟩ = some (wV tS.L 3) ∧ wx.cell? ⟨p, 4, none⟩ = some (wV tS.L 4) ∧ wx.cell? ⟨p, 5, none⟩ = some (wV tS.L 5) ∧ wx.cell? ⟨p, 6, none⟩ = some (wV tS.L 6) ∧ wx.cell? ⟨p, 7, none⟩ = some (wV tS.L 7) ∧ wx.cell? ⟨p, 8, none⟩ = some (.int .i64 (tS.L.length : Nat)) ∧ wx.cell? ⟨p, 9, none⟩ = some (.int .u8 (tS.b : Nat)) ∧ wx.cell? ⟨p, 10, none⟩ = some (.int .u8 (tS.l : Nat))) ∧ wx.cell? ⟨q, 0, none⟩ = some (wV tC.L 0) ∧ wx.cell? ⟨q, 1, none⟩ = some (wV tC.L 1) ∧ wx.cell? ⟨q, 2, none⟩ = some (wV tC.L 2) ∧ wx.cell? ⟨q, 3, none⟩ = some (wV tC.L 3) ∧ wx.cell? ⟨q, 4, none⟩ = some (wV tC.L 4) ∧ wx.cell? ⟨q, 5, none⟩ = some (wV tC.L 5) ∧ wx.cell? ⟨q, 6, none⟩ = some (wV tC.L 6) ∧ wx.cell? ⟨q, 7, none⟩ = some (wV tC.L 7) ∧ wx.cell? ⟨q, 8, none⟩ = some (.int .i64 (tC.L.length : Nat)) ∧ wx.cell? ⟨q, 9, none⟩ = some (.int .u8 (tC.b : Nat)) ∧ wx.cell? ⟨q, 10, none⟩ = some (.int .u8 (tC.l : Nat)))) 22 (by kernel_rfl) (KEEP.out _ ((Below.refl _ _).drew)) (fun hHeld => ?_)
                  obtain ⟨wz, hwz⟩ : ∃ X, X = z2.drew := ⟨_, rfl⟩
                  have HX := Lib.hid (show Below z2.heap.size z2 wz by rw [hwz]; exact (Below.refl _ _).drew)
                  replace hHeld := KEEP.out _ HX.out
                  rw [← hwz]
                  clear hwz
                  refine ti 0 rfl (fun w hSw => by (try dsimp only at hSw); go_simp; try with_reducible rfl) ?_
                  go_frame
                  refine ti 1 rfl (fun w hSw => by (try dsimp only at hSw); go_simp; try with_reducible rfl) ?_
                  go_frame
                  refine ti 3 rfl (fun w hSw => by (try dsimp only at hSw); go_simp; try with_reducible rfl) ?_
                  go_frame
                  refine ti 4 rfl (fun w hSw => by (try dsimp only at hSw); go_simp; try with_reducible rfl) ?_
                  go_frame
                  refine th 2 rfl (by kernel_rfl) (by decide) (by kernel_rfl) (fun K hK => ?_)
                  go_simp
                  refine (HHS.out _).mono ?_
                  rintro e v1 ⟨rfl, bb⟩
                  replace HX := Lib.hid (HX.out.trans (bb.mono HX.out.size))
                  clear bb
                  go_wp2_with fail
                  refine hK.out _ _ (KEEP.out _ HX.out) (fun hHeld => ?_)
                  clear hK K
                  try go_frame
                  refine th 5 rfl (by kernel_rfl) (by decide) (by kernel_rfl) (fun K hK => ?_)
                  go_simp
                  refine (HHT.out _).mono ?_
                  rintro e v2 ⟨rfl, bb⟩
                  replace HX := Lib.hid (HX.out.trans (bb.mono HX.out.size))
                  clear bb
                  go_wp2_with fail
                  refine hK.out _ _ (KEEP.out _ HX.out) (fun hHeld => ?_)
                  clear hK K
                  try go_frame
                  refine ti 6 rfl (fun w hSw => by (try dsimp only at hSw); go_simp; try with_reducible rfl) ?_
                  go_frame
                  refine ti 7 rfl (fun w hSw => by (try dsimp only at hSw); go_simp; try with_reducible rfl) ?_
                  go_frame
                  refine ti 8 rfl (fun w hSw => by (try dsimp only at hSw); go_simp; try with_reducible rfl) ?_
                  go_frame
                  refine ti 9 rfl (fun w hSw => by (try dsimp only at hSw); go_simp; try with_reducible rfl) ?_
                  go_frame
                  refine ti 10 rfl (fun w hSw => by (try dsimp only at hSw); go_simp; try with_reducible rfl) ?_
                  go_frame
                  refine ti 11 rfl (fun w hSw => by (try dsimp only at hSw); go_simp; try with_reducible rfl) ?_
                  go_frame
                  refine ti 12 rfl (fun w hSw => by (try dsimp only at hSw); go_simp; try with_reducible rfl) ?_
                  go_frame
                  refine ti 14 rfl (fun w hSw => by (try dsimp only at hSw); go_simp; try with_reducible rfl) ?_
                  go_frame
                  refine ti 15 rfl (fun w hSw => by (try dsimp only at hSw); go_simp; try with_reducible rfl) ?_
                  go_frame
                  refine th 13 rfl (by kernel_rfl) (by decide) (by kernel_rfl) (fun K hK => ?_)
                  go_simp
                  refine (HHC.out _).mono ?_
                  rintro e v3 ⟨rfl, bb⟩
                  replace HX := Lib.hid (HX.out.trans (bb.mono HX.out.size))
                  clear bb
                  go_wp2_with fail
                  refine hK.out _ _ (KEEP.out _ HX.out) (fun hHeld => ?_)
                  clear hK K
                  try go_frame
                  refine th 16 rfl (by kernel_rfl) (by decide) (by kernel_rfl) (fun K hK => ?_)
                  go_simp
                  refine (HHT.out _).mono ?_
                  rintro e v4 ⟨rfl, bb⟩
                  replace HX := Lib.hid (HX.out.trans (bb.mono HX.out.size))
                  clear bb
                  go_wp2_with fail
                  refine hK.out _ _ (KEEP.out _ HX.out) (fun hHeld => ?_)
                  clear hK K
                  try go_frame
                  refine ti 17 rfl (fun w hSw => by (try dsimp only at hSw); go_simp; try with_reducible rfl) ?_
                  go_frame
                  refine ts 18 rfl ?_
                  go_frame
                  refine ts 19 rfl ?_
                  go_frame
                  refine ti 20 rfl (fun w hSw => by (try dsimp only at hSw); go_simp; try with_reducible rfl) ?_
                  go_frame
                  refine ti 21 rfl (fun w hSw => by (try dsimp only at hSw); go_simp; try with_reducible rfl) ?_
                  go_frame
                  refine tx rfl (by kernel_rfl) (by kernel_rfl) (by kernel_rfl) (fun K hK => ?_)
                  go_simp
                  refine hK.out _ _ ?_
                  clear hK K hHeld KEEP
                  try go_frame
                  go_wp2
                  go_roundw
                  case rel => exact ⟨k + 1, z + 1, rfl, Lib.hid ⟨by have := HZ.out; omega, by have := HZ.out; have := HLT.out; omega⟩, Lib.hid (HK2.out.trans (HX.out.mono HK2.out.size))⟩
                  case measure => simp only [intOf]; have := HZ.out; have := HLT.out; have := HM.out; omega
                · go_upto_region 20 with (fail)
                  refine region_but (S := (fun wx => (wx.cell? ⟨bT, 0, none⟩ = some (wV t.L 0) ∧ wx.cell? ⟨bT, 1, none⟩ = some (wV t.L 1) ∧ wx.cell? ⟨bT, 2, none⟩ = some (wV t.L 2) ∧ wx.cell? ⟨bT, 3, none⟩ = some (wV t.L 3) ∧ wx.cell? ⟨bT, 4, none⟩ = some (wV t.L 4) ∧ wx.cell? ⟨bT, 5, none⟩ = some (wV t.L 5) ∧ wx.cell? ⟨bT, 6, none⟩ = some (wV t.L 6) ∧ wx.cell? ⟨bT, 7, none⟩ = some (wV t.L 7) ∧ wx.cell? ⟨bT, 8, none⟩ = some (.int .i64 (t.L.length : Nat)) ∧ wx.cell? ⟨bT, 9, none⟩ = some (.int .u8 (t.b : Nat)) ∧ wx.cell? ⟨bT, 10, none⟩ = some (.int .u8 (t.l : Nat))) ∧ (wx.cell? ⟨p, 0, none⟩ = some (wV tS.L 0) ∧ wx.cell? ⟨p, 1, none⟩ = some (wV tS.L 1) ∧ wx.cell? ⟨p, 2, none⟩ = some (wV tS.L 2) ∧ wx.cell? ⟨p, 3, none⟩ = some (wV tS.L 3) ∧ wx.cell? ⟨p, 4, none⟩ = some (wV tS.L 4) ∧ wx.cell? ⟨p, 5, none⟩ = some (wV tS.L 5) ∧ wx.cell? ⟨p, 6, none⟩ = some (wV tS.L 6) ∧ wx.cell? ⟨p, 7, none⟩ = some (wV tS.L 7) ∧ wx.cell? ⟨p, 8, none⟩ = some (.int .i64 (tS.L.length : Nat)) ∧ wx.cell? ⟨p, 9, none⟩ = some (.int .u8 (tS.b : Nat)) ∧ wx.cell? ⟨p, 10, none⟩ = some (.int .u8 (tS.l : Nat))) ∧ wx.cell? ⟨q, 0, none⟩ = some (wV tC.L 0) ∧ wx.cell? ⟨q, 1, none⟩ = some (wV tC.L 1) ∧ wx.cell? ⟨q, 2, none⟩ = some (wV tC.L 2) ∧ wx.cell? ⟨q, 3, none⟩ = some (wV tC.L 3) ∧ wx.cell? ⟨q, 4, none⟩ = some (wV tC.L 4) ∧ wx.cell? ⟨q, 5, none⟩ = some (wV tC.L 5) ∧ wx.cell? ⟨q, 6, none⟩ = some (wV tC.L 6) ∧ wx.cell? ⟨q, 7, none⟩ = some (wV tC.L 7) ∧ wx.cell? ⟨q, 8, none⟩ = some (.int .i64 (tC.L.length : Nat)) ∧ wx.cell? ⟨q, 9, none⟩ = some (.int .u8 (tC.b : Nat)) ∧ wx.cell? ⟨q, 10, none⟩ = some (.int .u8 (tC.l : Nat)))) 22 (by kernel_rfl) (KEEP.out _ ((Below.refl _ _).drew)) (fun hHeld => ?_)
                  obtain ⟨wz, hwz⟩ : ∃ X, X = z2.drew := ⟨_, rfl⟩
                  have HX := Lib.hid (show Below z2.heap.size z2 wz by rw [hwz]; exact (Below.refl _ _).drew)
                  replace hHeld := KEEP.out _ HX.out
                  rw [← hwz]
                  clear hwz
                  refine ti 0 rfl (fun w hSw => by (try dsimp only at hSw); go_simp; try with_reducible rfl) ?_
                  go_frame
                  refine ti 1 rfl (fun w hSw => by (try dsimp only at hSw); go_simp; try with_reducible rfl) ?_
                  go_frame
                  refine ti 3 rfl (fun w hSw => by (try dsimp only at hSw); go_simp; try with_reducible rfl) ?_
                  go_frame
                  refine ti 4 rfl (fun w hSw => by (try dsimp only at hSw); go_simp; try with_reducible rfl) ?_
                  go_frame
                  refine th 2 rfl (by kernel_rfl) (by decide) (by kernel_rfl) (fun K hK => ?_)
                  go_simp
                  refine (HHS.out _).mono ?_
                  rintro e v1 ⟨rfl, bb⟩
                  replace HX := Lib.hid (HX.out.trans (bb.mono HX.out.size))
                  clear bb
                  go_wp2_with fail
                  refine hK.out _ _ (KEEP.out _ HX.out) (fun hHeld => ?_)
                  clear hK K
                  try go_frame
                  refine th 5 rfl (by kernel_rfl) (by decide) (by kernel_rfl) (fun K hK => ?_)
                  go_simp
                  refine (HHT.out _).mono ?_
                  rintro e v2 ⟨rfl, bb⟩
                  replace HX := Lib.hid (HX.out.trans (bb.mono HX.out.size))
                  clear bb
                  go_wp2_with fail
                  refine hK.out _ _ (KEEP.out _ HX.out) (fun hHeld => ?_)
                  clear hK K
                  try go_frame
                  refine ti 6 rfl (fun w hSw => by (try dsimp only at hSw); go_simp; try with_reducible rfl) ?_
                  go_frame
                  refine ts 7 rfl ?_
                  go_frame
                  refine ti 8 rfl (fun w hSw => by (try dsimp only at hSw); go_simp; try with_reducible rfl) ?_
                  go_frame
                  refine ti 9 rfl (fun w hSw => by (try dsimp only at hSw); go_simp; try with_reducible rfl) ?_
                  go_frame
                  refine ti 10 rfl (fun w hSw => by (try dsimp only at hSw); go_simp; try with_reducible rfl) ?_
                  go_frame
                  refine ti 11 rfl (fun w hSw => by (try dsimp only at hSw); go_simp; try with_reducible rfl) ?_
                  go_frame
                  refine ti 12 rfl (fun w hSw => by (try dsimp only at hSw); go_simp; try with_reducible rfl) ?_
                  go_frame
                  refine ti 14 rfl (fun w hSw => by (try dsimp only at hSw); go_simp; try with_reducible rfl) ?_
                  go_frame
                  refine ti 15 rfl (fun w hSw => by (try dsimp only at hSw); go_simp; try with_reducible rfl) ?_
                  go_frame
                  refine th 13 rfl (by kernel_rfl) (by decide) (by kernel_rfl) (fun K hK => ?_)
                  go_simp
                  refine (HHC.out _).mono ?_
                  rintro e v3 ⟨rfl, bb⟩
                  replace HX := Lib.hid (HX.out.trans (bb.mono HX.out.size))
                  clear bb
                  go_wp2_with fail
                  refine hK.out _ _ (KEEP.out _ HX.out) (fun hHeld => ?_)
                  clear hK K
                  try go_frame
                  refine th 16 rfl (by kernel_rfl) (by decide) (by kernel_rfl) (fun K hK => ?_)
                  go_simp
                  refine (HHT.out _).mono ?_
                  rintro e v4 ⟨rfl, bb⟩
                  replace HX := Lib.hid (HX.out.trans (bb.mono HX.out.size))
                  clear bb
                  go_wp2_with fail
                  refine hK.out _ _ (KEEP.out _ HX.out) (fun hHeld => ?_)
                  clear hK K
                  try go_frame
                  refine ti 17 rfl (fun w hSw => by (try dsimp only at hSw); go_simp; try with_reducible rfl) ?_
                  go_frame
                  refine ti 18 rfl (fun w hSw => by (try dsimp only at hSw); go_simp; try with_reducible rfl) ?_
                  go_frame
                  refine ti 19 rfl (fun w hSw => by (try dsimp only at hSw); go_simp; try with_reducible rfl) ?_
                  go_frame
                  refine ti 20 rfl (fun w hSw => by (try dsimp only at hSw); go_simp; try with_reducible rfl) ?_
                  go_frame
                  refine ti 21 rfl (fun w hSw => by (try dsimp only at hSw); go_simp; try with_reducible rfl) ?_
                  go_frame
                  refine tx rfl (by kernel_rfl) (by kernel_rfl) (by kernel_rfl) (fun K hK => ?_)
                  go_simp
                  refine hK.out _ _ ?_
                  clear hK K hHeld KEEP
                  try go_frame
                  go_wp2
                  go_roundw
                  case rel => exact ⟨k + 1, z + 1, rfl, Lib.hid ⟨by have := HZ.out; omega, by have := HZ.out; have := HLT.out; omega⟩, Lib.hid (HK2.out.trans (HX.out.mono HK2.out.size))⟩
                  case measure => simp only [intOf]; have := HZ.out; have := HLT.out; have := HM.out; omega
                · go_upto_region 20 with (fail)
                  refine region_but (S := (fun wx => (wx.cell? ⟨bT, 0, none⟩ = some (wV t.L 0) ∧ wx.cell? ⟨bT, 1, none⟩ = some (wV t.L 1) ∧ wx.cell? ⟨bT, 2, none⟩ = some (wV t.L 2) ∧ wx.cell? ⟨bT, 3, none⟩ = some (wV t.L 3) ∧ wx.cell? ⟨bT, 4, none⟩ = some (wV t.L 4) ∧ wx.cell? ⟨bT, 5, none⟩ = some (wV t.L 5) ∧ wx.cell? ⟨bT, 6, none⟩ = some (wV t.L 6) ∧ wx.cell? ⟨bT, 7, none⟩ = some (wV t.L 7) ∧ wx.cell? ⟨bT, 8, none⟩ = some (.int .i64 (t.L.length : Nat)) ∧ wx.cell? ⟨bT, 9, none⟩ = some (.int .u8 (t.b : Nat)) ∧ wx.cell? ⟨bT, 10, none⟩ = some (.int .u8 (t.l : Nat))) ∧ (wx.cell? ⟨p, 0, none⟩ = some (wV tS.L 0) ∧ wx.cell? ⟨p, 1, none⟩ = some (wV tS.L 1) ∧ wx.cell? ⟨p, 2, none⟩ = some (wV tS.L 2) ∧ wx.cell? ⟨p, 3, none⟩ = some (wV tS.L 3) ∧ wx.cell? ⟨p, 4, none⟩ = some (wV tS.L 4) ∧ wx.cell? ⟨p, 5, none⟩ = some (wV tS.L 5) ∧ wx.cell? ⟨p, 6, none⟩ = some (wV tS.L 6) ∧ wx.cell? ⟨p, 7, none⟩ = some (wV tS.L 7) ∧ wx.cell? ⟨p, 8, none⟩ = some (.int .i64 (tS.L.length : Nat)) ∧ wx.cell? ⟨p, 9, none⟩ = some (.int .u8 (tS.b : Nat)) ∧ wx.cell? ⟨p, 10, none⟩ = some (.int .u8 (tS.l : Nat))) ∧ wx.cell? ⟨q, 0, none⟩ = some (wV tC.L 0) ∧ wx.cell? ⟨q, 1, none⟩ = some (wV tC.L 1) ∧ wx.cell? ⟨q, 2, none⟩ = some (wV tC.L 2) ∧ wx.cell? ⟨q, 3, none⟩ = some (wV tC.L 3) ∧ wx.cell? ⟨q, 4, none⟩ = some (wV tC.L 4) ∧ wx.cell? ⟨q, 5, none⟩ = some (wV tC.L 5) ∧ wx.cell? ⟨q, 6, none⟩ = some (wV tC.L 6) ∧ wx.cell? ⟨q, 7, none⟩ = some (wV tC.L 7) ∧ wx.cell? ⟨q, 8, none⟩ = some (.int .i64 (tC.L.length : Nat)) ∧ wx.cell? ⟨q, 9, none⟩ = some (.int .u8 (tC.b : Nat)) ∧ wx.cell? ⟨q, 10, none⟩ = some (.int .u8 (tC.l : Nat)))) 22 (by kernel_rfl) (KEEP.out _ ((Below.refl _ _).drew)) (fun hHeld => ?_)
                  obtain ⟨wz, hwz⟩ : ∃ X, X = z2.drew := ⟨_, rfl⟩
                  have HX := Lib.hid (show Below z2.heap.size z2 wz by rw [hwz]; exact (Below.refl _ _).drew)
                  replace hHeld := KEEP.out _ HX.out
                  rw [← hwz]
                  clear hwz
                  refine ti 0 rfl (fun w hSw => by (try dsimp only at hSw); go_simp; try with_reducible rfl) ?_
                  go_frame
                  refine ti 1 rfl (fun w hSw => by (try dsimp only at hSw); go_simp; try with_reducible rfl) ?_
                  go_frame
                  refine ti 3 rfl (fun w hSw => by (try dsimp only at hSw); go_simp; try with_reducible rfl) ?_
                  go_frame
                  refine ti 4 rfl (fun w hSw => by (try dsimp only at hSw); go_simp; try with_reducible rfl) ?_
                  go_frame
                  refine th 2 rfl (by kernel_rfl) (by decide) (by kernel_rfl) (fun K hK => ?_)
                  go_simp
                  refine (HHS.out _).mono ?_
                  rintro e v1 ⟨rfl, bb⟩
                  replace HX := Lib.hid (HX.out.trans (bb.mono HX.out.size))
                  clear bb
                  go_wp2_with fail
                  refine hK.out _ _ (KEEP.out _ HX.out) (fun hHeld => ?_)
                  clear hK K
                  try go_frame
                  refine th 5 rfl (by kernel_rfl) (by decide) (by kernel_rfl) (fun K hK => ?_)
                  go_simp
                  refine (HHT.out _).mono ?_
                  rintro e v2 ⟨rfl, bb⟩
                  replace HX := Lib.hid (HX.out.trans (bb.mono HX.out.size))
                  clear bb
                  go_wp2_with fail
                  refine hK.out _ _ (KEEP.out _ HX.out) (fun hHeld => ?_)
                  clear hK K
                  try go_frame
                  refine ti 6 rfl (fun w hSw => by (try dsimp only at hSw); go_simp; try with_reducible rfl) ?_
                  go_frame
                  refine ts 7 rfl ?_
                  go_frame
                  refine ti 8 rfl (fun w hSw => by (try dsimp only at hSw); go_simp; try with_reducible rfl) ?_
                  go_frame
                  refine ti 9 rfl (fun w hSw => by (try dsimp only at hSw); go_simp; try with_reducible rfl) ?_
                  go_frame
                  refine ti 10 rfl (fun w hSw => by (try dsimp only at hSw); go_simp; try with_reducible rfl) ?_
                  go_frame
                  refine ti 11 rfl (fun w hSw => by (try dsimp only at hSw); go_simp; try with_reducible rfl) ?_
                  go_frame
                  refine ti 12 rfl (fun w hSw => by (try dsimp only at hSw); go_simp; try with_reducible rfl) ?_
                  go_frame
                  refine ti 14 rfl (fun w hSw => by (try dsimp only at hSw); go_simp; try with_reducible rfl) ?_
                  go_frame
                  refine ti 15 rfl (fun w hSw => by (try dsimp only at hSw); go_simp; try with_reducible rfl) ?_
                  go_frame
                  refine th 13 rfl (by kernel_rfl) (by decide) (by kernel_rfl) (fun K hK => ?_)
                  go_simp
                  refine (HHC.out _).mono ?_
                  rintro e v3 ⟨rfl, bb⟩
                  replace HX := Lib.hid (HX.out.trans (bb.mono HX.out.size))
                  clear bb
                  go_wp2_with fail
                  refine hK.out _ _ (KEEP.out _ HX.out) (fun hHeld => ?_)
                  clear hK K
                  try go_frame
                  refine th 16 rfl (by kernel_rfl) (by decide) (by kernel_rfl) (fun K hK => ?_)
                  go_simp
                  refine (HHT.out _).mono ?_
                  rintro e v4 ⟨rfl, bb⟩
                  replace HX := Lib.hid (HX.out.trans (bb.mono HX.out.size))
                  clear bb
                  go_wp2_with fail
                  refine hK.out _ _ (KEEP.out _ HX.out) (fun hHeld => ?_)
                  clear hK K
                  try go_frame
                  refine ti 17 rfl (fun w hSw => by (try dsimp only at hSw); go_simp; try with_reducible rfl) ?_
                  go_frame
                  refine ti 18 rfl (fun w hSw => by (try dsimp only at hSw); go_simp; try with_reducible rfl) ?_
                  go_frame
                  refine ti 19 rfl (fun w hSw => by (try dsimp only at hSw); go_simp; try with_reducible rfl) ?_
                  go_frame
                  refine ti 20 rfl (fun w hSw => by (try dsimp only at hSw); go_simp; try with_reducible rfl) ?_
                  go_frame
                  refine ti 21 rfl (fun w hSw => by (try dsimp only at hSw); go_simp; try with_reducible rfl) ?_
                  go_frame
                  refine tx rfl (by kernel_rfl) (by kernel_rfl) (by kernel_rfl) (fun K hK => ?_)
                  go_simp
                  refine hK.out _ _ ?_
                  clear hK K hHeld KEEP
                  try go_frame
                  go_wp2
                  go_roundw
                  case rel => exact ⟨k + 1, z + 1, rfl, Lib.hid ⟨by have := HZ.out; omega, by have := HZ.out; have := HLT.out; omega⟩, Lib.hid (HK2.out.trans (HX.out.mono HK2.out.size))⟩
                  case measure => simp only [intOf]; have := HZ.out; have := HLT.out; have := HM.out; omega
          · go_wp2
            go_meet
            case rel => exact HK1
      case rest =>
        have HE := Lib.hid hcut.out
        clear hcut
        obtain ⟨x4, hx4⟩ : ∃ x, x = wc := ⟨_, rfl⟩
        rw [← hx4] at HE ⊢
        clear hx4
        have HXE := Lib.hid (HXW.out.trans (HE.out.mono HXW.out.size))
        have HT4 := Lib.hid (HT3.out.below HE.out)
        have HA4 := Lib.hid (HA3.out.below HE.out)
        have HO4 := Lib.hid (HO3.out.below HE.out)
        have HW4 := Lib.hid (HW3.out.below HE.out)
        have HP4 := Lib.hid (HP3.out.below HE.out)
        have HQ4 := Lib.hid (HQ3.out.below HE.out)
        clear HT3 HA3 HO3 HW3 HP3 HQ3 HE HXW
        have HBY := Lib.hid (fun w => by_any X (.slice xa xn xc) w)
        have HLT := Lib.hid (fun w => label_any t w)
        have HLS := Lib.hid (fun w => label_any tS w)
        have HLC := Lib.hid (fun w => label_any tC w)
        obtain ⟨lm, hlm⟩ : ∃ l, l = max t.l (lvN X.high) := ⟨_, rfl⟩
        have HLI := Lib.hid (fun w => list_any t HOK.out.len w)
        have HINT := Lib.hid (show ∀ w v u, IsIn w v (is (stops t.L)) → IsIn w u (is (stops t.L)) → Calls Try.prog 14 #[v, u] w (fun e w' => e = .returned (.bool true) ∧ Below w.heap.size w w') from fun w v u h k => (ints_any w v u _ _ h k (by rw [List.length_map]; have := stops_len t.L; have := HM.out; omega)).mono (fun e w' q => ⟨q.1.trans (by rw [decide_eq_true (Eq.refl (is (stops t.L)))]), q.2⟩))
        have HCL := Lib.hid (fun w h => clear_any tS HSO.out.1 0 (by decide) (.slice oa on oc) cs w h (by have := HON.out; omega))
        obtain ⟨tX, htX⟩ : ∃ x, x = tS.put false 0 cs := ⟨_, rfl⟩
        rw [← htX] at HCL
        have hqX : ∀ w, (Op.equalIn 10000 TB (tbV tX) (tbV tC)).run Try.prog w = .ok true w := fun w => by
          rw [eqTb tX tC (by rw [htX]; exact HSO.out.1.put _ (by decide) _) w]
          congr 1
          refine decide_eq_true ?_
          rw [htX, HTS.out, HTC.out]
          refine ⟨put_again true false t.L cs, rfl, ?_⟩
          show max (max t.l lv) 0 = max t.l lv
          omega
        have HDS := Lib.hid (fun w => decl_any tS w)
        obtain ⟨tD, htD⟩ : ∃ x, x = tS.decl := ⟨_, rfl⟩
        rw [← htD] at HDS
        have HLD := Lib.hid (show ∀ w, Calls Try.prog 17 #[tbV tD] w fun e w' => e = .returned (.int .u8 0) ∧ Below w.heap.size w w' from fun w => by
          have h := label_any tD w
          rw [show tD.l = 0 by rw [htD, HTS.out]; exact HTB.out] at h
          exact h)
        have HRA := Lib.hid (fun w => raise_any t HOK.out 1 (by decide) w)
        obtain ⟨tR, htR⟩ : ∃ x, x = t.raise 1 := ⟨_, rfl⟩
        rw [← htR] at HRA
        have HDR := Lib.hid (fun w => decl_any tR w)
        obtain ⟨tU, htU⟩ : ∃ x, x = tR.decl := ⟨_, rfl⟩
        rw [← htU] at HDR
        have HDT := Lib.hid (fun w => decl_any t w)
        obtain ⟨tV, htV⟩ : ∃ x, x = t.decl := ⟨_, rfl⟩
        rw [← htV] at HDT
        have hqU : ∀ w, (Op.equalIn 10000 TB (tbV tU) (tbV tV)).run Try.prog w = .ok true w := fun w => by
          have e : tU = tV := by rw [htU, htV, htR]; rfl
          rw [eqTb tU tV (by rw [e, htV]; exact HOK.out.decl) w]
          congr 1
          rw [e]
          exact decide_eq_true ⟨rfl, rfl, rfl⟩
        have hmx : ∀ w, (Builtin.max_ #[26, 26] 26 #[.int .u8 (t.l : Nat), .int .u8 (lvN X.high : Nat)]).run Try.prog w = .ok (.int .u8 (lm : Nat)) w := fun w => by
          rw [run_max_int2, hlm]
          congr 2
          split <;> omega
        have HLM := Lib.hid (show tS.l = lm ∧ tC.l = lm by rw [HTS.out, HTC.out, hlm]; exact ⟨by rw [← HLVE.out]; rfl, by rw [← HLVE.out]; rfl⟩)
        rw [HLM.out.1] at HLS
        rw [HLM.out.2] at HLC
        clear hlm htX htD htR htU htV
        have KEEP := Lib.hid (show ∀ wx, Below x4.heap.size x4 wx → (wx.cell? ⟨b5, 0, none⟩ = some (.int .u8 (X.what : Nat)) ∧ wx.cell? ⟨b5, 1, none⟩ = some (.bool X.high) ∧ wx.cell? ⟨b5, 2, none⟩ = some (.slice xa xn xc) ∧ wx.cell? ⟨b5, 3, none⟩ = some (.int .i16 X.cols)) ∧ (wx.cell? ⟨bT, 0, none⟩ = some (wV t.L 0) ∧ wx.cell? ⟨bT, 1, none⟩ = some (wV t.L 1) ∧ wx.cell? ⟨bT, 2, none⟩ = some (wV t.L 2) ∧ wx.cell? ⟨bT, 3, none⟩ = some (wV t.L 3) ∧ wx.cell? ⟨bT, 4, none⟩ = some (wV t.L 4) ∧ wx.cell? ⟨bT, 5, none⟩ = some (wV t.L 5) ∧ wx.cell? ⟨bT, 6, none⟩ = some (wV t.L 6) ∧ wx.cell? ⟨bT, 7, none⟩ = some (wV t.L 7) ∧ wx.cell? ⟨bT, 8, none⟩ = some (.int .i64 (t.L.length : Nat)) ∧ wx.cell? ⟨bT, 9, none⟩ = some (.int .u8 (t.b : Nat)) ∧ wx.cell? ⟨bT, 10, none⟩ = some (.int .u8 (t.l : Nat))) ∧ (wx.cell? ⟨p, 0, none⟩ = some (wV tS.L 0) ∧ wx.cell? ⟨p, 1, none⟩ = some (wV tS.L 1) ∧ wx.cell? ⟨p, 2, none⟩ = some (wV tS.L 2) ∧ wx.cell? ⟨p, 3, none⟩ = some (wV tS.L 3) ∧ wx.cell? ⟨p, 4, none⟩ = some (wV tS.L 4) ∧ wx.cell? ⟨p, 5, none⟩ = some (wV tS.L 5) ∧ wx.cell? ⟨p, 6, none⟩ = some (wV tS.L 6) ∧ wx.cell? ⟨p, 7, none⟩ = some (wV tS.L 7) ∧ wx.cell? ⟨p, 8, none⟩ = some (.int .i64 (tS.L.length : Nat)) ∧ wx.cell? ⟨p, 9, none⟩ = some (.int .u8 (tS.b : Nat)) ∧ wx.cell? ⟨p, 10, none⟩ = some (.int .u8 (tS.l : Nat))) ∧ wx.cell? ⟨q, 0, none⟩ = some (wV tC.L 0) ∧ wx.cell? ⟨q, 1, none⟩ = some (wV tC.L 1) ∧ wx.cell? ⟨q, 2, none⟩ = some (wV tC.L 2) ∧ wx.cell? ⟨q, 3, none⟩ = some (wV tC.L 3) ∧ wx.cell? ⟨q, 4, none⟩ = some (wV tC.L 4) ∧ wx.cell? ⟨q, 5, none⟩ = some (wV tC.L 5) ∧ wx.cell? ⟨q, 6, none⟩ = some (wV tC.L 6) ∧ wx.cell? ⟨q, 7, none⟩ = some (wV tC.L 7) ∧ wx.cell? ⟨q, 8, none⟩ = some (.int .i64 (tC.L.length : Nat)) ∧ wx.cell? ⟨q, 9, none⟩ = some (.int .u8 (tC.b : Nat)) ∧ wx.cell? ⟨q, 10, none⟩ = some (.int .u8 (tC.l : Nat)) from fun wx hx => ⟨(HA4.out.below hx).2, (HT4.out.below hx).cells, (HP4.out.below hx).cells, (HQ4.out.below hx).cells⟩)
        go_upto_region 22 with (fail)
        refine region_but (S := (fun wx => (wx.cell? ⟨b5, 0, none⟩ = some (.int .u8 (X.what : Nat)) ∧ wx.cell? ⟨b5, 1, none⟩ = some (.bool X.high) ∧ wx.cell? ⟨b5, 2, none⟩ = some (.slice xa xn xc) ∧ wx.cell? ⟨b5, 3, none⟩ = some (.int .i16 X.cols)) ∧ (wx.cell? ⟨bT, 0, none⟩ = some (wV t.L 0) ∧ wx.cell? ⟨bT, 1, none⟩ = some (wV t.L 1) ∧ wx.cell? ⟨bT, 2, none⟩ = some (wV t.L 2) ∧ wx.cell? ⟨bT, 3, none⟩ = some (wV t.L 3) ∧ wx.cell? ⟨bT, 4, none⟩ = some (wV t.L 4) ∧ wx.cell? ⟨bT, 5, none⟩ = some (wV t.L 5) ∧ wx.cell? ⟨bT, 6, none⟩ = some (wV t.L 6) ∧ wx.cell? ⟨bT, 7, none⟩ = some (wV t.L 7) ∧ wx.cell? ⟨bT, 8, none⟩ = some (.int .i64 (t.L.length : Nat)) ∧ wx.cell? ⟨bT, 9, none⟩ = some (.int .u8 (t.b : Nat)) ∧ wx.cell? ⟨bT, 10, none⟩ = some (.int .u8 (t.l : Nat))) ∧ (wx.cell? ⟨p, 0, none⟩ = some (wV tS.L 0) ∧ wx.cell? ⟨p, 1, none⟩ = some (wV tS.L 1) ∧ wx.cell? ⟨p, 2, none⟩ = some (wV tS.L 2) ∧ wx.cell? ⟨p, 3, none⟩ = some (wV tS.L 3) ∧ wx.cell? ⟨p, 4, none⟩ = some (wV tS.L 4) ∧ wx.cell? ⟨p, 5, none⟩ = some (wV tS.L 5) ∧ wx.cell? ⟨p, 6, none⟩ = some (wV tS.L 6) ∧ wx.cell? ⟨p, 7, none⟩ = some (wV tS.L 7) ∧ wx.cell? ⟨p, 8, none⟩ = some (.int .i64 (tS.L.length : Nat)) ∧ wx.cell? ⟨p, 9, none⟩ = some (.int .u8 (tS.b : Nat)) ∧ wx.cell? ⟨p, 10, none⟩ = some (.int .u8 (tS.l : Nat))) ∧ wx.cell? ⟨q, 0, none⟩ = some (wV tC.L 0) ∧ wx.cell? ⟨q, 1, none⟩ = some (wV tC.L 1) ∧ wx.cell? ⟨q, 2, none⟩ = some (wV tC.L 2) ∧ wx.cell? ⟨q, 3, none⟩ = some (wV tC.L 3) ∧ wx.cell? ⟨q, 4, none⟩ = some (wV tC.L 4) ∧ wx.cell? ⟨q, 5, none⟩ = some (wV tC.L 5) ∧ wx.cell? ⟨q, 6, none⟩ = some (wV tC.L 6) ∧ wx.cell? ⟨q, 7, none⟩ = some (wV tC.L 7) ∧ wx.cell? ⟨q, 8, none⟩ = some (.int .i64 (tC.L.length : Nat)) ∧ wx.cell? ⟨q, 9, none⟩ = some (.int .u8 (tC.b : Nat)) ∧ wx.cell? ⟨q, 10, none⟩ = some (.int .u8 (tC.l : Nat)))) 42 (by kernel_rfl) (KEEP.out _ ((Below.refl _ _).drew)) (fun hHeld => ?_)
        obtain ⟨wz, hwz⟩ : ∃ X, X = x4.drew := ⟨_, rfl⟩
        have HX := Lib.hid (show Below x4.heap.size x4 wz by rw [hwz]; exact (Below.refl _ _).drew)
        replace hHeld := KEEP.out _ HX.out
        rw [← hwz]
        clear hwz
        refine ti 0 rfl (fun w hSw => by (try dsimp only at hSw); go_simp; try with_reducible rfl) ?_
        go_frame
        refine ti 2 rfl (fun w hSw => by (try dsimp only at hSw); go_simp; try with_reducible rfl) ?_
        go_frame
        refine ti 4 rfl (fun w hSw => by (try dsimp only at hSw); go_simp; try with_reducible rfl) ?_
        go_frame
        refine th 1 rfl (by kernel_rfl) (by decide) (by kernel_rfl) (fun K hK => ?_)
        go_simp
        refine (HLS.out _).mono ?_
        rintro e v1 ⟨rfl, bb⟩
        replace HX := Lib.hid (HX.out.trans (bb.mono HX.out.size))
        clear bb
        go_wp2_with fail
        refine hK.out _ _ (KEEP.out _ HX.out) (fun hHeld => ?_)
        clear hK K
        try go_frame
        refine th 3 rfl (by kernel_rfl) (by decide) (by kernel_rfl) (fun K hK => ?_)
        go_simp
        refine (HLT.out _).mono ?_
        rintro e v2 ⟨rfl, bb⟩
        replace HX := Lib.hid (HX.out.trans (bb.mono HX.out.size))
        clear bb
        go_wp2_with fail
        refine hK.out _ _ (KEEP.out _ HX.out) (fun hHeld => ?_)
        clear hK K
        try go_frame
        refine th 5 rfl (by kernel_rfl) (by decide) (by kernel_rfl) (fun K hK => ?_)
        go_simp
        refine (HBY.out _).mono ?_
        rintro e v3 ⟨rfl, bb⟩
        replace HX := Lib.hid (HX.out.trans (bb.mono HX.out.size))
        clear bb
        go_wp2_with fail
        refine hK.out _ _ (KEEP.out _ HX.out) (fun hHeld => ?_)
        clear hK K
        try go_frame
        refine ti 6 rfl (fun w hSw => by (try dsimp only at hSw); go_simp; try with_reducible rfl) ?_
        go_frame
        refine ti 7 rfl (fun w hSw => by (try dsimp only at hSw); go_simp; try with_reducible rfl) ?_
        go_frame
        refine ti 8 rfl (fun w hSw => by (try dsimp only at hSw); go_simp; try with_reducible rfl) ?_
        go_frame
        refine ti 9 rfl (fun w hSw => by (try dsimp only at hSw); go_simp; try with_reducible rfl) ?_
        go_frame
        refine ti 11 rfl (fun w hSw => by (try dsimp only at hSw); go_simp; try with_reducible rfl) ?_
        go_frame
        refine th 10 rfl (by kernel_rfl) (by decide) (by kernel_rfl) (fun K hK => ?_)
        go_simp
        refine (HLC.out _).mono ?_
        rintro e v4 ⟨rfl, bb⟩
        replace HX := Lib.hid (HX.out.trans (bb.mono HX.out.size))
        clear bb
        go_wp2_with fail
        refine hK.out _ _ (KEEP.out _ HX.out) (fun hHeld => ?_)
        clear hK K
        try go_frame
        refine th 12 rfl (by kernel_rfl) (by decide) (by kernel_rfl) (fun K hK => ?_)
        go_simp
        refine (HLS.out _).mono ?_
        rintro e v5 ⟨rfl, bb⟩
        replace HX := Lib.hid (HX.out.trans (bb.mono HX.out.size))
        clear bb
        go_wp2_with fail
        refine hK.out _ _ (KEEP.out _ HX.out) (fun hHeld => ?_)
        clear hK K
        try go_frame
        refine ti 13 rfl (fun w hSw => by (try dsimp only at hSw); go_simp; try with_reducible rfl) ?_
        go_frame
        refine ti 14 rfl (fun w hSw => by (try dsimp only at hSw); go_simp; try with_reducible rfl) ?_
        go_frame
        refine ti 15 rfl (fun w hSw => by (try dsimp only at hSw); go_simp; try with_reducible rfl) ?_
        go_frame
        refine ti 16 rfl (fun w hSw => by (try dsimp only at hSw); go_simp; try with_reducible rfl) ?_
        go_frame
        refine ti 17 rfl (fun w hSw => by (try dsimp only at hSw); go_simp; try with_reducible rfl) ?_
        go_frame
        refine ti 19 rfl (fun w hSw => by (try dsimp only at hSw); go_simp; try with_reducible rfl) ?_
        go_frame
        refine th 18 rfl (by kernel_rfl) (by decide) (by kernel_rfl) (fun K hK => ?_)
        go_simp
        refine (HCL.out _ (HO4.out.below HX.out)).mono ?_
        rintro e v6 ⟨rfl, bb⟩
        replace HX := Lib.hid (HX.out.trans (bb.mono HX.out.size))
        clear bb
        go_wp2_with fail
        refine hK.out _ _ (KEEP.out _ HX.out) (fun hHeld => ?_)
        clear hK K
        try go_frame
        refine ti 20 rfl (fun w hSw => by (try dsimp only at hSw); go_simp; try with_reducible rfl) ?_
        go_frame
        refine ti 21 rfl (fun w hSw => by (try dsimp only at hSw); go_simp; try with_reducible rfl) ?_
        go_frame
        refine ti 22 rfl (fun w hSw => by (try dsimp only at hSw); go_simp; try with_reducible rfl) ?_
        go_frame
        refine ti 23 rfl (fun w hSw => by (try dsimp only at hSw); go_simp; try with_reducible rfl) ?_
        go_frame
        refine ti 25 rfl (fun w hSw => by (try dsimp only at hSw); go_simp; try with_reducible rfl) ?_
        go_frame
        refine th 24 rfl (by kernel_rfl) (by decide) (by kernel_rfl) (fun K hK => ?_)
        go_simp
        refine (HLI.out _).mono ?_
        rintro e v7 ⟨v7v, rfl, ow7, bb⟩
        have HI7 := Lib.hid (isIn_of ow7)
        obtain ⟨ka, kc, hk7⟩ := own_shape ow7
        subst hk7
        clear ow7
        obtain ⟨kn, hkn⟩ : ∃ n, n = (stops t.L).length := ⟨_, rfl⟩
        rw [← hkn] at HI7 ⊢
        clear hkn
        replace HX := Lib.hid (HX.out.trans (bb.mono HX.out.size))
        clear bb
        go_wp2_with fail
        refine hK.out _ _ (KEEP.out _ HX.out) (fun hHeld => ?_)
        clear hK K
        try go_frame
        refine th 26 rfl (by kernel_rfl) (by decide) (by kernel_rfl) (fun K hK => ?_)
        go_simp
        refine (HINT.out _ _ _ HI7.out (HW4.out.below HX.out)).mono ?_
        rintro e v8 ⟨rfl, bb⟩
        replace HX := Lib.hid (HX.out.trans (bb.mono HX.out.size))
        clear bb
        go_wp2_with fail
        refine hK.out _ _ (KEEP.out _ HX.out) (fun hHeld => ?_)
        clear hK K
        try go_frame
        refine ti 27 rfl (fun w hSw => by (try dsimp only at hSw); go_simp; try with_reducible rfl) ?_
        go_frame
        refine ti 28 rfl (fun w hSw => by (try dsimp only at hSw); go_simp; try with_reducible rfl) ?_
        go_frame
        refine ti 29 rfl (fun w hSw => by (try dsimp only at hSw); go_simp; try with_reducible rfl) ?_
        go_frame
        refine th 30 rfl (by kernel_rfl) (by decide) (by kernel_rfl) (fun K hK => ?_)
        go_simp
        refine (HDS.out _).mono ?_
        rintro e v9 ⟨rfl, bb⟩
        replace HX := Lib.hid (HX.out.trans (bb.mono HX.out.size))
        clear bb
        go_wp2_with fail
        refine hK.out _ _ (KEEP.out _ HX.out) (fun hHeld => ?_)
        clear hK K
        try go_frame
        refine th 31 rfl (by kernel_rfl) (by decide) (by kernel_rfl) (fun K hK => ?_)
        go_simp
        refine (HLD.out _).mono ?_
        rintro e v10 ⟨rfl, bb⟩
        replace HX := Lib.hid (HX.out.trans (bb.mono HX.out.size))
        clear bb
        go_wp2_with fail
        refine hK.out _ _ (KEEP.out _ HX.out) (fun hHeld => ?_)
        clear hK K
        try go_frame
        refine ti 32 rfl (fun w hSw => by (try dsimp only at hSw); go_simp; try with_reducible rfl) ?_
        go_frame
        refine ti 33 rfl (fun w hSw => by (try dsimp only at hSw); go_simp; try with_reducible rfl) ?_
        go_frame
        refine ti 34 rfl (fun w hSw => by (try dsimp only at hSw); go_simp; try with_reducible rfl) ?_
        go_frame
        refine ti 35 rfl (fun w hSw => by (try dsimp only at hSw); go_simp; try with_reducible rfl) ?_
        go_frame
        refine ti 38 rfl (fun w hSw => by (try dsimp only at hSw); go_simp; try with_reducible rfl) ?_
        go_frame
        refine th 36 rfl (by kernel_rfl) (by decide) (by kernel_rfl) (fun K hK => ?_)
        go_simp
        refine (HRA.out _).mono ?_
        rintro e v11 ⟨rfl, bb⟩
        replace HX := Lib.hid (HX.out.trans (bb.mono HX.out.size))
        clear bb
        go_wp2_with fail
        refine hK.out _ _ (KEEP.out _ HX.out) (fun hHeld => ?_)
        clear hK K
        try go_frame
        refine th 37 rfl (by kernel_rfl) (by decide) (by kernel_rfl) (fun K hK => ?_)
        go_simp
        refine (HDR.out _).mono ?_
        rintro e v12 ⟨rfl, bb⟩
        replace HX := Lib.hid (HX.out.trans (bb.mono HX.out.size))
        clear bb
        go_wp2_with fail
        refine hK.out _ _ (KEEP.out _ HX.out) (fun hHeld => ?_)
        clear hK K
        try go_frame
        refine th 39 rfl (by kernel_rfl) (by decide) (by kernel_rfl) (fun K hK => ?_)
        go_simp
        refine (HDT.out _).mono ?_
        rintro e v13 ⟨rfl, bb⟩
        replace HX := Lib.hid (HX.out.trans (bb.mono HX.out.size))
        clear bb
        go_wp2_with fail
        refine hK.out _ _ (KEEP.out _ HX.out) (fun hHeld => ?_)
        clear hK K
        try go_frame
        refine ti 40 rfl (fun w hSw => by (try dsimp only at hSw); go_simp; try with_reducible rfl) ?_
        go_frame
        refine ti 41 rfl (fun w hSw => by (try dsimp only at hSw); go_simp; try with_reducible rfl) ?_
        go_frame
        refine tx rfl (by kernel_rfl) (by kernel_rfl) (by kernel_rfl) (fun K hK => ?_)
        go_simp
        refine hK.out _ _ ?_
        clear hK K hHeld KEEP
        try go_frame
        go_wp2
        go_ret
        exact ⟨rfl, HXE.out.trans (HX.out.mono HXE.out.size)⟩
end Go.Proofs.Ytmdpdogjpdkanaa.Lab
