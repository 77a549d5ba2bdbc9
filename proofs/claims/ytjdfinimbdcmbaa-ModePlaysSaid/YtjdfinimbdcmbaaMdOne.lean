/- The reference: a mode is put. -/
import Derived.Test.YtjdfinimbdcmbaaMdRef
set_option linter.unusedVariables false
namespace Go.Proofs.Ytjdfinimbdcmbaa.Lab
open Go Go.RowKit Go.Shelf

def meantM (x y : Mo) : Bool := decide (y = x) || (altM y && altM x)
def incM (on : Bool) (l : List Mo) (x y : Mo) : Bool := (meantM x y && on) || (!meantM x y && decide (y ∈ l))
def oneL (on : Bool) (l : List Mo) (x : Mo) : List Mo := everyL.filter (incM on l x)
theorem meant_bit {x : Mo} (h : (bitM x).isSome = true) (e : Mo × Nat) (he : e ∈ tabM) : meantM x e.1 = decide (bitM x = bitM e.1) := by
  have hb : bitM e.1 = some e.2 := (by decide +kernel : ∀ e ∈ tabM, bitM e.1 = some e.2) e he
  have h1 := one_bit (x := x) (y := e.1) h
  unfold meantM
  rw [Bool.eq_iff_iff, Bool.or_eq_true, Bool.and_eq_true, decide_eq_true_iff, decide_eq_true_iff, h1]
  constructor
  · rintro (h | ⟨h2, h3⟩)
    · exact .inl h.symm
    · exact .inr ⟨h3, h2⟩
  · rintro (h | ⟨h2, h3⟩)
    · exact .inl h.symm
    · exact .inr ⟨h3, h2⟩
theorem one_all (on : Bool) (s : Nat) {x : Mo} (h : (bitM x).isSome = true) : oneL on (allM s) x = allM (putM on s x) := by
  unfold oneL everyL
  rw [List.filter_map]
  show _ = (tabM.filter fun e => (putM on s x).testBit e.2).map (·.1)
  congr 1
  refine List.filter_congr fun e he => ?_
  have hb : bitM e.1 = some e.2 := (by decide +kernel : ∀ e ∈ tabM, bitM e.1 = some e.2) e he
  have h1 := isM_put s on x e.1
  have h2 : isM (putM on s x) e.1 = (putM on s x).testBit e.2 := by unfold isM; rw [hb]
  rw [← h2, h1]
  show incM on (allM s) x e.1 = _
  unfold incM
  rw [meant_bit h e he, ← is_mem]
  by_cases hx : bitM x = bitM e.1
  · rw [decide_eq_true hx, if_pos ⟨hx, h⟩]; simp
  · rw [decide_eq_false hx, if_neg (fun k => hx k.1)]; simp
/-- A row of the reference's modes, with the type of its block. -/
def RIn (w : World) (v : Value) (l : List Mo) : Prop := MoIn w v l ∧ ∀ g, v.ownBlock = some g → ∃ cs cu, w.heap[g]? = some (.cells cs 43 cu)
theorem RIn.below {w w' : World} {v : Value} {l : List Mo} (h : RIn w v l) (hb : Below w.heap.size w w') : RIn w' v l := ⟨h.1.below hb, fun g e => by
  obtain ⟨cs, cu, hg⟩ := h.2 g e
  exact ⟨cs, cu, (hb.block g (Array.getElem?_eq_some_iff.1 hg).1).trans hg⟩⟩
theorem RIn.shape {w : World} {v : Value} {l : List Mo} (h : RIn w v l) : ∃ a c, v = .slice a l.length c := h.1.shape
theorem rIn_nil (w : World) : RIn w (.slice none 0 0) [] := ⟨moIn_nil w, fun g e => by cases e⟩
theorem own_ty {w : World} {lo size n g : Nat} {e : TypeId} {v : Value} {xs : List Value} (h : w.ownsRow lo e size v n xs) (hb : v.ownBlock = some g) : ∃ cur, w.heap[g]? = some (.cells cur e (0, 0)) := by
  rcases h.2 with ⟨rfl, _⟩ | ⟨g', cap, cur, rfl, _, hg, _⟩
  · simp [Value.ownBlock] at hb
  · obtain rfl : g' = g := by simpa [Value.ownBlock] using hb
    exact ⟨cur, hg⟩
theorem ty_ne {w : World} {g h : Nat} {c d : Array Value} {T U : TypeId} {fr fs : Nat × Nat} (hg : w.heap[g]? = some (.cells c T fr)) (hh : w.heap[h]? = some (.cells d U fs)) (k : T ≠ U) : g ≠ h := by
  rintro rfl
  rw [hg] at hh
  injection hh with hh
  injection hh with _ hh
  exact k hh
theorem rIn_own {w : World} {lo : Nat} {v : Value} {l : List Mo} (h : w.ownsRow lo 43 2 v l.length (moL l)) (hl : l.length ≤ 9223372036854775807) : RIn w v l := ⟨moIn_own h hl, fun g e => by
  obtain ⟨cs, hg⟩ := own_ty h e
  exact ⟨cs, _, hg⟩⟩
theorem oneL_le (on : Bool) (l : List Mo) (x : Mo) : (oneL on l x).length ≤ 13 := List.length_filter_le _ _
theorem own_set_lt {w : World} {lo n g k sz : Nat} {T : TypeId} {v u : Value} {xs : List Value} (h : w.ownsRow lo T sz v n xs) (hg : g < lo) : (w.setCell ⟨g, k, none⟩ u).ownsRow lo T sz v n xs := by
  refine World.ownsRow.kept h (But.set w g k u) ?_
  cases hb : v.ownBlock with
  | none => exact .inl rfl
  | some b =>
    refine .inr fun e => ?_
    injection e with e
    subst e
    have := (World.ownsRow.lt h b hb).1
    omega
set_option maxHeartbeats 8000000 in
set_option maxRecDepth 100000 in
theorem rone_any (v : Value) (l R : List Mo) (hl : l.length ≤ 10000) (on : Bool) (p : Bool) (n : Int) (hR : R = oneL on l (p, n)) (w : World) (h : MoIn w v l) : Calls Try.prog 32 #[.agg #[v], .bool on, .agg #[.bool p, .int .i64 n]] w fun e w' => ∃ a c, e = .returned (.agg #[.slice a R.length c]) ∧ RIn w' (.slice a R.length c) R ∧ Below w.heap.size w w' := by
  obtain ⟨la, lc, rfl⟩ := h.shape
  obtain ⟨ll, hll⟩ : ∃ ll, ll = l.length := ⟨_, rfl⟩
  rw [← hll] at h hl ⊢
  have HLL := Lib.hid hll.symm
  have HNL := Lib.hid hl
  have HLM := Lib.hid h
  obtain ⟨F, hF⟩ : ∃ F : Nat → List Mo, F = fun i => (everyL.take i).filter (incM on l (p, n)) := ⟨_, rfl⟩
  have HF0 := Lib.hid (show F 0 = [] by rw [hF]; rfl)
  have HFl := Lib.hid (show ∀ i, i ≤ 13 → (F i).length ≤ 13 from fun i hi => by
    rw [hF]
    refine Nat.le_trans (List.length_filter_le _ _) ?_
    rw [List.length_take]
    omega)
  have HF1 := Lib.hid (show ∀ i y, i < 13 → y = everyL.getD i (false, 0) → F (i + 1) = if incM on l (p, n) y then F i ++ [y] else F i from fun i y hi hy => by
    have hi' : i < everyL.length := hi
    rw [hF]
    show (everyL.take (i + 1)).filter _ = _
    rw [hy, List.take_succ_eq_append_getElem hi', List.getD_eq_getElem?_getD, List.getElem?_eq_getElem hi', List.filter_append]
    simp only [Option.getD_some, List.filter_cons, List.filter_nil]
    split <;> simp)
  have HFE := Lib.hid (show F 13 = R by rw [hF, hR]; rfl)
  have HRL := Lib.hid (show R.length ≤ 13 by rw [hR]; exact oneL_le _ _ _)
  clear hF hR hll hl h
  have HB := Lib.hid (Below.refl w.heap.size w)
  go_enter Try.func32, Try.ntmps32
  have HBo := Lib.hid HB.out.size
  obtain ⟨bm, hbm⟩ : ∃ b, b = w.heap.size := ⟨_, rfl⟩
  obtain ⟨wa0, hwa0⟩ : ∃ x, x = w.alloc (.cells #[.slice la ll lc] 31) := ⟨_, rfl⟩
  obtain ⟨bx, hbx⟩ : ∃ b, b = w.heap.size + 1 := ⟨_, rfl⟩
  obtain ⟨wa1, hwa1⟩ : ∃ x, x = wa0.alloc (.cells #[.bool p, .int .i64 n] 43) := ⟨_, rfl⟩
  obtain ⟨br, hbr⟩ : ∃ b, b = w.heap.size + 2 := ⟨_, rfl⟩
  obtain ⟨wa2, hwa2⟩ : ∃ x, x = wa1.alloc (.cells #[.slice none 0 0] 31) := ⟨_, rfl⟩
  have hs0 : w.heap.size = w.heap.size + 0 := by rfl
  have kk : Below w.heap.size w wa0 := by rw [hwa0]; exact (Below.refl _ _).alloc (Nat.le_refl _) _
  replace HB := Lib.hid (HB.out.trans (kk.mono HB.out.size))
  have HNbm := Lib.hid (show wa0.heap[bm]? = some (.cells #[.slice la ll lc] 31 (0, 0)) by rw [hwa0, hbm]; exact World.alloc_heap_new _ _)
  have HLbm := Lib.hid (show w.heap.size ≤ bm by rw [hbm]; have := HBo.out; omega)
  have hs1 : wa0.heap.size = w.heap.size + 1 := by rw [hwa0]; simp
  have kk : Below wa0.heap.size wa0 wa1 := by rw [hwa1]; exact (Below.refl _ _).alloc (Nat.le_refl _) _
  replace HNbm := Lib.hid (blk_below HNbm.out kk)
  replace HB := Lib.hid (HB.out.trans (kk.mono HB.out.size))
  have HNbx := Lib.hid (show wa1.heap[bx]? = some (.cells #[.bool p, .int .i64 n] 43 (0, 0)) by rw [hwa1, hbx, ← hs1]; exact World.alloc_heap_new _ _)
  have HLbx := Lib.hid (show w.heap.size ≤ bx by rw [hbx]; have := HBo.out; omega)
  have hs2 : wa1.heap.size = w.heap.size + 2 := by rw [hwa1]; simp [hs1]
  have kk : Below wa1.heap.size wa1 wa2 := by rw [hwa2]; exact (Below.refl _ _).alloc (Nat.le_refl _) _
  replace HNbm := Lib.hid (blk_below HNbm.out kk)
  replace HNbx := Lib.hid (blk_below HNbx.out kk)
  replace HB := Lib.hid (HB.out.trans (kk.mono HB.out.size))
  have HNbr := Lib.hid (show wa2.heap[br]? = some (.cells #[.slice none 0 0] 31 (0, 0)) by rw [hwa2, hbr, ← hs2]; exact World.alloc_heap_new _ _)
  have HLbr := Lib.hid (show w.heap.size ≤ br by rw [hbr]; have := HBo.out; omega)
  have HD01bm := Lib.hid (show bm ≠ bx by rw [hbm, hbx]; omega)
  have HD02bm := Lib.hid (show bm ≠ br by rw [hbm, hbr]; omega)
  have HD12bm := Lib.hid (show bx ≠ br by rw [hbx, hbr]; omega)
  clear kk hs0 hs1 hs2
  go_upto_region 2 with (fail)
  rw [← hwa0, ← hwa1, ← hwa2, ← hbr, ← hbx, ← hbm]
  clear HBo hwa0 hwa1 hwa2 hbm hbx hbr
  have cbm := (one_cell HNbm.out).1
  have fbm := (one_cell HNbm.out).2
  have cbx := (two_cells HNbx.out).1
  have dbx := (two_cells HNbx.out).2.1
  have fbx := (two_cells HNbx.out).2.2.1
  have gbx := (two_cells HNbx.out).2.2.2
  have cbr := (one_cell HNbr.out).1
  have fbr := (one_cell HNbr.out).2
  go_wp2_with fail
  refine (every_any _).mono ?_
  rintro e w3 ⟨ea, ec, rfl, hli, bb⟩
  have HLI := Lib.hid hli
  clear hli
  replace HNbm := Lib.hid (blk_below HNbm.out bb)
  replace HNbx := Lib.hid (blk_below HNbx.out bb)
  replace HNbr := Lib.hid (blk_below HNbr.out bb)
  replace HB := Lib.hid (HB.out.trans (bb.mono HB.out.size))
  clear bb
  clear cbm fbm cbx dbx fbx gbx cbr fbr
  replace HLM := Lib.hid (HLM.out.below HB.out)
  have HLT := Lib.hid (show br < w3.heap.size from (Array.getElem?_eq_some_iff.1 HNbr.out).1)
  go_wp2_with fail
  go_loopw [7, 9] (fun v u wr => ∃ i nl : Nat, u = .int .i64 (i : Nat) ∧ Hid (i ≤ 13 ∧ nl = (F i).length) ∧ Hid (wr.ownsRow w3.heap.size 43 2 v nl (moL (F i)) ∧ Below w3.heap.size w3 wr)) (fun v u wr => 60 - (intOf u).toNat)
  case atStart => exact ⟨0, 0, rfl, Lib.hid ⟨Nat.zero_le _, by rw [HF0.out]; rfl⟩, Lib.hid ⟨by rw [HF0.out]; exact ⟨rfl, .inl ⟨rfl, rfl⟩⟩, Below.refl _ _⟩⟩
  case round =>
    obtain ⟨i, nl, rfl, HI, HP⟩ := hrel
    obtain ⟨va, vc, rfl⟩ := own_shape HP.out.1
    have u1 : IntKind.i64.wrap ((i : Int) + 1) = ((i + 1 : Nat) : Int) := by rw [IntKind.wrap_i64]; have := HI.out; omega
    have HBS := HB
    replace HNbm := Lib.hid (blk_below HNbm.out HP.out.2)
    replace HNbx := Lib.hid (blk_below HNbx.out HP.out.2)
    replace HNbr := Lib.hid (blk_below HNbr.out HP.out.2)
    replace HB := Lib.hid (HB.out.trans (HP.out.2.mono HB.out.size))
    by_cases h1 : i < 13
    · obtain ⟨g, o, hla, c0, c1⟩ := (HLI.out.below HP.out.2).at (i := i) h1
      subst hla
      have HH1 := Lib.hid h1
      obtain ⟨y, hy⟩ : ∃ y, y = everyL.getD i (false, 0) := ⟨_, rfl⟩
      rw [← hy] at c0 c1
      have HFS := Lib.hid (HF1.out i y h1 hy)
      clear hy
      obtain ⟨q, k⟩ := y
      simp only [] at c0 c1
      have HC := Lib.hid (And.intro c0 c1)
      clear c0 c1
      obtain ⟨me, hme⟩ : ∃ me, me = meantM (p, n) (q, k) := ⟨_, rfl⟩
      obtain ⟨inc, hinc⟩ : ∃ inc, inc = incM on l (p, n) (q, k) := ⟨_, rfl⟩
      obtain ⟨mem, hmem⟩ : ∃ mem, mem = decide ((q, k) ∈ l) := ⟨_, rfl⟩
      obtain ⟨ax, hax⟩ : ∃ b, b = altM (p, n) := ⟨_, rfl⟩
      obtain ⟨ay, hay⟩ : ∃ b, b = altM (q, k) := ⟨_, rfl⟩
      have HAX := Lib.hid (fun w => ralt_any p n w)
      have HAY := Lib.hid (fun w => ralt_any q k w)
      rw [← hax] at HAX
      rw [← hay] at HAY
      have HIS := Lib.hid (fun w h => ris_any (.slice la ll lc) l (by have := HNL.out; have := HLL.out; omega) q k w h)
      rw [← hmem] at HIS
      have HME := Lib.hid (show me = (decide ((q, k) = (p, n)) || (ay && ax)) by rw [hme, hay, hax]; rfl)
      have HINC := Lib.hid (show inc = ((me && on) || (!me && mem)) by rw [hinc, hme, hmem]; rfl)
      rw [← hinc] at HFS
      clear hme hinc hmem hax hay
      go_upto_region 6 with (fail)
      go_cut [10] (fun v wc => v = .bool me ∧ Hid (Below wr.heap.size wr wc))
      case first =>
        by_cases he : (q, k) = (p, n)
        · have hq : ∀ w, (Op.equalIn 10000 43 (.agg #[.bool q, .int .i64 k]) (.agg #[.bool p, .int .i64 n])).run Try.prog w = .ok true w := fun w => by rw [eqRef, decide_eq_true he]
          have HTM := Lib.hid (show me = true by rw [HME.out, decide_eq_true he]; rfl)
          clear he
          have KEEP := Lib.hid (show ∀ wx, Below wr.heap.size wr wx → wx.cell? ⟨bm, 0, none⟩ = some (.slice la ll lc) ∧ wx.cell? ⟨bx, 0, none⟩ = some (.bool p) ∧ wx.cell? ⟨bx, 1, none⟩ = some (.int .i64 n) ∧ wx.cell? ⟨g, o + i * 2, none⟩ = some (.bool q) ∧ wx.cell? ⟨g, o + i * 2 + 1, none⟩ = some (.int .i64 k) from fun wx hx => ⟨(one_cell (blk_below HNbm.out hx)).1, (two_cells (blk_below HNbx.out hx)).1, (two_cells (blk_below HNbx.out hx)).2.1, (hx.cell (World.block_lt_of_cell? wr _ HC.out.1)).trans HC.out.1, (hx.cell (World.block_lt_of_cell? wr _ HC.out.2)).trans HC.out.2⟩)
          go_upto_region 6 with (fail)
          refine wp_region_held_drew (S := (fun wx => wx.cell? ⟨bm, 0, none⟩ = some (.slice la ll lc) ∧ wx.cell? ⟨bx, 0, none⟩ = some (.bool p) ∧ wx.cell? ⟨bx, 1, none⟩ = some (.int .i64 n) ∧ wx.cell? ⟨g, o + i * 2, none⟩ = some (.bool q) ∧ wx.cell? ⟨g, o + i * 2 + 1, none⟩ = some (.int .i64 k))) (by kernel_rfl) (KEEP.out _ ((Below.refl _ _).drew)) (fun hHeld => ?_)
          obtain ⟨z6, hz6⟩ : ∃ X, X = wr.drew := ⟨_, rfl⟩
          have HX := Lib.hid (show Below wr.heap.size wr z6 by rw [hz6]; exact (Below.refl _ _).drew)
          replace hHeld := KEEP.out _ HX.out
          rw [← hz6]
          clear hz6
          refine tk 0 rfl (fun w hSw => by (try dsimp only at hSw); go_simp; try with_reducible rfl) ?_
          go_frame
          refine tk 1 rfl (fun w hSw => by (try dsimp only at hSw); go_simp; try with_reducible rfl) ?_
          go_frame
          refine tk 2 rfl (fun w hSw => by (try dsimp only at hSw); go_simp; try with_reducible rfl) ?_
          go_frame
          refine tk 3 rfl (fun w hSw => by (try dsimp only at hSw); go_simp; try with_reducible rfl) ?_
          go_frame
          refine tk 4 rfl (fun w hSw => by (try dsimp only at hSw); go_simp; try with_reducible rfl) ?_
          go_frame
          refine tk 5 rfl (fun w hSw => by (try dsimp only at hSw); go_simp; try with_reducible rfl) ?_
          go_frame
          refine tk 6 rfl (fun w hSw => by (try dsimp only at hSw); go_simp; try with_reducible rfl) ?_
          go_frame
          refine sk 7 rfl ?_
          go_frame
          refine sk 8 rfl ?_
          go_frame
          refine sk 9 rfl ?_
          go_frame
          refine sk 10 rfl ?_
          go_frame
          refine sk 11 rfl ?_
          go_frame
          refine sk 12 rfl ?_
          go_frame
          refine sk 13 rfl ?_
          go_frame
          refine sk 14 rfl ?_
          go_frame
          refine sk 15 rfl ?_
          go_frame
          refine tk 16 rfl (fun w hSw => by (try dsimp only at hSw); go_simp; try with_reducible rfl) ?_
          go_frame
          refine tk 17 rfl (fun w hSw => by (try dsimp only at hSw); go_simp; try with_reducible rfl) ?_
          go_frame
          refine wpAnyH_done (by kernel_rfl) ?_ _
          go_wp2
          go_meet
          case rel => exact ⟨by rw [HTM.out], HX⟩
        · have hq : ∀ w, (Op.equalIn 10000 43 (.agg #[.bool q, .int .i64 k]) (.agg #[.bool p, .int .i64 n])).run Try.prog w = .ok false w := fun w => by rw [eqRef, decide_eq_false he]
          replace HME := Lib.hid (show me = (ay && ax) by rw [HME.out, decide_eq_false he]; rfl)
          clear he
          cases ay
          · have HTM := Lib.hid (show me = false from HME.out)
            have KEEP := Lib.hid (show ∀ wx, Below wr.heap.size wr wx → wx.cell? ⟨bm, 0, none⟩ = some (.slice la ll lc) ∧ wx.cell? ⟨bx, 0, none⟩ = some (.bool p) ∧ wx.cell? ⟨bx, 1, none⟩ = some (.int .i64 n) ∧ wx.cell? ⟨g, o + i * 2, none⟩ = some (.bool q) ∧ wx.cell? ⟨g, o + i * 2 + 1, none⟩ = some (.int .i64 k) from fun wx hx => ⟨(one_cell (blk_below HNbm.out hx)).1, (two_cells (blk_below HNbx.out hx)).1, (two_cells (blk_below HNbx.out hx)).2.1, (hx.cell (World.block_lt_of_cell? wr _ HC.out.1)).trans HC.out.1, (hx.cell (World.block_lt_of_cell? wr _ HC.out.2)).trans HC.out.2⟩)
            go_upto_region 6 with (fail)
            refine wp_region_held_drew (S := (fun wx => wx.cell? ⟨bm, 0, none⟩ = some (.slice la ll lc) ∧ wx.cell? ⟨bx, 0, none⟩ = some (.bool p) ∧ wx.cell? ⟨bx, 1, none⟩ = some (.int .i64 n) ∧ wx.cell? ⟨g, o + i * 2, none⟩ = some (.bool q) ∧ wx.cell? ⟨g, o + i * 2 + 1, none⟩ = some (.int .i64 k))) (by kernel_rfl) (KEEP.out _ ((Below.refl _ _).drew)) (fun hHeld => ?_)
            obtain ⟨z6, hz6⟩ : ∃ X, X = wr.drew := ⟨_, rfl⟩
            have HX := Lib.hid (show Below wr.heap.size wr z6 by rw [hz6]; exact (Below.refl _ _).drew)
            replace hHeld := KEEP.out _ HX.out
            rw [← hz6]
            clear hz6
            refine tk 0 rfl (fun w hSw => by (try dsimp only at hSw); go_simp; try with_reducible rfl) ?_
            go_frame
            refine tk 1 rfl (fun w hSw => by (try dsimp only at hSw); go_simp; try with_reducible rfl) ?_
            go_frame
            refine tk 2 rfl (fun w hSw => by (try dsimp only at hSw); go_simp; try with_reducible rfl) ?_
            go_frame
            refine tk 3 rfl (fun w hSw => by (try dsimp only at hSw); go_simp; try with_reducible rfl) ?_
            go_frame
            refine tk 4 rfl (fun w hSw => by (try dsimp only at hSw); go_simp; try with_reducible rfl) ?_
            go_frame
            refine tk 5 rfl (fun w hSw => by (try dsimp only at hSw); go_simp; try with_reducible rfl) ?_
            go_frame
            refine tk 6 rfl (fun w hSw => by (try dsimp only at hSw); go_simp; try with_reducible rfl) ?_
            go_frame
            refine tk 7 rfl (fun w hSw => by (try dsimp only at hSw); go_simp; try with_reducible rfl) ?_
            go_frame
            refine tk 8 rfl (fun w hSw => by (try dsimp only at hSw); go_simp; try with_reducible rfl) ?_
            go_frame
            refine tk 9 rfl (fun w hSw => by (try dsimp only at hSw); go_simp; try with_reducible rfl) ?_
            go_frame
            refine tk 10 rfl (fun w hSw => by (try dsimp only at hSw); go_simp; try with_reducible rfl) ?_
            go_frame
            refine do_at (i := 11) rfl (by kernel_rfl) (by kernel_rfl) (fun K hK => ?_)
            go_simp
            refine (HAY.out _).mono ?_
            rintro e x1 ⟨rfl, bb⟩
            replace HX := Lib.hid (HX.out.trans (bb.mono HX.out.size))
            clear bb
            go_wp2_with fail
            refine hK.out _ _ (KEEP.out _ HX.out) (fun hHeld => ?_)
            clear hK K
            try go_frame
            refine tk 12 rfl (fun w hSw => by (try dsimp only at hSw); go_simp; try with_reducible rfl) ?_
            go_frame
            refine sk 13 rfl ?_
            go_frame
            refine sk 14 rfl ?_
            go_frame
            refine tk 15 rfl (fun w hSw => by (try dsimp only at hSw); go_simp; try with_reducible rfl) ?_
            go_frame
            refine tk 16 rfl (fun w hSw => by (try dsimp only at hSw); go_simp; try with_reducible rfl) ?_
            go_frame
            refine tk 17 rfl (fun w hSw => by (try dsimp only at hSw); go_simp; try with_reducible rfl) ?_
            go_frame
            refine wpAnyH_done (by kernel_rfl) ?_ _
            go_wp2
            go_meet
            case rel => exact ⟨by rw [HTM.out], HX⟩
          · have HTM := Lib.hid (show me = ax from HME.out)
            have KEEP := Lib.hid (show ∀ wx, Below wr.heap.size wr wx → wx.cell? ⟨bm, 0, none⟩ = some (.slice la ll lc) ∧ wx.cell? ⟨bx, 0, none⟩ = some (.bool p) ∧ wx.cell? ⟨bx, 1, none⟩ = some (.int .i64 n) ∧ wx.cell? ⟨g, o + i * 2, none⟩ = some (.bool q) ∧ wx.cell? ⟨g, o + i * 2 + 1, none⟩ = some (.int .i64 k) from fun wx hx => ⟨(one_cell (blk_below HNbm.out hx)).1, (two_cells (blk_below HNbx.out hx)).1, (two_cells (blk_below HNbx.out hx)).2.1, (hx.cell (World.block_lt_of_cell? wr _ HC.out.1)).trans HC.out.1, (hx.cell (World.block_lt_of_cell? wr _ HC.out.2)).trans HC.out.2⟩)
            go_upto_region 6 with (fail)
            refine wp_region_held_drew (S := (fun wx => wx.cell? ⟨bm, 0, none⟩ = some (.slice la ll lc) ∧ wx.cell? ⟨bx, 0, none⟩ = some (.bool p) ∧ wx.cell? ⟨bx, 1, none⟩ = some (.int .i64 n) ∧ wx.cell? ⟨g, o + i * 2, none⟩ = some (.bool q) ∧ wx.cell? ⟨g, o + i * 2 + 1, none⟩ = some (.int .i64 k))) (by kernel_rfl) (KEEP.out _ ((Below.refl _ _).drew)) (fun hHeld => ?_)
            obtain ⟨z6, hz6⟩ : ∃ X, X = wr.drew := ⟨_, rfl⟩
            have HX := Lib.hid (show Below wr.heap.size wr z6 by rw [hz6]; exact (Below.refl _ _).drew)
            replace hHeld := KEEP.out _ HX.out
            rw [← hz6]
            clear hz6
            refine tk 0 rfl (fun w hSw => by (try dsimp only at hSw); go_simp; try with_reducible rfl) ?_
            go_frame
            refine tk 1 rfl (fun w hSw => by (try dsimp only at hSw); go_simp; try with_reducible rfl) ?_
            go_frame
            refine tk 2 rfl (fun w hSw => by (try dsimp only at hSw); go_simp; try with_reducible rfl) ?_
            go_frame
            refine tk 3 rfl (fun w hSw => by (try dsimp only at hSw); go_simp; try with_reducible rfl) ?_
            go_frame
            refine tk 4 rfl (fun w hSw => by (try dsimp only at hSw); go_simp; try with_reducible rfl) ?_
            go_frame
            refine tk 5 rfl (fun w hSw => by (try dsimp only at hSw); go_simp; try with_reducible rfl) ?_
            go_frame
            refine tk 6 rfl (fun w hSw => by (try dsimp only at hSw); go_simp; try with_reducible rfl) ?_
            go_frame
            refine tk 7 rfl (fun w hSw => by (try dsimp only at hSw); go_simp; try with_reducible rfl) ?_
            go_frame
            refine tk 8 rfl (fun w hSw => by (try dsimp only at hSw); go_simp; try with_reducible rfl) ?_
            go_frame
            refine tk 9 rfl (fun w hSw => by (try dsimp only at hSw); go_simp; try with_reducible rfl) ?_
            go_frame
            refine tk 10 rfl (fun w hSw => by (try dsimp only at hSw); go_simp; try with_reducible rfl) ?_
            go_frame
            refine do_at (i := 11) rfl (by kernel_rfl) (by kernel_rfl) (fun K hK => ?_)
            go_simp
            refine (HAY.out _).mono ?_
            rintro e x1 ⟨rfl, bb⟩
            replace HX := Lib.hid (HX.out.trans (bb.mono HX.out.size))
            clear bb
            go_wp2_with fail
            refine hK.out _ _ (KEEP.out _ HX.out) (fun hHeld => ?_)
            clear hK K
            try go_frame
            refine tk 12 rfl (fun w hSw => by (try dsimp only at hSw); go_simp; try with_reducible rfl) ?_
            go_frame
            refine tk 13 rfl (fun w hSw => by (try dsimp only at hSw); go_simp; try with_reducible rfl) ?_
            go_frame
            refine do_at (i := 14) rfl (by kernel_rfl) (by kernel_rfl) (fun K hK => ?_)
            go_simp
            refine (HAX.out _).mono ?_
            rintro e x2 ⟨rfl, bb⟩
            replace HX := Lib.hid (HX.out.trans (bb.mono HX.out.size))
            clear bb
            go_wp2_with fail
            refine hK.out _ _ (KEEP.out _ HX.out) (fun hHeld => ?_)
            clear hK K
            try go_frame
            refine tk 15 rfl (fun w hSw => by (try dsimp only at hSw); go_simp; try with_reducible rfl) ?_
            go_frame
            refine tk 16 rfl (fun w hSw => by (try dsimp only at hSw); go_simp; try with_reducible rfl) ?_
            go_frame
            refine tk 17 rfl (fun w hSw => by (try dsimp only at hSw); go_simp; try with_reducible rfl) ?_
            go_frame
            refine wpAnyH_done (by kernel_rfl) ?_ _
            go_wp2
            go_meet
            case rel => exact ⟨by rw [HTM.out], HX⟩
      obtain ⟨rfl, hcb⟩ := hcut
      rename World => v4
      replace HNbm := Lib.hid (blk_below HNbm.out hcb.out)
      replace HNbx := Lib.hid (blk_below HNbx.out hcb.out)
      replace HNbr := Lib.hid (blk_below HNbr.out hcb.out)
      replace HB := Lib.hid (HB.out.trans (hcb.out.mono HB.out.size))
      replace HC := Lib.hid (And.intro ((hcb.out.cell (World.block_lt_of_cell? wr _ HC.out.1)).trans HC.out.1) ((hcb.out.cell (World.block_lt_of_cell? wr _ HC.out.2)).trans HC.out.2))
      replace HP := Lib.hid (And.intro (keep_own_below HP.out.1 hcb.out) (HP.out.2.trans (hcb.out.mono HP.out.2.size)))
      clear hcb
      go_upto_region 7 with (fail)
      go_cut [1, 10, 50] (fun a v u wc => a = .bool on ∧ v = .bool me ∧ u = .bool inc ∧ Hid (Below v4.heap.size v4 wc))
      case first =>
        cases me
        · have HTM := Lib.hid (show inc = mem by rw [HINC.out]; rfl)
          have KEEP := Lib.hid (show ∀ wx, Below v4.heap.size v4 wx → wx.cell? ⟨bm, 0, none⟩ = some (.slice la ll lc) ∧ wx.cell? ⟨bx, 0, none⟩ = some (.bool p) ∧ wx.cell? ⟨bx, 1, none⟩ = some (.int .i64 n) ∧ wx.cell? ⟨g, o + i * 2, none⟩ = some (.bool q) ∧ wx.cell? ⟨g, o + i * 2 + 1, none⟩ = some (.int .i64 k) from fun wx hx => ⟨(one_cell (blk_below HNbm.out hx)).1, (two_cells (blk_below HNbx.out hx)).1, (two_cells (blk_below HNbx.out hx)).2.1, (hx.cell (World.block_lt_of_cell? v4 _ HC.out.1)).trans HC.out.1, (hx.cell (World.block_lt_of_cell? v4 _ HC.out.2)).trans HC.out.2⟩)
          go_upto_region 7 with (fail)
          refine wp_region_held_drew (S := (fun wx => wx.cell? ⟨bm, 0, none⟩ = some (.slice la ll lc) ∧ wx.cell? ⟨bx, 0, none⟩ = some (.bool p) ∧ wx.cell? ⟨bx, 1, none⟩ = some (.int .i64 n) ∧ wx.cell? ⟨g, o + i * 2, none⟩ = some (.bool q) ∧ wx.cell? ⟨g, o + i * 2 + 1, none⟩ = some (.int .i64 k))) (by kernel_rfl) (KEEP.out _ ((Below.refl _ _).drew)) (fun hHeld => ?_)
          obtain ⟨z7, hz7⟩ : ∃ X, X = v4.drew := ⟨_, rfl⟩
          have HX := Lib.hid (show Below v4.heap.size v4 z7 by rw [hz7]; exact (Below.refl _ _).drew)
          replace hHeld := KEEP.out _ HX.out
          rw [← hz7]
          clear hz7
          refine tk 0 rfl (fun w hSw => by (try dsimp only at hSw); go_simp; try with_reducible rfl) ?_
          go_frame
          refine tk 1 rfl (fun w hSw => by (try dsimp only at hSw); go_simp; try with_reducible rfl) ?_
          go_frame
          refine sk 2 rfl ?_
          go_frame
          refine tk 3 rfl (fun w hSw => by (try dsimp only at hSw); go_simp; try with_reducible rfl) ?_
          go_frame
          refine tk 4 rfl (fun w hSw => by (try dsimp only at hSw); go_simp; try with_reducible rfl) ?_
          go_frame
          refine tk 5 rfl (fun w hSw => by (try dsimp only at hSw); go_simp; try with_reducible rfl) ?_
          go_frame
          refine tk 6 rfl (fun w hSw => by (try dsimp only at hSw); go_simp; try with_reducible rfl) ?_
          go_frame
          refine tk 7 rfl (fun w hSw => by (try dsimp only at hSw); go_simp; try with_reducible rfl) ?_
          go_frame
          refine tk 8 rfl (fun w hSw => by (try dsimp only at hSw); go_simp; try with_reducible rfl) ?_
          go_frame
          refine tk 9 rfl (fun w hSw => by (try dsimp only at hSw); go_simp; try with_reducible rfl) ?_
          go_frame
          refine tk 10 rfl (fun w hSw => by (try dsimp only at hSw); go_simp; try with_reducible rfl) ?_
          go_frame
          refine tk 11 rfl (fun w hSw => by (try dsimp only at hSw); go_simp; try with_reducible rfl) ?_
          go_frame
          refine tk 12 rfl (fun w hSw => by (try dsimp only at hSw); go_simp; try with_reducible rfl) ?_
          go_frame
          refine do_at (i := 13) rfl (by kernel_rfl) (by kernel_rfl) (fun K hK => ?_)
          go_simp
          refine (HIS.out _ (HLM.out.below (HP.out.2.trans (HX.out.mono HP.out.2.size)))).mono ?_
          rintro e x1 ⟨rfl, bb⟩
          replace HX := Lib.hid (HX.out.trans (bb.mono HX.out.size))
          clear bb
          go_wp2_with fail
          refine hK.out _ _ (KEEP.out _ HX.out) (fun hHeld => ?_)
          clear hK K
          try go_frame
          refine tk 14 rfl (fun w hSw => by (try dsimp only at hSw); go_simp; try with_reducible rfl) ?_
          go_frame
          refine tk 15 rfl (fun w hSw => by (try dsimp only at hSw); go_simp; try with_reducible rfl) ?_
          go_frame
          refine wpAnyH_done (by kernel_rfl) ?_ _
          go_wp2
          go_meet
          case rel => exact ⟨rfl, rfl, by rw [HTM.out], HX⟩
        · cases on
          · have HTM := Lib.hid (show inc = false by rw [HINC.out]; rfl)
            have KEEP := Lib.hid (show ∀ wx, Below v4.heap.size v4 wx → wx.cell? ⟨bm, 0, none⟩ = some (.slice la ll lc) ∧ wx.cell? ⟨bx, 0, none⟩ = some (.bool p) ∧ wx.cell? ⟨bx, 1, none⟩ = some (.int .i64 n) ∧ wx.cell? ⟨g, o + i * 2, none⟩ = some (.bool q) ∧ wx.cell? ⟨g, o + i * 2 + 1, none⟩ = some (.int .i64 k) from fun wx hx => ⟨(one_cell (blk_below HNbm.out hx)).1, (two_cells (blk_below HNbx.out hx)).1, (two_cells (blk_below HNbx.out hx)).2.1, (hx.cell (World.block_lt_of_cell? v4 _ HC.out.1)).trans HC.out.1, (hx.cell (World.block_lt_of_cell? v4 _ HC.out.2)).trans HC.out.2⟩)
            go_upto_region 7 with (fail)
            refine wp_region_held_drew (S := (fun wx => wx.cell? ⟨bm, 0, none⟩ = some (.slice la ll lc) ∧ wx.cell? ⟨bx, 0, none⟩ = some (.bool p) ∧ wx.cell? ⟨bx, 1, none⟩ = some (.int .i64 n) ∧ wx.cell? ⟨g, o + i * 2, none⟩ = some (.bool q) ∧ wx.cell? ⟨g, o + i * 2 + 1, none⟩ = some (.int .i64 k))) (by kernel_rfl) (KEEP.out _ ((Below.refl _ _).drew)) (fun hHeld => ?_)
            obtain ⟨z7, hz7⟩ : ∃ X, X = v4.drew := ⟨_, rfl⟩
            have HX := Lib.hid (show Below v4.heap.size v4 z7 by rw [hz7]; exact (Below.refl _ _).drew)
            replace hHeld := KEEP.out _ HX.out
            rw [← hz7]
            clear hz7
            refine tk 0 rfl (fun w hSw => by (try dsimp only at hSw); go_simp; try with_reducible rfl) ?_
            go_frame
            refine tk 1 rfl (fun w hSw => by (try dsimp only at hSw); go_simp; try with_reducible rfl) ?_
            go_frame
            refine tk 2 rfl (fun w hSw => by (try dsimp only at hSw); go_simp; try with_reducible rfl) ?_
            go_frame
            refine tk 3 rfl (fun w hSw => by (try dsimp only at hSw); go_simp; try with_reducible rfl) ?_
            go_frame
            refine tk 4 rfl (fun w hSw => by (try dsimp only at hSw); go_simp; try with_reducible rfl) ?_
            go_frame
            refine tk 5 rfl (fun w hSw => by (try dsimp only at hSw); go_simp; try with_reducible rfl) ?_
            go_frame
            refine tk 6 rfl (fun w hSw => by (try dsimp only at hSw); go_simp; try with_reducible rfl) ?_
            go_frame
            refine tk 7 rfl (fun w hSw => by (try dsimp only at hSw); go_simp; try with_reducible rfl) ?_
            go_frame
            refine sk 8 rfl ?_
            go_frame
            refine sk 9 rfl ?_
            go_frame
            refine sk 10 rfl ?_
            go_frame
            refine sk 11 rfl ?_
            go_frame
            refine sk 12 rfl ?_
            go_frame
            refine sk 13 rfl ?_
            go_frame
            refine tk 14 rfl (fun w hSw => by (try dsimp only at hSw); go_simp; try with_reducible rfl) ?_
            go_frame
            refine tk 15 rfl (fun w hSw => by (try dsimp only at hSw); go_simp; try with_reducible rfl) ?_
            go_frame
            refine wpAnyH_done (by kernel_rfl) ?_ _
            go_wp2
            go_meet
            case rel => exact ⟨rfl, rfl, by rw [HTM.out], HX⟩
          · have HTM := Lib.hid (show inc = true by rw [HINC.out]; rfl)
            have KEEP := Lib.hid (show ∀ wx, Below v4.heap.size v4 wx → wx.cell? ⟨bm, 0, none⟩ = some (.slice la ll lc) ∧ wx.cell? ⟨bx, 0, none⟩ = some (.bool p) ∧ wx.cell? ⟨bx, 1, none⟩ = some (.int .i64 n) ∧ wx.cell? ⟨g, o + i * 2, none⟩ = some (.bool q) ∧ wx.cell? ⟨g, o + i * 2 + 1, none⟩ = some (.int .i64 k) from fun wx hx => ⟨(one_cell (blk_below HNbm.out hx)).1, (two_cells (blk_below HNbx.out hx)).1, (two_cells (blk_below HNbx.out hx)).2.1, (hx.cell (World.block_lt_of_cell? v4 _ HC.out.1)).trans HC.out.1, (hx.cell (World.block_lt_of_cell? v4 _ HC.out.2)).trans HC.out.2⟩)
            go_upto_region 7 with (fail)
            refine wp_region_held_drew (S := (fun wx => wx.cell? ⟨bm, 0, none⟩ = some (.slice la ll lc) ∧ wx.cell? ⟨bx, 0, none⟩ = some (.bool p) ∧ wx.cell? ⟨bx, 1, none⟩ = some (.int .i64 n) ∧ wx.cell? ⟨g, o + i * 2, none⟩ = some (.bool q) ∧ wx.cell? ⟨g, o + i * 2 + 1, none⟩ = some (.int .i64 k))) (by kernel_rfl) (KEEP.out _ ((Below.refl _ _).drew)) (fun hHeld => ?_)
            obtain ⟨z7, hz7⟩ : ∃ X, X = v4.drew := ⟨_, rfl⟩
            have HX := Lib.hid (show Below v4.heap.size v4 z7 by rw [hz7]; exact (Below.refl _ _).drew)
            replace hHeld := KEEP.out _ HX.out
            rw [← hz7]
            clear hz7
            refine tk 0 rfl (fun w hSw => by (try dsimp only at hSw); go_simp; try with_reducible rfl) ?_
            go_frame
            refine tk 1 rfl (fun w hSw => by (try dsimp only at hSw); go_simp; try with_reducible rfl) ?_
            go_frame
            refine tk 2 rfl (fun w hSw => by (try dsimp only at hSw); go_simp; try with_reducible rfl) ?_
            go_frame
            refine tk 3 rfl (fun w hSw => by (try dsimp only at hSw); go_simp; try with_reducible rfl) ?_
            go_frame
            refine tk 4 rfl (fun w hSw => by (try dsimp only at hSw); go_simp; try with_reducible rfl) ?_
            go_frame
            refine sk 5 rfl ?_
            go_frame
            refine sk 6 rfl ?_
            go_frame
            refine sk 7 rfl ?_
            go_frame
            refine sk 8 rfl ?_
            go_frame
            refine sk 9 rfl ?_
            go_frame
            refine sk 10 rfl ?_
            go_frame
            refine sk 11 rfl ?_
            go_frame
            refine sk 12 rfl ?_
            go_frame
            refine sk 13 rfl ?_
            go_frame
            refine sk 14 rfl ?_
            go_frame
            refine tk 15 rfl (fun w hSw => by (try dsimp only at hSw); go_simp; try with_reducible rfl) ?_
            go_frame
            refine wpAnyH_done (by kernel_rfl) ?_ _
            go_wp2
            go_meet
            case rel => exact ⟨rfl, rfl, by rw [HTM.out], HX⟩
      obtain ⟨rfl, rfl, rfl, hcb⟩ := hcut
      rename World => v5
      replace HNbm := Lib.hid (blk_below HNbm.out hcb.out)
      replace HNbx := Lib.hid (blk_below HNbx.out hcb.out)
      replace HNbr := Lib.hid (blk_below HNbr.out hcb.out)
      replace HB := Lib.hid (HB.out.trans (hcb.out.mono HB.out.size))
      replace HC := Lib.hid (And.intro ((hcb.out.cell (World.block_lt_of_cell? v4 _ HC.out.1)).trans HC.out.1) ((hcb.out.cell (World.block_lt_of_cell? v4 _ HC.out.2)).trans HC.out.2))
      replace HP := Lib.hid (And.intro (keep_own_below HP.out.1 hcb.out) (HP.out.2.trans (hcb.out.mono HP.out.2.size)))
      clear hcb
      have c0 := HC.out.1
      have c1 := HC.out.2
      cases inc
      · go_wp2
        go_roundw
        case rel => exact ⟨i + 1, nl, by go_num, Lib.hid ⟨HH1.out, by rw [HFS.out]; exact HI.out.2⟩, Lib.hid ⟨by rw [HFS.out]; exact HP.out.1, HP.out.2⟩⟩
        case measure => simp only [intOf]; have := HI.out; omega
      · go_wp2_with (at_builtin; refine wpList_append_rmo rfl (.tmp 51) (.tmp 56) rfl w3.heap.size _ nl (F i) rfl HI.out.2 (HP.out.1.alloc _) v5.heap.size [(q, k)] 1 1 rfl rfl (one_at (x := (q, k)) (World.alloc_heap_new _ _)) (by have := HI.out; have := HFl.out i HI.out.1; omega) (by have := HP.out.2.size; simp; omega) ?_)
        intro v6 w6 ho hg
        obtain ⟨va6, vc6, rfl⟩ := own_shape ho
        have HO := Lib.hid ho
        have HG := Lib.hid hg
        clear ho hg c0 c1
        go_wp2
        go_roundw
        case rel =>
          refine ⟨i + 1, nl + 1, by go_num, Lib.hid ⟨HH1.out, ?_⟩, Lib.hid ⟨?_, ?_⟩⟩
          · rw [HFS.out, if_pos trivial, List.length_append, ← HI.out.2]; rfl
          · rw [HFS.out, if_pos trivial]
            exact HO.out
          · have hb := HP.out.2
            exact (hb.alloc hb.size _).grown HG.out (by have := hb.size; simp; omega) (fun j hj => (World.ownsRow.lt HP.out.1 j hj).1)
        case measure => simp only [intOf]; have := HI.out; omega
    · have h2 : i = 13 := by have := HI.out; omega
      subst h2
      have h1' : ¬ (13 : Int) < 13 := by omega
      rw [HFE.out] at HI HP
      obtain ⟨hi1, rfl⟩ := HI.out
      have HO := Lib.hid (rIn_own (own_set_lt (g := br) (k := 0) (u := .slice va R.length vc) HP.out.1 HLT.out) (by have := HRL.out; omega))
      have e0 := (one_cell HNbr.out).1
      have f0 := (one_cell HNbr.out).2
      go_wp2
      refine bodyPost_ret (v := .agg #[.slice va R.length vc]) (by simp [results, Try.results32, go_sem, e0]) rfl ⟨va, vc, rfl, HO.out, ?_⟩
      exact HB.out.trans ((But.set wr br 0 _).below HLbr.out HB.out.size)
end Go.Proofs.Ytjdfinimbdcmbaa.Lab
