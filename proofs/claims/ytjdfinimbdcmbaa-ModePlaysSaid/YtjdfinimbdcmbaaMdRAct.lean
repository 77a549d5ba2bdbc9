/- The reference: new, softly reset, put, the state of one; whether both are alike. -/
import Derived.Test.YtjdfinimbdcmbaaMdOne
set_option linter.unusedVariables false
namespace Go.Proofs.Ytjdfinimbdcmbaa.Lab
open Go Go.RowKit Go.Shelf

theorem MoIn.set1 {w : World} {v u x : Value} {l : List Mo} {b : Nat} {T : TypeId} (h : MoIn w v l) (hb : w.heap[b]? = some (.cells #[x] T (0, 0))) (hx : ∀ t, x ≠ .bool t) : MoIn (w.setCell ⟨b, 0, none⟩ u) v l := by
  obtain ⟨a, c, e, hm, hh⟩ := h
  refine ⟨a, c, e, hm, fun h0 => ?_⟩
  obtain ⟨g, o, ea, hg, hC⟩ := hh h0
  have hne : g ≠ b := by
    intro e
    subst e
    have h1 := (hC 0 h0).1
    rw [cell_of_row w g _ _ _ _ hb] at h1
    cases ho : o + 0 * 2 with
    | zero => rw [ho] at h1; injection h1 with h1; exact hx _ h1
    | succ j => rw [ho] at h1; simp at h1
  have hk := (But.set w b 0 u).block g hg (fun e => by injection e with e; exact hne e)
  exact ⟨g, o, ea, Nat.lt_of_lt_of_le hg (But.set w b 0 u).size, fun i hi => ⟨(World.cell?_of_block (w := w) hk).trans (hC i hi).1, (World.cell?_of_block (w := w) hk).trans (hC i hi).2⟩⟩
theorem RIn.set1 {w : World} {a0 : Option Addr} {k0 c0 : Nat} {v u : Value} {l : List Mo} {b : Nat} (h : RIn w v l) (hb : w.heap[b]? = some (.cells #[.slice a0 k0 c0] 31 (0, 0))) : RIn (w.setCell ⟨b, 0, none⟩ u) v l := ⟨h.1.set1 hb (by intro t h; cases h), fun g e => by
  obtain ⟨cs, cu, hg⟩ := h.2 g e
  exact ⟨cs, cu, ((But.set w b 0 u).block g (Array.getElem?_eq_some_iff.1 hg).1 (fun e => by injection e with e; exact ty_ne hg hb (by decide) e)).trans hg⟩⟩
theorem rone_s {s r : Nat} (on : Bool) (p : Bool) (n : Int) (hk : (bitM (p, n)).isSome = true) (hr : putM on s (p, n) = r) (v : Value) (w : World) (h : RIn w v (allM s)) : Calls Try.prog 32 #[.agg #[v], .bool on, .agg #[.bool p, .int .i64 n]] w fun e w' => ∃ a k c, e = .returned (.agg #[.slice a k c]) ∧ RIn w' (.slice a k c) (allM r) ∧ Below w.heap.size w w' := by
  refine (rone_any v (allM s) (allM r) (by have := allM_le s; omega) on p n (by rw [one_all on s hk, hr]) w h.1).mono ?_
  rintro e w' ⟨a, c, rfl, h1, h2⟩
  exact ⟨a, _, c, rfl, h1, h2⟩
theorem put_none {x : Mo} (on : Bool) (m : Nat) (h : (bitM x).isSome = false) : putM on m x = m := by
  unfold putM
  cases e : bitM x with
  | none => rfl
  | some j => rw [e] at h; cases h
theorem state_no {s : Nat} {x : Mo} (h : decide (x ∈ everyL) = false) : stateM s x = 0 := by
  rw [← known_mem] at h
  unfold stateM
  cases e : bitM x with
  | none => rfl
  | some j => rw [e] at h; cases h
theorem state_yes {s : Nat} {x : Mo} (h : decide (x ∈ everyL) = true) : stateM s x = if decide (x ∈ allM s) = true then 1 else 2 := by
  rw [← known_mem] at h
  rw [← is_mem]
  unfold stateM isM
  cases e : bitM x with
  | none => rw [e] at h; cases h
  | some j => rfl
set_option maxHeartbeats 4000000 in
set_option maxRecDepth 100000 in
theorem rstate_any (s : Nat) (v : Value) (p : Bool) (n : Int) (w : World) (h : MoIn w v (allM s)) : Calls Try.prog 24 #[.agg #[v], .agg #[.bool p, .int .i64 n]] w fun e w' => e = .returned (.int .i64 (stateM s (p, n) : Nat)) ∧ Below w.heap.size w w' := by
  obtain ⟨la, lc, rfl⟩ := h.shape
  obtain ⟨ll, hll⟩ : ∃ ll, ll = (allM s).length := ⟨_, rfl⟩
  rw [← hll] at h ⊢
  have HLM := Lib.hid h
  have HNL := Lib.hid (show (allM s).length ≤ 10000 by have := allM_le s; omega)
  have HKN := Lib.hid (fun w => rknown_any p n w)
  have HIS := Lib.hid (fun w h => ris_any (.slice la ll lc) (allM s) HNL.out p n w h)
  obtain ⟨kn, hkn⟩ : ∃ kn, kn = decide ((p, n) ∈ everyL) := ⟨_, rfl⟩
  obtain ⟨im, him⟩ : ∃ im, im = decide ((p, n) ∈ allM s) := ⟨_, rfl⟩
  obtain ⟨st, hst⟩ : ∃ st, st = stateM s (p, n) := ⟨_, rfl⟩
  have H0 := Lib.hid (show kn = false → st = 0 from fun h => by rw [hst]; exact state_no (hkn.symm.trans h))
  have H1 := Lib.hid (show kn = true → st = if im = true then 1 else 2 from fun h => by rw [hst, him]; exact state_yes (hkn.symm.trans h))
  rw [← hkn] at HKN
  rw [← him] at HIS
  rw [← hst]
  clear hkn him hst hll h
  have HB := Lib.hid (Below.refl w.heap.size w)
  go_enter Try.func24, Try.ntmps24
  have HBo := Lib.hid HB.out.size
  obtain ⟨bm, hbm⟩ : ∃ b, b = w.heap.size := ⟨_, rfl⟩
  obtain ⟨wa0, hwa0⟩ : ∃ x, x = w.alloc (.cells #[.slice la ll lc] 31) := ⟨_, rfl⟩
  obtain ⟨bx, hbx⟩ : ∃ b, b = w.heap.size + 1 := ⟨_, rfl⟩
  obtain ⟨wa1, hwa1⟩ : ∃ x, x = wa0.alloc (.cells #[.bool p, .int .i64 n] 43) := ⟨_, rfl⟩
  have hs0 : w.heap.size = w.heap.size + 0 := by rfl
  have kk : Below w.heap.size w wa0 := by rw [hwa0]; exact (Below.refl _ _).alloc (Nat.le_refl _) _
  replace HB := Lib.hid (HB.out.trans (kk.mono HB.out.size))
  have HNbm := Lib.hid (show wa0.heap[bm]? = some (.cells #[.slice la ll lc] 31 (0, 0)) by rw [hwa0, hbm]; exact World.alloc_heap_new _ _)
  have HLbm := Lib.hid (show w.heap.size ≤ bm by rw [hbm]; have := HBo.out; omega)
  have hs1 : wa0.heap.size = w.heap.size + 1 := by rw [hwa0]; simp
  have kk : Below wa0.heap.size wa0 wa1 := by rw [hwa1]; exact (Below.refl _ _).alloc (Nat.le_refl _) _
  replace HNbm := Lib.hid (blk_below HNbm.out kk)
  replace HB := Lib.hid (HB.out.trans (kk.mono HB.out.size))
  have HNbx := Lib.hid (show wa1.heap[bx]? = some (.cells #[.bool p, .int .i64 n] 43 (0, 0)) by rw [hwa1, hbx, ← hs1]; exact World.alloc_heap_new _ _)
  have HLbx := Lib.hid (show w.heap.size ≤ bx by rw [hbx]; have := HBo.out; omega)
  have HD01bm := Lib.hid (show bm ≠ bx by rw [hbm, hbx]; omega)
  clear kk hs0 hs1
  go_upto_region 1 with (fail)
  rw [← hwa0, ← hwa1, ← hbx, ← hbm]
  clear HBo hwa0 hwa1 hbm hbx
  cases kn
  · have H := Lib.hid (show st = 0 from H0.out rfl)
    have cbm := (one_cell HNbm.out).1
    have fbm := (one_cell HNbm.out).2
    have cbx := (two_cells HNbx.out).1
    have dbx := (two_cells HNbx.out).2.1
    have fbx := (two_cells HNbx.out).2.2.1
    have gbx := (two_cells HNbx.out).2.2.2
    go_wp2_with fail
    refine (HKN.out _).mono ?_
    rintro e w3 ⟨rfl, bb⟩
    replace HNbm := Lib.hid (blk_below HNbm.out bb)
    replace HNbx := Lib.hid (blk_below HNbx.out bb)
    replace HB := Lib.hid (HB.out.trans (bb.mono HB.out.size))
    clear bb
    clear cbm fbm cbx dbx fbx gbx
    have cbm := (one_cell HNbm.out).1
    have fbm := (one_cell HNbm.out).2
    have cbx := (two_cells HNbx.out).1
    have dbx := (two_cells HNbx.out).2.1
    have fbx := (two_cells HNbx.out).2.2.1
    have gbx := (two_cells HNbx.out).2.2.2
    go_wp2
    go_ret
    exact ⟨by rw [H.out]; rfl, HB.out⟩
  · have H := Lib.hid (H1.out rfl)
    have cbm := (one_cell HNbm.out).1
    have fbm := (one_cell HNbm.out).2
    have cbx := (two_cells HNbx.out).1
    have dbx := (two_cells HNbx.out).2.1
    have fbx := (two_cells HNbx.out).2.2.1
    have gbx := (two_cells HNbx.out).2.2.2
    go_wp2_with fail
    refine (HKN.out _).mono ?_
    rintro e w3 ⟨rfl, bb⟩
    replace HNbm := Lib.hid (blk_below HNbm.out bb)
    replace HNbx := Lib.hid (blk_below HNbx.out bb)
    replace HB := Lib.hid (HB.out.trans (bb.mono HB.out.size))
    clear bb
    clear cbm fbm cbx dbx fbx gbx
    cases im
    · have HH := Lib.hid (show st = 2 from H.out)
      have cbm := (one_cell HNbm.out).1
      have fbm := (one_cell HNbm.out).2
      have cbx := (two_cells HNbx.out).1
      have dbx := (two_cells HNbx.out).2.1
      have fbx := (two_cells HNbx.out).2.2.1
      have gbx := (two_cells HNbx.out).2.2.2
      go_wp2_with fail
      refine (HIS.out _ (HLM.out.below HB.out)).mono ?_
      rintro e w4 ⟨rfl, bb⟩
      replace HNbm := Lib.hid (blk_below HNbm.out bb)
      replace HNbx := Lib.hid (blk_below HNbx.out bb)
      replace HB := Lib.hid (HB.out.trans (bb.mono HB.out.size))
      clear bb
      clear cbm fbm cbx dbx fbx gbx
      have cbm := (one_cell HNbm.out).1
      have fbm := (one_cell HNbm.out).2
      have cbx := (two_cells HNbx.out).1
      have dbx := (two_cells HNbx.out).2.1
      have fbx := (two_cells HNbx.out).2.2.1
      have gbx := (two_cells HNbx.out).2.2.2
      go_wp2
      go_ret
      exact ⟨by rw [HH.out]; rfl, HB.out⟩
    · have HH := Lib.hid (show st = 1 from H.out)
      have cbm := (one_cell HNbm.out).1
      have fbm := (one_cell HNbm.out).2
      have cbx := (two_cells HNbx.out).1
      have dbx := (two_cells HNbx.out).2.1
      have fbx := (two_cells HNbx.out).2.2.1
      have gbx := (two_cells HNbx.out).2.2.2
      go_wp2_with fail
      refine (HIS.out _ (HLM.out.below HB.out)).mono ?_
      rintro e w4 ⟨rfl, bb⟩
      replace HNbm := Lib.hid (blk_below HNbm.out bb)
      replace HNbx := Lib.hid (blk_below HNbx.out bb)
      replace HB := Lib.hid (HB.out.trans (bb.mono HB.out.size))
      clear bb
      clear cbm fbm cbx dbx fbx gbx
      have cbm := (one_cell HNbm.out).1
      have fbm := (one_cell HNbm.out).2
      have cbx := (two_cells HNbx.out).1
      have dbx := (two_cells HNbx.out).2.1
      have fbx := (two_cells HNbx.out).2.2.1
      have gbx := (two_cells HNbx.out).2.2.2
      go_wp2
      go_ret
      exact ⟨by rw [HH.out]; rfl, HB.out⟩
set_option maxHeartbeats 4000000 in
set_option maxRecDepth 100000 in
theorem rnew_any (w : World) : Calls Try.prog 9 #[] w fun e w' => ∃ a k c, e = .returned (.agg #[.slice a k c]) ∧ RIn w' (.slice a k c) (allM 96) ∧ Below w.heap.size w w' := by
  have HB := Lib.hid (Below.refl w.heap.size w)
  go_enter Try.func9, Try.ntmps9
  have HBo := Lib.hid HB.out.size
  obtain ⟨br, hbr⟩ : ∃ b, b = w.heap.size := ⟨_, rfl⟩
  obtain ⟨wa0, hwa0⟩ : ∃ x, x = w.alloc (.cells #[.slice none 0 0] 31) := ⟨_, rfl⟩
  have hs0 : w.heap.size = w.heap.size + 0 := by rfl
  have kk : Below w.heap.size w wa0 := by rw [hwa0]; exact (Below.refl _ _).alloc (Nat.le_refl _) _
  replace HB := Lib.hid (HB.out.trans (kk.mono HB.out.size))
  have HNbr := Lib.hid (show wa0.heap[br]? = some (.cells #[.slice none 0 0] 31 (0, 0)) by rw [hwa0, hbr]; exact World.alloc_heap_new _ _)
  have HLbr := Lib.hid (show w.heap.size ≤ br by rw [hbr]; have := HBo.out; omega)
  clear kk hs0
  go_upto_region 1 with (fail)
  rw [← hwa0, ← hbr]
  clear HBo hwa0 hbr
  have cbr := (one_cell HNbr.out).1
  have fbr := (one_cell HNbr.out).2
  go_wp2_with fail
  refine (rone_s (s := 0) (r := 32) true true 7 (by decide) (by decide) (.slice none 0 0) _ (rIn_nil _)).mono ?_
  rintro e w3 ⟨a1, k1, c1, rfl, hli, bb⟩
  have HL1 := Lib.hid hli
  clear hli
  replace HNbr := Lib.hid (blk_below HNbr.out bb)
  replace HB := Lib.hid (HB.out.trans (bb.mono HB.out.size))
  clear bb
  clear cbr fbr
  have cbr := (one_cell HNbr.out).1
  have fbr := (one_cell HNbr.out).2
  go_wp2_with fail
  refine (rone_s (s := 32) (r := 96) true true 25 (by decide) (by decide) _ _ (HL1.out)).mono ?_
  rintro e w4 ⟨a2, k2, c2, rfl, hli, bb⟩
  have HL2 := Lib.hid hli
  clear hli
  replace HNbr := Lib.hid (blk_below HNbr.out bb)
  replace HB := Lib.hid (HB.out.trans (bb.mono HB.out.size))
  clear bb
  clear cbr fbr
  have e0 := (one_cell HNbr.out).1
  have f0 := (one_cell HNbr.out).2
  go_wp2
  refine bodyPost_ret (v := .agg #[.slice a2 k2 c2]) (by simp [results, Try.results9, go_sem, e0]) rfl ⟨a2, k2, c2, rfl, HL2.out.set1 HNbr.out, ?_⟩
  exact HB.out.trans ((But.set _ br 0 _).below HLbr.out HB.out.size)
set_option maxHeartbeats 4000000 in
set_option maxRecDepth 100000 in
theorem rsoft_any (s : Nat) (v : Value) (w : World) (h : RIn w v (allM s)) : Calls Try.prog 12 #[.agg #[v]] w fun e w' => ∃ a k c, e = .returned (.agg #[.slice a k c]) ∧ RIn w' (.slice a k c) (allM (softM s)) ∧ Below w.heap.size w w' := by
  obtain ⟨la, lc, rfl⟩ := h.shape
  obtain ⟨ll, hll⟩ : ∃ ll, ll = (allM s).length := ⟨_, rfl⟩
  rw [← hll] at h ⊢
  have HLM := Lib.hid h
  clear hll h
  obtain ⟨s1, hs1⟩ : ∃ x, x = modB s 0 false := ⟨_, rfl⟩
  obtain ⟨s2, hs2⟩ : ∃ x, x = modB s1 4 false := ⟨_, rfl⟩
  obtain ⟨s3, hs3⟩ : ∃ x, x = modB s2 5 true := ⟨_, rfl⟩
  obtain ⟨s4, hs4⟩ : ∃ x, x = modB s3 6 true := ⟨_, rfl⟩
  have H1 := Lib.hid (show putM false s (false, 4) = s1 from hs1.symm)
  have H2 := Lib.hid (show putM false s1 (true, 6) = s2 from hs2.symm)
  have H3 := Lib.hid (show putM true s2 (true, 7) = s3 from hs3.symm)
  have H4 := Lib.hid (show putM true s3 (true, 25) = s4 from hs4.symm)
  rw [show softM s = s4 by rw [hs4, hs3, hs2, hs1]; rfl]
  clear hs1 hs2 hs3 hs4
  have HB := Lib.hid (Below.refl w.heap.size w)
  go_enter Try.func12, Try.ntmps12
  have HBo := Lib.hid HB.out.size
  obtain ⟨bm, hbm⟩ : ∃ b, b = w.heap.size := ⟨_, rfl⟩
  obtain ⟨wa0, hwa0⟩ : ∃ x, x = w.alloc (.cells #[.slice la ll lc] 31) := ⟨_, rfl⟩
  obtain ⟨br, hbr⟩ : ∃ b, b = w.heap.size + 1 := ⟨_, rfl⟩
  obtain ⟨wa1, hwa1⟩ : ∃ x, x = wa0.alloc (.cells #[.slice none 0 0] 31) := ⟨_, rfl⟩
  have hs0 : w.heap.size = w.heap.size + 0 := by rfl
  have kk : Below w.heap.size w wa0 := by rw [hwa0]; exact (Below.refl _ _).alloc (Nat.le_refl _) _
  replace HB := Lib.hid (HB.out.trans (kk.mono HB.out.size))
  have HNbm := Lib.hid (show wa0.heap[bm]? = some (.cells #[.slice la ll lc] 31 (0, 0)) by rw [hwa0, hbm]; exact World.alloc_heap_new _ _)
  have HLbm := Lib.hid (show w.heap.size ≤ bm by rw [hbm]; have := HBo.out; omega)
  have hs1 : wa0.heap.size = w.heap.size + 1 := by rw [hwa0]; simp
  have kk : Below wa0.heap.size wa0 wa1 := by rw [hwa1]; exact (Below.refl _ _).alloc (Nat.le_refl _) _
  replace HNbm := Lib.hid (blk_below HNbm.out kk)
  replace HB := Lib.hid (HB.out.trans (kk.mono HB.out.size))
  have HNbr := Lib.hid (show wa1.heap[br]? = some (.cells #[.slice none 0 0] 31 (0, 0)) by rw [hwa1, hbr, ← hs1]; exact World.alloc_heap_new _ _)
  have HLbr := Lib.hid (show w.heap.size ≤ br by rw [hbr]; have := HBo.out; omega)
  have HD01bm := Lib.hid (show bm ≠ br by rw [hbm, hbr]; omega)
  clear kk hs0 hs1
  go_upto_region 1 with (fail)
  rw [← hwa0, ← hwa1, ← hbr, ← hbm]
  clear HBo hwa0 hwa1 hbm hbr
  have cbm := (one_cell HNbm.out).1
  have fbm := (one_cell HNbm.out).2
  have cbr := (one_cell HNbr.out).1
  have fbr := (one_cell HNbr.out).2
  go_wp2_with fail
  refine (rone_s (s := s) (r := s1) false false 4 (by decide) (H1.out) _ _ (HLM.out.below HB.out)).mono ?_
  rintro e w3 ⟨a1, k1, c1, rfl, hli, bb⟩
  have HL1 := Lib.hid hli
  clear hli
  replace HNbm := Lib.hid (blk_below HNbm.out bb)
  replace HNbr := Lib.hid (blk_below HNbr.out bb)
  replace HB := Lib.hid (HB.out.trans (bb.mono HB.out.size))
  clear bb
  clear cbm fbm cbr fbr
  have cbm := (one_cell HNbm.out).1
  have fbm := (one_cell HNbm.out).2
  have cbr := (one_cell HNbr.out).1
  have fbr := (one_cell HNbr.out).2
  go_wp2_with fail
  refine (rone_s (s := s1) (r := s2) false true 6 (by decide) (H2.out) _ _ (HL1.out)).mono ?_
  rintro e w4 ⟨a2, k2, c2, rfl, hli, bb⟩
  have HL2 := Lib.hid hli
  clear hli
  replace HNbm := Lib.hid (blk_below HNbm.out bb)
  replace HNbr := Lib.hid (blk_below HNbr.out bb)
  replace HB := Lib.hid (HB.out.trans (bb.mono HB.out.size))
  clear bb
  clear cbm fbm cbr fbr
  have cbm := (one_cell HNbm.out).1
  have fbm := (one_cell HNbm.out).2
  have cbr := (one_cell HNbr.out).1
  have fbr := (one_cell HNbr.out).2
  go_wp2_with fail
  refine (rone_s (s := s2) (r := s3) true true 7 (by decide) (H3.out) _ _ (HL2.out)).mono ?_
  rintro e w5 ⟨a3, k3, c3, rfl, hli, bb⟩
  have HL3 := Lib.hid hli
  clear hli
  replace HNbm := Lib.hid (blk_below HNbm.out bb)
  replace HNbr := Lib.hid (blk_below HNbr.out bb)
  replace HB := Lib.hid (HB.out.trans (bb.mono HB.out.size))
  clear bb
  clear cbm fbm cbr fbr
  have cbm := (one_cell HNbm.out).1
  have fbm := (one_cell HNbm.out).2
  have cbr := (one_cell HNbr.out).1
  have fbr := (one_cell HNbr.out).2
  go_wp2_with fail
  refine (rone_s (s := s3) (r := s4) true true 25 (by decide) (H4.out) _ _ (HL3.out)).mono ?_
  rintro e w6 ⟨a4, k4, c4, rfl, hli, bb⟩
  have HL4 := Lib.hid hli
  clear hli
  replace HNbm := Lib.hid (blk_below HNbm.out bb)
  replace HNbr := Lib.hid (blk_below HNbr.out bb)
  replace HB := Lib.hid (HB.out.trans (bb.mono HB.out.size))
  clear bb
  clear cbm fbm cbr fbr
  have e0 := (one_cell HNbr.out).1
  have f0 := (one_cell HNbr.out).2
  go_wp2
  refine bodyPost_ret (v := .agg #[.slice a4 k4 c4]) (by simp [results, Try.results12, go_sem, e0]) rfl ⟨a4, k4, c4, rfl, HL4.out.set1 HNbr.out, ?_⟩
  exact HB.out.trans ((But.set _ br 0 _).below HLbr.out HB.out.size)
set_option maxHeartbeats 4000000 in
set_option maxRecDepth 100000 in
theorem rput_any (s : Nat) (on : Bool) (v v2 : Value) (l : List Mo) (hl : l.length ≤ 10000) (w : World) (h : RIn w v (allM s)) (h2 : MoIn w v2 l) : Calls Try.prog 14 #[.agg #[v], .bool on, v2] w fun e w' => ∃ a k c, e = .returned (.tuple #[.agg #[.slice a k c], .int .i64 (knownN l : Nat)]) ∧ RIn w' (.slice a k c) (allM (putL on s l)) ∧ Below w.heap.size w w' := by
  obtain ⟨la, lc, rfl⟩ := h.shape
  obtain ⟨ll, hll⟩ : ∃ ll, ll = (allM s).length := ⟨_, rfl⟩
  rw [← hll] at h ⊢
  obtain ⟨ma, mc, rfl⟩ := h2.shape
  obtain ⟨n, hn⟩ : ∃ n, n = l.length := ⟨_, rfl⟩
  rw [← hn] at h2 hl ⊢
  obtain ⟨G, hG⟩ : ∃ G : Nat → Nat, G = fun i => putL on s (l.take i) := ⟨_, rfl⟩
  obtain ⟨N, hN⟩ : ∃ N : Nat → Nat, N = fun i => knownN (l.take i) := ⟨_, rfl⟩
  have HG := Lib.hid (show G 0 = s ∧ N 0 = 0 ∧ (∀ i x, i < n → x = l.getD i (false, 0) → G (i + 1) = putM on (G i) x ∧ N (i + 1) = N i + if (bitM x).isSome then 1 else 0) ∧ G n = putL on s l ∧ N n = knownN l ∧ ∀ i, N i ≤ 10000 from by
    rw [hG, hN]
    refine ⟨rfl, rfl, fun i x hi hx => ?_, ?_, ?_, fun i => ?_⟩
    · have e : l.take (i + 1) = l.take i ++ [x] := by
        rw [hx, List.take_succ_eq_append_getElem (by omega), List.getD_eq_getElem?_getD, List.getElem?_eq_getElem (by omega)]
        rfl
      show putL on s (l.take (i + 1)) = _ ∧ knownN (l.take (i + 1)) = _
      rw [e]
      exact ⟨putL_snoc _ _ _ _, knownN_snoc _ _⟩
    · show putL on s (l.take n) = _
      rw [hn, List.take_length]
    · show knownN (l.take n) = _
      rw [hn, List.take_length]
    · refine Nat.le_trans (knownN_le _) ?_
      rw [List.length_take]
      omega)
  have HLM := Lib.hid (show RIn w (.slice la ll lc) (allM (G 0)) by rw [HG.out.1]; exact h)
  have HLI := Lib.hid h2
  have HNL := Lib.hid hl
  rw [← HG.out.2.2.2.1, ← HG.out.2.2.2.2.1]
  clear hll h hn h2 hl hG hN
  have HB := Lib.hid (Below.refl w.heap.size w)
  go_enter Try.func14, Try.ntmps14
  have HBo := Lib.hid HB.out.size
  obtain ⟨bm, hbm⟩ : ∃ b, b = w.heap.size := ⟨_, rfl⟩
  obtain ⟨wa0, hwa0⟩ : ∃ x, x = w.alloc (.cells #[.slice la ll lc] 31) := ⟨_, rfl⟩
  obtain ⟨br, hbr⟩ : ∃ b, b = w.heap.size + 1 := ⟨_, rfl⟩
  obtain ⟨wa1, hwa1⟩ : ∃ x, x = wa0.alloc (.cells #[.slice none 0 0] 31) := ⟨_, rfl⟩
  have hs0 : w.heap.size = w.heap.size + 0 := by rfl
  have kk : Below w.heap.size w wa0 := by rw [hwa0]; exact (Below.refl _ _).alloc (Nat.le_refl _) _
  replace HB := Lib.hid (HB.out.trans (kk.mono HB.out.size))
  have HNbm := Lib.hid (show wa0.heap[bm]? = some (.cells #[.slice la ll lc] 31 (0, 0)) by rw [hwa0, hbm]; exact World.alloc_heap_new _ _)
  have HLbm := Lib.hid (show w.heap.size ≤ bm by rw [hbm]; have := HBo.out; omega)
  have hs1 : wa0.heap.size = w.heap.size + 1 := by rw [hwa0]; simp
  have kk : Below wa0.heap.size wa0 wa1 := by rw [hwa1]; exact (Below.refl _ _).alloc (Nat.le_refl _) _
  replace HNbm := Lib.hid (blk_below HNbm.out kk)
  replace HB := Lib.hid (HB.out.trans (kk.mono HB.out.size))
  have HNbr := Lib.hid (show wa1.heap[br]? = some (.cells #[.slice none 0 0] 31 (0, 0)) by rw [hwa1, hbr, ← hs1]; exact World.alloc_heap_new _ _)
  have HLbr := Lib.hid (show w.heap.size ≤ br by rw [hbr]; have := HBo.out; omega)
  have HD01bm := Lib.hid (show bm ≠ br by rw [hbm, hbr]; omega)
  clear kk hs0 hs1
  go_upto_region 1 with (fail)
  rw [← hwa0, ← hwa1, ← hbr, ← hbm]
  clear HBo hwa0 hwa1 hbm hbr
  have HP := Lib.hid (show wa1.heap[bm]? = some (.cells #[.slice la ll lc] 31 (0, 0)) ∧ wa1.heap[br]? = some (.cells #[.slice none 0 0] 31 (0, 0)) ∧ RIn wa1 (.slice la ll lc) (allM (G 0)) ∧ Below w.heap.size w wa1 from ⟨HNbm.out, HNbr.out, HLM.out.below HB.out, HB.out⟩)
  clear HNbm HNbr HLM HB
  go_wp2_with fail
  go_loopw [8, 9] (fun v u wr => ∃ i : Nat, ∃ a k c, v = .int .i64 (N i : Nat) ∧ u = .int .i64 (i : Nat) ∧ Hid (i ≤ n) ∧ Hid (wr.heap[bm]? = some (.cells #[.slice a k c] 31 (0, 0)) ∧ wr.heap[br]? = some (.cells #[.slice none 0 0] 31 (0, 0)) ∧ RIn wr (.slice a k c) (allM (G i)) ∧ Below w.heap.size w wr)) (fun v u wr => 20000 - (intOf u).toNat)
  case atStart => exact ⟨0, la, ll, lc, by rw [HG.out.2.1]; rfl, rfl, Lib.hid (Nat.zero_le _), HP⟩
  case round =>
    obtain ⟨i, a, k, c, rfl, rfl, HI, HP⟩ := hrel
    have u1 : IntKind.i64.wrap ((i : Int) + 1) = ((i + 1 : Nat) : Int) := by rw [IntKind.wrap_i64]; have := HI.out; have := HNL.out; omega
    have u2 : IntKind.i64.wrap ((N i : Int) + 1) = ((N i + 1 : Nat) : Int) := by rw [IntKind.wrap_i64]; have := HG.out.2.2.2.2.2 i; omega
    have HNbm := Lib.hid HP.out.1
    have HNbr := Lib.hid HP.out.2.1
    have HMI := Lib.hid HP.out.2.2.1
    have HB := Lib.hid HP.out.2.2.2
    clear HP
    by_cases h1 : i < n
    · obtain ⟨g, o, hla, c0, c1⟩ := (HLI.out.below HB.out).at (i := i) h1
      subst hla
      have HH1 := Lib.hid h1
      obtain ⟨x, hx⟩ : ∃ x, x = l.getD i (false, 0) := ⟨_, rfl⟩
      rw [← hx] at c0 c1
      have HGS := Lib.hid (HG.out.2.2.1 i x h1 hx)
      clear hx
      obtain ⟨p, q⟩ := x
      simp only [] at c0 c1
      have HKN := Lib.hid (fun w => rknown_any p q w)
      rw [← known_mem] at HKN
      have HC := Lib.hid (And.intro c0 c1)
      cases hk : (bitM (p, q)).isSome
      · rw [hk] at HKN
        have HG1 := Lib.hid (show G (i + 1) = G i ∧ N (i + 1) = N i from ⟨by rw [HGS.out.1, put_none on _ hk], by rw [HGS.out.2, hk]; rfl⟩)
        clear hk
        have cbm := (one_cell HNbm.out).1
        have fbm := (one_cell HNbm.out).2
        have cbr := (one_cell HNbr.out).1
        have fbr := (one_cell HNbr.out).2
        go_wp2_with fail
        refine (HKN.out _).mono ?_
        rintro e v1 ⟨rfl, bb⟩
        replace HMI := Lib.hid (HMI.out.below bb)
        replace HNbm := Lib.hid (blk_below HNbm.out bb)
        replace HNbr := Lib.hid (blk_below HNbr.out bb)
        replace HB := Lib.hid (HB.out.trans (bb.mono HB.out.size))
        clear bb c0 c1
        clear cbm fbm cbr fbr
        have cbm := (one_cell HNbm.out).1
        have fbm := (one_cell HNbm.out).2
        have cbr := (one_cell HNbr.out).1
        have fbr := (one_cell HNbr.out).2
        go_wp2
        go_roundw
        case rel => exact ⟨i + 1, a, k, c, by rw [HG1.out.2], by go_num, Lib.hid HH1.out, Lib.hid ⟨HNbm.out, HNbr.out, by rw [HG1.out.1]; exact HMI.out, HB.out⟩⟩
        case measure => simp only [intOf]; have := HI.out; have := HNL.out; omega
      · rw [hk] at HKN
        have HG1 := Lib.hid (show G (i + 1) = putM on (G i) (p, q) ∧ N (i + 1) = N i + 1 from ⟨HGS.out.1, by rw [HGS.out.2, hk]; rfl⟩)
        have HKS := Lib.hid hk
        clear hk
        have cbm := (one_cell HNbm.out).1
        have fbm := (one_cell HNbm.out).2
        have cbr := (one_cell HNbr.out).1
        have fbr := (one_cell HNbr.out).2
        go_wp2_with fail
        refine (HKN.out _).mono ?_
        rintro e v1 ⟨rfl, bb⟩
        replace HMI := Lib.hid (HMI.out.below bb)
        replace HC := Lib.hid (And.intro ((bb.cell (World.block_lt_of_cell? wr _ HC.out.1)).trans HC.out.1) ((bb.cell (World.block_lt_of_cell? wr _ HC.out.2)).trans HC.out.2))
        replace HNbm := Lib.hid (blk_below HNbm.out bb)
        replace HNbr := Lib.hid (blk_below HNbr.out bb)
        replace HB := Lib.hid (HB.out.trans (bb.mono HB.out.size))
        clear bb c0 c1
        clear cbm fbm cbr fbr
        have KEEP := Lib.hid (show ∀ wx, Below v1.heap.size v1 wx → wx.cell? ⟨bm, 0, none⟩ = some (.slice a k c) ∧ wx.cell? ⟨br, 0, none⟩ = some (.slice none 0 0) ∧ wx.cell? ⟨g, o + i * 2, none⟩ = some (.bool p) ∧ wx.cell? ⟨g, o + i * 2 + 1, none⟩ = some (.int .i64 q) from fun wx hx => ⟨(one_cell (blk_below HNbm.out hx)).1, (one_cell (blk_below HNbr.out hx)).1, (hx.cell (World.block_lt_of_cell? v1 _ HC.out.1)).trans HC.out.1, (hx.cell (World.block_lt_of_cell? v1 _ HC.out.2)).trans HC.out.2⟩)
        go_upto_region 6 with (fail)
        refine region_but (S := (fun wx => wx.cell? ⟨bm, 0, none⟩ = some (.slice a k c) ∧ wx.cell? ⟨br, 0, none⟩ = some (.slice none 0 0) ∧ wx.cell? ⟨g, o + i * 2, none⟩ = some (.bool p) ∧ wx.cell? ⟨g, o + i * 2 + 1, none⟩ = some (.int .i64 q))) 7 (by kernel_rfl) (KEEP.out _ ((Below.refl _ _).drew)) (fun hHeld => ?_)
        obtain ⟨z6, hz6⟩ : ∃ X, X = v1.drew := ⟨_, rfl⟩
        have HX := Lib.hid (show Below v1.heap.size v1 z6 by rw [hz6]; exact (Below.refl _ _).drew)
        replace hHeld := KEEP.out _ HX.out
        rw [← hz6]
        clear hz6
        refine ti 0 rfl (fun w hSw => by (try dsimp only at hSw); go_simp; try with_reducible rfl) ?_
        go_frame
        refine ti 1 rfl (fun w hSw => by (try dsimp only at hSw); go_simp; try with_reducible rfl) ?_
        go_frame
        refine ti 2 rfl (fun w hSw => by (try dsimp only at hSw); go_simp; try with_reducible rfl) ?_
        go_frame
        refine ti 3 rfl (fun w hSw => by (try dsimp only at hSw); go_simp; try with_reducible rfl) ?_
        go_frame
        refine ti 4 rfl (fun w hSw => by (try dsimp only at hSw); go_simp; try with_reducible rfl) ?_
        go_frame
        refine ti 5 rfl (fun w hSw => by (try dsimp only at hSw); go_simp; try with_reducible rfl) ?_
        go_frame
        refine th 6 rfl (by kernel_rfl) (by decide) (by kernel_rfl) (fun K hK => ?_)
        go_simp
        refine (rone_s (s := G i) on p q HKS.out rfl _ _ (HMI.out.below HX.out)).mono ?_
        rintro e v2 ⟨a2, k2, c2, rfl, hli, bb⟩
        have HL2 := Lib.hid hli
        clear hli
        replace HX := Lib.hid (HX.out.trans (bb.mono HX.out.size))
        clear bb
        go_wp2_with fail
        refine hK.out _ _ (KEEP.out _ HX.out) (fun hHeld => ?_)
        clear hK K
        try go_frame
        replace HNbm := Lib.hid (blk_below HNbm.out HX.out)
        replace HNbr := Lib.hid (blk_below HNbr.out HX.out)
        replace HB := Lib.hid (HB.out.trans (HX.out.mono HB.out.size))
        have e0 := (one_cell HNbm.out).1
        have f0 := (one_cell HNbm.out).2
        obtain ⟨v3, hv3⟩ : ∃ x, x = v2.setCell ⟨bm, 0, none⟩ (.slice a2 k2 c2) := ⟨_, rfl⟩
        have HV3 := Lib.hid hv3
        refine tx rfl (by kernel_rfl) (by kernel_rfl) (by kernel_rfl) (fun K hK => ?_)
        go_simp
        rw [← hv3]
        refine hK.out _ _ ?_
        clear hK K hv3 hHeld KEEP e0 f0
        try go_frame
        go_wp2
        go_roundw
        case rel => exact ⟨i + 1, a2, k2, c2, by rw [HG1.out.2]; go_num, by go_num, Lib.hid HH1.out, Lib.hid ⟨by rw [HV3.out]; exact one_setCell HNbm.out, by rw [HV3.out]; exact ((But.set v2 bm 0 _).block br (Array.getElem?_eq_some_iff.1 HNbr.out).1 (fun e => by injection e with e; exact HD01bm.out e.symm)).trans HNbr.out, by rw [HV3.out, HG1.out.1]; exact HL2.out.set1 HNbm.out, by rw [HV3.out]; exact HB.out.trans ((But.set v2 bm 0 _).below HLbm.out HB.out.size)⟩⟩
        case measure => simp only [intOf]; have := HI.out; have := HNL.out; omega
    · have h2 : i = n := by have := HI.out; omega
      subst h2
      have cm := (one_cell HNbm.out).1
      have fm := (one_cell HNbm.out).2
      have e0 := (one_cell HNbr.out).1
      have f0 := (one_cell HNbr.out).2
      go_wp2
      refine bodyPost_ret (v := .tuple #[.agg #[.slice a k c], .int .i64 (N i : Nat)]) (by simp [results, Try.results14, go_sem, e0]) rfl ⟨a, k, c, rfl, HMI.out.set1 HNbr.out, ?_⟩
      exact HB.out.trans ((But.set _ br 0 _).below HLbr.out HB.out.size)
set_option maxHeartbeats 4000000 in
set_option maxRecDepth 100000 in
theorem alike_any (s : Nat) (hs : s < 2048) (v : Value) (w : World) (h : MoIn w v (allM s)) : Calls Try.prog 25 #[.agg #[.int .u16 (s : Nat)], .agg #[v]] w fun e w' => e = .returned (.bool true) ∧ Below w.heap.size w w' := by
  have HALL := Lib.hid (fun w => all_any s hs w)
  have HLE := Lib.hid (allM_le s)
  obtain ⟨A, hA⟩ : ∃ A, A = allM s := ⟨_, rfl⟩
  rw [← hA] at HALL HLE h
  clear hA hs
  obtain ⟨la, lc, rfl⟩ := h.shape
  obtain ⟨n, hn⟩ : ∃ n, n = A.length := ⟨_, rfl⟩
  rw [← hn] at h HLE ⊢
  have HN := Lib.hid hn
  have HLM := Lib.hid h
  clear hn h
  have HB := Lib.hid (Below.refl w.heap.size w)
  go_enter Try.func25, Try.ntmps25
  have HBo := Lib.hid HB.out.size
  obtain ⟨b2, hb2⟩ : ∃ b, b = w.heap.size := ⟨_, rfl⟩
  obtain ⟨wa0, hwa0⟩ : ∃ x, x = w.alloc (.cells #[.int .u16 (s : Nat)] 27) := ⟨_, rfl⟩
  obtain ⟨bm, hbm⟩ : ∃ b, b = w.heap.size + 1 := ⟨_, rfl⟩
  obtain ⟨wa1, hwa1⟩ : ∃ x, x = wa0.alloc (.cells #[.slice la n lc] 31) := ⟨_, rfl⟩
  have hs0 : w.heap.size = w.heap.size + 0 := by rfl
  have kk : Below w.heap.size w wa0 := by rw [hwa0]; exact (Below.refl _ _).alloc (Nat.le_refl _) _
  replace HB := Lib.hid (HB.out.trans (kk.mono HB.out.size))
  have HNb2 := Lib.hid (show wa0.heap[b2]? = some (.cells #[.int .u16 (s : Nat)] 27 (0, 0)) by rw [hwa0, hb2]; exact World.alloc_heap_new _ _)
  have HLb2 := Lib.hid (show w.heap.size ≤ b2 by rw [hb2]; have := HBo.out; omega)
  have hs1 : wa0.heap.size = w.heap.size + 1 := by rw [hwa0]; simp
  have kk : Below wa0.heap.size wa0 wa1 := by rw [hwa1]; exact (Below.refl _ _).alloc (Nat.le_refl _) _
  replace HNb2 := Lib.hid (blk_below HNb2.out kk)
  replace HB := Lib.hid (HB.out.trans (kk.mono HB.out.size))
  have HNbm := Lib.hid (show wa1.heap[bm]? = some (.cells #[.slice la n lc] 31 (0, 0)) by rw [hwa1, hbm, ← hs1]; exact World.alloc_heap_new _ _)
  have HLbm := Lib.hid (show w.heap.size ≤ bm by rw [hbm]; have := HBo.out; omega)
  have HD01b2 := Lib.hid (show b2 ≠ bm by rw [hb2, hbm]; omega)
  clear kk hs0 hs1
  go_upto_region 1 with (fail)
  rw [← hwa0, ← hwa1, ← hbm, ← hb2]
  clear HBo hwa0 hwa1 hb2 hbm
  have cb2 := (one_cell HNb2.out).1
  have fb2 := (one_cell HNb2.out).2
  have cbm := (one_cell HNbm.out).1
  have fbm := (one_cell HNbm.out).2
  go_wp2_with fail
  refine (HALL.out _).mono ?_
  rintro e w3 ⟨v4, rfl, hli, bb⟩
  have HL4 := Lib.hid hli
  clear hli
  replace HNb2 := Lib.hid (blk_below HNb2.out bb)
  replace HNbm := Lib.hid (blk_below HNbm.out bb)
  replace HB := Lib.hid (HB.out.trans (bb.mono HB.out.size))
  clear bb
  clear cb2 fb2 cbm fbm
  have cb2 := (one_cell HNb2.out).1
  have fb2 := (one_cell HNb2.out).2
  have cbm := (one_cell HNbm.out).1
  have fbm := (one_cell HNbm.out).2
  go_wp2_with fail
  refine (modes_any v4 A A rfl _ HL4.out (by have := HLE.out; have := HN.out; omega)).mono ?_
  rintro e w4 ⟨v5, rfl, ho, bb⟩
  obtain ⟨a5, c5, rfl⟩ := own_shape ho
  have HL5 := Lib.hid (moIn_own ho (by have := HLE.out; have := HN.out; omega))
  rw [← HN.out] at HL5
  rw [← HN.out]
  clear ho
  replace HNb2 := Lib.hid (blk_below HNb2.out bb)
  replace HNbm := Lib.hid (blk_below HNbm.out bb)
  replace HB := Lib.hid (HB.out.trans (bb.mono HB.out.size))
  clear bb
  clear cb2 fb2 cbm fbm
  replace HLM := Lib.hid (HLM.out.below HB.out)
  have cb2 := (one_cell HNb2.out).1
  have fb2 := (one_cell HNb2.out).2
  have cbm := (one_cell HNbm.out).1
  have fbm := (one_cell HNbm.out).2
  go_wp2_with fail
  go_loopw [6] (fun v wr => ∃ i : Nat, v = .int .i64 (i : Nat) ∧ Hid (i ≤ n) ∧ Hid (Below w4.heap.size w4 wr)) (fun v wr => 60 - (intOf v).toNat)
  case atStart => exact ⟨0, rfl, Lib.hid (Nat.zero_le _), Lib.hid (Below.refl _ _)⟩
  case round =>
    obtain ⟨i, rfl, HI, HY⟩ := hrel
    have u1 : IntKind.i64.wrap ((i : Int) + 1) = ((i + 1 : Nat) : Int) := by rw [IntKind.wrap_i64]; have := HI.out; have := HLE.out; omega
    clear cb2 fb2 cbm fbm
    replace HNb2 := Lib.hid (blk_below HNb2.out HY.out)
    replace HNbm := Lib.hid (blk_below HNbm.out HY.out)
    replace HB := Lib.hid (HB.out.trans (HY.out.mono HB.out.size))
    by_cases h1 : i < n
    · obtain ⟨g, o, hla, c0, c1⟩ := (HL5.out.below HY.out).at (i := i) h1
      obtain ⟨g', o', hla', d0, d1⟩ := (HLM.out.below HY.out).at (i := i) h1
      subst hla hla'
      have HH1 := Lib.hid h1
      obtain ⟨y, hy⟩ : ∃ y, y = A.getD i (false, 0) := ⟨_, rfl⟩
      rw [← hy] at c0 c1 d0 d1
      clear hy
      obtain ⟨q, k⟩ := y
      simp only [] at c0 c1 d0 d1
      have hq : ∀ w, (Op.equalIn 10000 43 (.agg #[.bool q, .int .i64 k]) (.agg #[.bool q, .int .i64 k])).run Try.prog w = .ok true w := fun w => by rw [eqRef, decide_eq_true rfl]
      have cb2 := (one_cell HNb2.out).1
      have fb2 := (one_cell HNb2.out).2
      have cbm := (one_cell HNbm.out).1
      have fbm := (one_cell HNbm.out).2
      go_upto_region 7 with (fail)
      go_quiet (fail)
      go_wp2
      go_roundw
      case rel => exact ⟨i + 1, by go_num, Lib.hid HH1.out, Lib.hid (below_drewN HY.out _)⟩
      case measure => simp only [intOf]; have := HI.out; have := HLE.out; omega
    · have cb2 := (one_cell HNb2.out).1
      have fb2 := (one_cell HNb2.out).2
      have cbm := (one_cell HNbm.out).1
      have fbm := (one_cell HNbm.out).2
      go_wp2
      go_ret
      exact ⟨rfl, HB.out⟩
end Go.Proofs.Ytjdfinimbdcmbaa.Lab
