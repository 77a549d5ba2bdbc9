/- ModePlays: what is set, how many are known, the state of any, as the reference says. -/
import Derived.Test.YtjdfinimbdcmbaaMdRAct
set_option linter.unusedVariables false
namespace Go.Proofs.Ytjdfinimbdcmbaa.Lab
open Go Go.RowKit Go.Shelf

theorem RIn.setT {w : World} {v u : Value} {l : List Mo} {b : Nat} {cs : Array Value} {T : TypeId} {fr : Nat × Nat} (h : RIn w v l) (hb : w.heap[b]? = some (.cells cs T fr)) (hT : 43 ≠ T) : RIn (w.setCell ⟨b, 0, none⟩ u) v l := by
  obtain ⟨⟨a, c, e, hm, hh⟩, ht⟩ := h
  have hne : ∀ g, v.ownBlock = some g → some g ≠ some b := fun g eg e2 => by
    injection e2 with e2
    obtain ⟨cs', cu, hg⟩ := ht g eg
    exact ty_ne hg hb hT e2
  refine ⟨⟨a, c, e, hm, fun h0 => ?_⟩, fun g eg => ?_⟩
  · obtain ⟨g, o, ea, hg, hC⟩ := hh h0
    have hk := (But.set w b 0 u).block g hg (hne g (by rw [e, ea]; rfl))
    exact ⟨g, o, ea, Nat.lt_of_lt_of_le hg (But.set w b 0 u).size, fun i hi => ⟨(World.cell?_of_block (w := w) hk).trans (hC i hi).1, (World.cell?_of_block (w := w) hk).trans (hC i hi).2⟩⟩
  · obtain ⟨cs', cu, hg⟩ := ht g eg
    exact ⟨cs', cu, ((But.set w b 0 u).block g (Array.getElem?_eq_some_iff.1 hg).1 (hne g eg)).trans hg⟩
theorem RIn.grown {w w' : World} {v vr : Value} {l : List Mo} {lo n : Nat} {xs : List Value} (h : RIn w v l) (ho : w.ownsRow lo 24 2 vr n xs) (hg : w.grownBy w' vr.ownBlock) : RIn w' v l := by
  obtain ⟨⟨a, c, e, hm, hh⟩, ht⟩ := h
  have hne : ∀ g, v.ownBlock = some g → some g ≠ vr.ownBlock := fun g eg e2 => by
    obtain ⟨cs', cu, hq⟩ := ht g eg
    obtain ⟨cur, hq2⟩ := own_ty ho e2.symm
    exact ty_ne hq hq2 (by decide) rfl
  refine ⟨⟨a, c, e, hm, fun h0 => ?_⟩, fun g eg => ?_⟩
  · obtain ⟨g, o, ea, hg', hC⟩ := hh h0
    have hk := hg.block g hg' (hne g (by rw [e, ea]; rfl))
    exact ⟨g, o, ea, Nat.lt_of_lt_of_le hg' hg.size, fun i hi => ⟨(World.cell?_of_block (w := w) hk).trans (hC i hi).1, (World.cell?_of_block (w := w) hk).trans (hC i hi).2⟩⟩
  · obtain ⟨cs', cu, hq⟩ := ht g eg
    exact ⟨cs', cu, (hg.block g (Array.getElem?_eq_some_iff.1 hq).1 (hne g eg)).trans hq⟩
theorem wp_append_mo {o : Oper} {a : Act} {w : World} {K : Act → World → Prop} {Q : Exit → Act → World → Prop} (s x : Operand)
    (hop : o.op = Op.call { callee := Callee.builtin Builtin.append, args := #[s, x], argTypes := #[33, 33] })
    (base : Nat) (v : Value) (n : Nat) (l : List Mo) (hs : a.eval s = v) (hown : w.ownsRow base 24 2 v n (moL l))
    (q : Nat) (k : List Mo) (m c : Nat) (hx : a.eval x = .slice (some ⟨q, 0, none⟩) m c) (hm : m = k.length) (hc : ∀ j u, (moL k)[j]? = some u → w.cell? ((⟨q, 0, none⟩ : Addr).add j) = some u) (hnr : n + m ≤ 100000) (hb : base ≤ w.heap.size)
    (hK : ∀ v' w', w'.ownsRow base 24 2 v' (n + m) (moL (l ++ k)) → w.grownBy w' v.ownBlock → K (a.put o.dst v') w') : Oper.wp Try.prog o a w K Q := by
  obtain ⟨ib, hi, hz0, hz1, hz2⟩ := info_parts infoMo
  exact wp_append_own w s x 33 hop base 24 ib (.agg #[.bool false, .int .i64 0]) 2 16 Try.underlying33 hi hz0 hz1 hz2 rfl (by decide) v n (moL l) hs hown ⟨q, 0, none⟩ m c (moL k) hx (by rw [moL_len, hm]) hc (moL_one k) (by unfold maxLen; omega) (by omega) hb (fun v' w' h1 h2 _ => hK v' w' (by rw [moL_append]; exact h1) h2)
theorem two_lit {w : World} {q : Nat} {x y : Mo} {T : TypeId} (h : w.heap[q]? = some (.cells #[.bool x.1, .int .i64 x.2, .bool y.1, .int .i64 y.2] T (0, 0))) : ∀ j u, (moL [x, y])[j]? = some u → w.cell? ((⟨q, 0, none⟩ : Addr).add j) = some u := by
  intro j u hj
  have hp : (⟨q, 0, none⟩ : Addr).add j = ⟨q, 0 + j, none⟩ := by unfold Addr.add; split <;> simp_all
  rw [hp, Nat.zero_add, cell_of_row w q j _ _ _ h]
  simpa [moL] using hj
/-- What is known behind an act: the mode asked for, both modes, and the act's row. -/
def Jn (w wc : World) (lo bx b5 b6 : Nat) (p : Bool) (n0 : Int) (s : Nat) (r6 v : Value) (A : List Mo) (vr : Value) (rl : Nat) (R : List Mo) : Prop :=
  (wc.heap[bx]? = some (.cells #[.bool p, .int .i64 n0] 24 (0, 0)) ∧ wc.heap[b5]? = some (.cells #[.int .u16 (s : Nat)] 27 (0, 0)) ∧ wc.heap[b6]? = some (.cells #[r6] 31 (0, 0))) ∧ RIn wc v A ∧ wc.ownsRow lo 24 2 vr rl (moL R) ∧ Below w.heap.size w wc ∧ lo ≤ wc.heap.size
section
variable {w wc : World} {lo bx b5 b6 : Nat} {p : Bool} {n0 : Int} {s : Nat} {r6 v : Value} {A : List Mo} {vr : Value} {rl : Nat} {R : List Mo}
theorem Jn.below {w' : World} (h : Jn w wc lo bx b5 b6 p n0 s r6 v A vr rl R) (k : Below wc.heap.size wc w') : Jn w w' lo bx b5 b6 p n0 s r6 v A vr rl R :=
  ⟨⟨blk_below h.1.1 k, blk_below h.1.2.1 k, blk_below h.1.2.2 k⟩, h.2.1.below k, keep_own_below h.2.2.1 k, h.2.2.2.1.trans (k.mono h.2.2.2.1.size), Nat.le_trans h.2.2.2.2 k.size⟩
theorem Jn.set5 {s' : Nat} (h : Jn w wc lo bx b5 b6 p n0 s r6 v A vr rl R) (hn : w.heap.size ≤ b5 ∧ b5 < lo ∧ bx ≠ b5 ∧ b6 ≠ b5) : Jn w (wc.setCell ⟨b5, 0, none⟩ (.int .u16 (s' : Nat))) lo bx b5 b6 p n0 s' r6 v A vr rl R :=
  ⟨⟨((But.set wc b5 0 _).block bx (Array.getElem?_eq_some_iff.1 h.1.1).1 (by have := hn.2.2.1; simp; omega)).trans h.1.1, one_setCell h.1.2.1, ((But.set wc b5 0 _).block b6 (Array.getElem?_eq_some_iff.1 h.1.2.2).1 (by have := hn.2.2.2; simp; omega)).trans h.1.2.2⟩, h.2.1.setT h.1.2.1 (by decide), own_set_lt h.2.2.1 hn.2.1, h.2.2.2.1.trans ((But.set wc b5 0 _).below hn.1 h.2.2.2.1.size), Nat.le_trans h.2.2.2.2 (But.set wc b5 0 _).size⟩
theorem Jn.set6 {u : Value} (h : Jn w wc lo bx b5 b6 p n0 s r6 v A vr rl R) (hn : w.heap.size ≤ b6 ∧ b6 < lo ∧ bx ≠ b6 ∧ b5 ≠ b6) : Jn w (wc.setCell ⟨b6, 0, none⟩ u) lo bx b5 b6 p n0 s u v A vr rl R :=
  ⟨⟨((But.set wc b6 0 _).block bx (Array.getElem?_eq_some_iff.1 h.1.1).1 (by have := hn.2.2.1; simp; omega)).trans h.1.1, ((But.set wc b6 0 _).block b5 (Array.getElem?_eq_some_iff.1 h.1.2.1).1 (by have := hn.2.2.2; simp; omega)).trans h.1.2.1, one_setCell h.1.2.2⟩, h.2.1.setT h.1.2.2 (by decide), own_set_lt h.2.2.1 hn.2.1, h.2.2.2.1.trans ((But.set wc b6 0 _).below hn.1 h.2.2.2.1.size), Nat.le_trans h.2.2.2.2 (But.set wc b6 0 _).size⟩
theorem Jn.with {v' : Value} {A' : List Mo} (h : Jn w wc lo bx b5 b6 p n0 s r6 v A vr rl R) (hr : RIn wc v' A') : Jn w wc lo bx b5 b6 p n0 s r6 v' A' vr rl R := ⟨h.1, hr, h.2.2⟩
end
set_option maxHeartbeats 16000000 in
set_option maxRecDepth 100000 in
theorem plays_core (la : Option Addr) (n lc : Nat) (AL : List Ac) (p : Bool) (n0 : Int) (hw : wfM (p, n0)) (w : World) (h : AcsIn w (.slice la n lc) AL) : Calls Try.prog 3 #[.slice la n lc, .agg #[.bool p, .int .i64 n0]] w fun e w' => e = .returned (.bool true) ∧ Below w.heap.size w w' := by
  have hl : AL.length = n := by obtain ⟨a, c, e⟩ := h.shape; injection e with _ e _; exact e.symm
  have HLN := Lib.hid hl
  have HM := Lib.hid (show n ≤ 9223372036854775807 by have := h.maxl; unfold maxLen at this; omega)
  have HAC := Lib.hid h
  have HWX := Lib.hid hw
  obtain ⟨q0, hq0⟩ : ∃ q, q = nearN n0 := ⟨_, rfl⟩
  have HNR := Lib.hid (fun w => near_any p n0 w)
  rw [← hq0] at HNR
  have HWN := Lib.hid (show wfM (p, q0) by rw [hq0]; exact nearN_wf hw)
  obtain ⟨G, hG⟩ : ∃ G : Nat → Nat, G = runS AL := ⟨_, rfl⟩
  have HG := Lib.hid (show G 0 = 96 ∧ (∀ i, i < n → G (i + 1) = actS (G i) (AcK AL i)) ∧ (∀ k, G k < 2048) by
    rw [hG]
    exact ⟨rfl, fun i hi => runS_more (by omega), runS_lt AL⟩)
  clear hl h hG hq0 hw
  have HB := Lib.hid (Below.refl w.heap.size w)
  go_enter Try.func3, Try.ntmps3
  obtain ⟨bx, hbx⟩ : ∃ b, b = w.heap.size := ⟨_, rfl⟩
  obtain ⟨w1, hw1⟩ : ∃ x, x = w.alloc (.cells #[.bool p, .int .i64 n0] 24) := ⟨_, rfl⟩
  have HBo := Lib.hid HB.out.size
  have kk : Below w.heap.size w w1 := by rw [hw1]; exact (Below.refl _ _).alloc (Nat.le_refl _) _
  replace HB := Lib.hid (HB.out.trans (kk.mono HB.out.size))
  have HNbx := Lib.hid (show w1.heap[bx]? = some (.cells #[.bool p, .int .i64 n0] 24 (0, 0)) by rw [hw1, hbx]; exact World.alloc_heap_new _ _)
  have HLbx := Lib.hid (show w.heap.size ≤ bx by rw [hbx]; exact HBo.out)
  go_upto_region 1 with (fail)
  rw [← hw1, ← hbx]
  clear hw1 hbx kk HBo
  have cbx := (two_cells HNbx.out).1
  have dbx := (two_cells HNbx.out).2.1
  have fbx := (two_cells HNbx.out).2.2.1
  have gbx := (two_cells HNbx.out).2.2.2
  go_wp2_with fail
  refine (mnew_any _).mono ?_
  rintro e w2 ⟨rfl, bb⟩
  replace HNbx := Lib.hid (blk_below HNbx.out bb)
  replace HB := Lib.hid (HB.out.trans (bb.mono HB.out.size))
  clear bb
  clear cbx dbx fbx gbx
  have cbx := (two_cells HNbx.out).1
  have dbx := (two_cells HNbx.out).2.1
  have fbx := (two_cells HNbx.out).2.2.1
  have gbx := (two_cells HNbx.out).2.2.2
  go_wp2_with fail
  refine (rnew_any _).mono ?_
  rintro e w3 ⟨a0, k0, c0, rfl, hri, bb⟩
  have HRI := Lib.hid hri
  clear hri
  replace HNbx := Lib.hid (blk_below HNbx.out bb)
  replace HB := Lib.hid (HB.out.trans (bb.mono HB.out.size))
  clear bb
  clear cbx dbx fbx gbx
  obtain ⟨b5, hb5⟩ : ∃ b, b = w3.heap.size := ⟨_, rfl⟩
  obtain ⟨b6, hb6⟩ : ∃ b, b = w3.heap.size + 1 := ⟨_, rfl⟩
  obtain ⟨w4, hw4⟩ : ∃ x, x = w3.alloc (.cells #[.int .u16 96] 27) := ⟨_, rfl⟩
  obtain ⟨w5, hw5⟩ : ∃ x, x = w4.alloc (.cells #[.slice a0 k0 c0] 31) := ⟨_, rfl⟩
  have k4 : Below w3.heap.size w3 w4 := by rw [hw4]; exact (Below.refl _ _).alloc (Nat.le_refl _) _
  have k5 : Below w4.heap.size w4 w5 := by rw [hw5]; exact (Below.refl _ _).alloc (Nat.le_refl _) _
  have HNb5 := Lib.hid (blk_below (show w4.heap[b5]? = some (.cells #[.int .u16 ((96 : Nat) : Int)] 27 (0, 0)) by rw [hw4, hb5]; exact World.alloc_heap_new _ _) k5)
  have HNb6 := Lib.hid (show w5.heap[b6]? = some (.cells #[.slice a0 k0 c0] 31 (0, 0)) by rw [hw5, hb6, show w3.heap.size + 1 = w4.heap.size by rw [hw4]; simp]; exact World.alloc_heap_new _ _)
  have HD := Lib.hid (show bx < b5 ∧ b5 < b6 ∧ w.heap.size ≤ bx from by
    have := (Array.getElem?_eq_some_iff.1 HNbx.out).1
    have := HLbx.out
    omega)
  have HS0 := Lib.hid (show w5.heap[bx]? = some (.cells #[.bool p, .int .i64 n0] 24 (0, 0)) ∧ w5.heap[b5]? = some (.cells #[.int .u16 (G 0 : Nat)] 27 (0, 0)) ∧ w5.heap[b6]? = some (.cells #[.slice a0 k0 c0] 31 (0, 0)) ∧ RIn w5 (.slice a0 k0 c0) (allM (G 0)) ∧ Below w.heap.size w w5 from ⟨blk_below (blk_below HNbx.out k4) k5, by rw [HG.out.1]; exact HNb5.out, HNb6.out, by rw [HG.out.1]; exact (HRI.out.below k4).below k5, (HB.out.trans (k4.mono HB.out.size)).trans (k5.mono (Nat.le_trans HB.out.size k4.size))⟩)
  clear k4 k5 HNbx HNb5 HNb6 HRI HB HLbx
  go_upto_region 2 with (fail)
  rw [← hw4, ← hw5, ← hb6, ← hb5]
  clear hw4 hw5 hb6 hb5
  go_wp2_with fail
  go_loopw [7] (fun v wr => ∃ i : Nat, ∃ a k c, v = .int .i64 (i : Nat) ∧ Hid (i ≤ n ∧ i ≤ 60) ∧ Hid (wr.heap[bx]? = some (.cells #[.bool p, .int .i64 n0] 24 (0, 0)) ∧ wr.heap[b5]? = some (.cells #[.int .u16 (G i : Nat)] 27 (0, 0)) ∧ wr.heap[b6]? = some (.cells #[.slice a k c] 31 (0, 0)) ∧ RIn wr (.slice a k c) (allM (G i)) ∧ Below w.heap.size w wr)) (fun v wr => 80 - (intOf v).toNat)
  case atStart => exact ⟨0, a0, k0, c0, rfl, Lib.hid ⟨Nat.zero_le _, Nat.zero_le _⟩, HS0⟩
  case round =>
    clear HS0
    obtain ⟨i, a, k, c, rfl, HI, HP⟩ := hrel
    have u1 : IntKind.i64.wrap ((i : Int) + 1) = ((i + 1 : Nat) : Int) := by rw [IntKind.wrap_i64]; have := HI.out; omega
    have HNbx := Lib.hid HP.out.1
    have HNb5 := Lib.hid HP.out.2.1
    have HNb6 := Lib.hid HP.out.2.2.1
    have HRI := Lib.hid HP.out.2.2.2.1
    have HB := Lib.hid HP.out.2.2.2.2
    clear HP
    by_cases h1 : i < n
    · by_cases h2 : i < 60
      · have g2 : (i : Int) < 60 := by omega
        have HH := Lib.hid (And.intro h1 h2)
        obtain ⟨g, o, u, hla, c0, c1, hmo, hwt⟩ := (HAC.out.below HB.out).at (i := i) (by rw [HLN.out]; exact h1)
        have HGk := Lib.hid (HG.out.2.1 i h1)
        obtain ⟨ac, ha⟩ : ∃ a, a = AcK AL i := ⟨_, rfl⟩
        rw [← ha] at c0 hmo hwt HGk
        have HGL := Lib.hid (HG.out.2.2 i)
        have HGL' := Lib.hid (HG.out.2.2 (i + 1))
        obtain ⟨s, hs⟩ : ∃ s, s = G i := ⟨_, rfl⟩
        obtain ⟨s', hs'⟩ : ∃ s, s = G (i + 1) := ⟨_, rfl⟩
        rw [← hs] at HNb5 HRI HGk HGL
        rw [← hs'] at HGk HGL'
        have HSS := Lib.hid hs'
        clear ha hs hs'
        subst hla
        obtain ⟨ua, uc, hu⟩ := hmo.1.shape
        subst hu
        obtain ⟨nl, hnl⟩ : ∃ n, n = ac.l.length := ⟨_, rfl⟩
        rw [← hnl] at c1 hmo
        have HNL := Lib.hid hnl
        clear hnl
        have HMO := Lib.hid hmo
        obtain ⟨q, hq⟩ : ∃ q, q = ac.what % 8 := ⟨_, rfl⟩
        have r1 : ((ac.what : Nat) : Int).tmod 8 = (q : Nat) := by rw [hq, Int.tmod_eq_emod_of_nonneg (by omega)]; rfl
        have r2 : ((ac.what : Nat) : Int) % 8 = (q : Nat) := by rw [hq]; rfl
        have r3 : IntKind.u8.wrap ((q : Nat) : Int) = (q : Nat) := by
          have : q < 8 := by omega
          rw [IntKind.wrap_u8]
          omega
        have HQ := Lib.hid hq
        clear hq hmo hwt
        obtain ⟨R, hR⟩ : ∃ R, R = (ac.l.take 20).map nearM := ⟨_, rfl⟩
        have HRR := Lib.hid (show R.length ≤ 20 ∧ ∀ x ∈ R, wfM x from ⟨by rw [hR]; simp; omega, fun x hx => by
          rw [hR] at hx
          obtain ⟨y, hy, rfl⟩ := List.mem_map.1 hx
          exact nearN_wf (HMO.out.2 y (List.mem_of_mem_take hy))⟩)
        have HROW := Lib.hid (fun wx (h : MoIn wx (.slice ua nl uc) ac.l) (hl : ac.l.length ≤ 9223372036854775807) => row_any (.slice ua nl uc) ac.l R hR wx h hl)
        have HACT := Lib.hid (show (q = 7 → s' = softM s) ∧ (q ≠ 7 → s' = putL (decide (q < 4)) s R) from ⟨fun h => by rw [HGk.out]; unfold actS; rw [if_pos (by rw [← HQ.out]; exact h)], fun h => by rw [HGk.out, hR, HQ.out]; unfold actS; rw [if_neg (by rw [← HQ.out]; exact h)]⟩)
        clear hR HGk
        have HC := Lib.hid (And.intro c0 c1)
        obtain ⟨lo, hlo⟩ : ∃ lo, lo = wr.heap.size := ⟨_, rfl⟩
        have HLO := Lib.hid (show b6 < lo by rw [hlo]; exact (Array.getElem?_eq_some_iff.1 HNb6.out).1)
        have HDD := Lib.hid (show (w.heap.size ≤ b5 ∧ b5 < lo ∧ bx ≠ b5 ∧ b6 ≠ b5) ∧ (w.heap.size ≤ b6 ∧ b6 < lo ∧ bx ≠ b6 ∧ b5 ≠ b6) from by have := HD.out; have := HLO.out; omega)
        have cbx := (two_cells HNbx.out).1
        have dbx := (two_cells HNbx.out).2.1
        have fbx := (two_cells HNbx.out).2.2.1
        have gbx := (two_cells HNbx.out).2.2.2
        have cb5 := (one_cell HNb5.out).1
        have fb5 := (one_cell HNb5.out).2
        have cb6 := (one_cell HNb6.out).1
        have fb6 := (one_cell HNb6.out).2
        go_wp2_with fail
        refine (HROW.out _ HMO.out.1 (by have := HNL.out; have := HMO.out.1; obtain ⟨_, _, _, hm, _⟩ := this; exact hm)).mono ?_
        rintro e v1 ⟨v5, rfl, hO, bb⟩
        have HJ0 := Lib.hid (show RIn v1 (.slice a k c) (allM s) ∧ v1.ownsRow lo 24 2 v5 R.length (moL R) ∧ lo ≤ v1.heap.size from ⟨HRI.out.below bb, by rw [hlo]; exact hO, by rw [hlo]; exact bb.size⟩)
        replace HC := Lib.hid (And.intro ((bb.cell (World.block_lt_of_cell? wr _ HC.out.1)).trans HC.out.1) ((bb.cell (World.block_lt_of_cell? wr _ HC.out.2)).trans HC.out.2))
        clear hO hlo c0 c1
        replace HNbx := Lib.hid (blk_below HNbx.out bb)
        replace HNb5 := Lib.hid (blk_below HNb5.out bb)
        replace HNb6 := Lib.hid (blk_below HNb6.out bb)
        replace HB := Lib.hid (HB.out.trans (bb.mono HB.out.size))
        clear bb
        clear cbx dbx fbx gbx cb5 fb5 cb6 fb6
        obtain ⟨ra, rc, rfl⟩ := own_shape HJ0.out.2.1
        obtain ⟨rl, hrl⟩ : ∃ rl, rl = R.length := ⟨_, rfl⟩
        rw [← hrl] at HJ0
        rw [← hrl]
        have HRL := Lib.hid hrl
        clear hrl
        have HJ := Lib.hid (show Jn w v1 lo bx b5 b6 p n0 s (.slice a k c) (.slice a k c) (allM s) (.slice ra rl rc) rl R from ⟨⟨HNbx.out, HNb5.out, HNb6.out⟩, HJ0.out.1, HJ0.out.2.1, HB.out, HJ0.out.2.2⟩)
        clear HJ0 HRI
        have c0 := HC.out.1
        have c1 := HC.out.2
        have cbx := (two_cells HNbx.out).1
        have dbx := (two_cells HNbx.out).2.1
        have fbx := (two_cells HNbx.out).2.2.1
        have gbx := (two_cells HNbx.out).2.2.2
        have cb5 := (one_cell HNb5.out).1
        have fb5 := (one_cell HNb5.out).2
        have cb6 := (one_cell HNb6.out).1
        have fb6 := (one_cell HNb6.out).2
        go_upto_block 2 with (fail)
        go_cut [] (fun wc => ∃ a k c, Hid (Jn w wc lo bx b5 b6 p n0 s' (.slice a k c) (.slice a k c) (allM s') (.slice ra rl rc) rl R))
        case first =>
          by_cases h7 : q = 7
          · have g7 : ((q : Int) == 7) = true := by rw [h7]; rfl
            have g7' : decide ((q : Int) = 7) = true := by rw [h7]; rfl
            have HSO := Lib.hid (HACT.out.1 h7)
            clear h7
            go_wp2_with fail
            refine (soft_any s HGL.out _).mono ?_
            rintro e v2 ⟨rfl, bb⟩
            rw [← HSO.out]
            replace HNbx := Lib.hid (blk_below HNbx.out bb)
            replace HNb5 := Lib.hid (blk_below HNb5.out bb)
            replace HNb6 := Lib.hid (blk_below HNb6.out bb)
            replace HB := Lib.hid (HB.out.trans (bb.mono HB.out.size))
            replace HJ := Lib.hid (HJ.out.below bb)
            clear bb c0 c1
            clear cbx dbx fbx gbx cb5 fb5 cb6 fb6
            have cbx := (two_cells HNbx.out).1
            have dbx := (two_cells HNbx.out).2.1
            have fbx := (two_cells HNbx.out).2.2.1
            have gbx := (two_cells HNbx.out).2.2.2
            have cb5 := (one_cell HNb5.out).1
            have fb5 := (one_cell HNb5.out).2
            have cb6 := (one_cell HNb6.out).1
            have fb6 := (one_cell HNb6.out).2
            obtain ⟨v3, hv3⟩ : ∃ x, x = v2.setCell ⟨b5, 0, none⟩ (.int .u16 (s' : Nat)) := ⟨_, rfl⟩
            replace HJ := Lib.hid (show Jn w v3 lo bx b5 b6 p n0 s' (.slice a k c) (.slice a k c) (allM s) (.slice ra rl rc) rl R by rw [hv3]; exact HJ.out.set5 HDD.out.1)
            go_upto_region 16 with (fail)
            rw [← hv3]
            clear hv3
            clear cbx dbx fbx gbx cb5 fb5 cb6 fb6
            have c6 := (one_cell HJ.out.1.2.2).1
            have f6 := (one_cell HJ.out.1.2.2).2
            go_wp2_with fail
            refine (rsoft_any s _ _ HJ.out.2.1).mono ?_
            rintro e v4 ⟨a2, k2, c2, rfl, hri, bb⟩
            rw [← HSO.out] at hri
            replace HJ := Lib.hid ((HJ.out.below bb).with hri)
            clear bb hri c6 f6
            have c6 := (one_cell HJ.out.1.2.2).1
            have f6 := (one_cell HJ.out.1.2.2).2
            go_wp2
            go_meet
            case rel => exact ⟨a2, k2, c2, Lib.hid (HJ.out.set6 HDD.out.2)⟩
          · have g7 : ((q : Int) == 7) = false := by rw [beq_eq_false_iff_ne]; omega
            have g7' : decide ((q : Int) = 7) = false := decide_eq_false (by omega)
            obtain ⟨on, hon⟩ : ∃ on, on = decide (q < 4) := ⟨_, rfl⟩
            have HSP := Lib.hid (HACT.out.2 h7)
            rw [← hon] at HSP
            have g4 : decide ((q : Int) < 4) = on := by rw [hon]; exact decide_eq_decide.2 (by omega)
            have g4' : decide (q < 4) = on := hon.symm
            clear h7
            obtain ⟨kR, hkR⟩ : ∃ kR, kR = knownN R := ⟨_, rfl⟩
            have HPU := Lib.hid (fun v w h => put_any s HGL.out on v R w h HRR.out.2 (by have := HRR.out.1; omega))
            have HRP := Lib.hid (fun v v2 w h h2 => rput_any s on v v2 R (by have := HRR.out.1; omega) w h h2)
            rw [← HSP.out, ← hkR] at HPU HRP
            clear hkR hon
            have HMR := Lib.hid (show ∀ wx, Below v1.heap.size v1 wx → MoIn wx (.slice ra rl rc) R from fun wx hx => by
              have h := moIn_own (v := .slice ra rl rc) (l := R) (by rw [← HRL.out]; exact HJ.out.2.2.1) (by have := HRR.out.1; omega)
              exact h.below hx)
            go_wp2_with fail
            refine (HPU.out _ _ (HMR.out _ (Below.refl _ _))).mono ?_
            rintro e v2 ⟨rfl, bb⟩
            replace HNbx := Lib.hid (blk_below HNbx.out bb)
            replace HNb5 := Lib.hid (blk_below HNb5.out bb)
            replace HNb6 := Lib.hid (blk_below HNb6.out bb)
            replace HB := Lib.hid (HB.out.trans (bb.mono HB.out.size))
            replace HJ := Lib.hid (HJ.out.below bb)
            have HV := Lib.hid (show Below v1.heap.size v1 v2 from bb)
            clear bb c0 c1
            clear cbx dbx fbx gbx cb5 fb5 cb6 fb6
            obtain ⟨b10, hb10⟩ : ∃ b, b = v2.heap.size := ⟨_, rfl⟩
            obtain ⟨v3, hv3⟩ : ∃ x, x = v2.alloc (.cells #[(.int .u16 (s' : Nat))] 27) := ⟨_, rfl⟩
            have HBo := Lib.hid HB.out.size
            have kk : Below v2.heap.size v2 v3 := by rw [hv3]; exact (Below.refl _ _).alloc (Nat.le_refl _) _
            replace HNbx := Lib.hid (blk_below HNbx.out kk)
            replace HNb5 := Lib.hid (blk_below HNb5.out kk)
            replace HNb6 := Lib.hid (blk_below HNb6.out kk)
            replace HB := Lib.hid (HB.out.trans (kk.mono HB.out.size))
            replace HJ := Lib.hid (HJ.out.below kk)
            replace HV := Lib.hid (HV.out.trans (kk.mono HV.out.size))
            have HNb10 := Lib.hid (show v3.heap[b10]? = some (.cells #[(.int .u16 (s' : Nat))] 27 (0, 0)) by rw [hv3, hb10]; exact World.alloc_heap_new _ _)
            have HLb10 := Lib.hid (show w.heap.size ≤ b10 by rw [hb10]; exact HBo.out)
            go_upto_region 9 with (fail)
            rw [← hv3, ← hb10]
            clear hv3 hb10 kk HBo
            have HB5L := Lib.hid (show b5 < v3.heap.size from (Array.getElem?_eq_some_iff.1 HNb5.out).1)
            have KEEP := Lib.hid (show ∀ wx, Below v3.heap.size v3 wx → wx.cell? ⟨bx, 0, none⟩ = some (.bool p) ∧ wx.cell? ⟨bx, 1, none⟩ = some (.int .i64 n0) ∧ wx.cell? ⟨b5, 0, none⟩ = some (.int .u16 (s : Nat)) ∧ wx.cell? ⟨b6, 0, none⟩ = some (.slice a k c) ∧ wx.cell? ⟨b10, 0, none⟩ = some ((.int .u16 (s' : Nat))) from fun wx hx => ⟨(two_cells (blk_below HNbx.out hx)).1, (two_cells (blk_below HNbx.out hx)).2.1, (one_cell (blk_below HNb5.out hx)).1, (one_cell (blk_below HNb6.out hx)).1, (one_cell (blk_below HNb10.out hx)).1⟩)
            go_upto_region 9 with (fail)
            refine wp_region_held_drew (S := (fun wx => wx.cell? ⟨bx, 0, none⟩ = some (.bool p) ∧ wx.cell? ⟨bx, 1, none⟩ = some (.int .i64 n0) ∧ wx.cell? ⟨b5, 0, none⟩ = some (.int .u16 (s : Nat)) ∧ wx.cell? ⟨b6, 0, none⟩ = some (.slice a k c) ∧ wx.cell? ⟨b10, 0, none⟩ = some ((.int .u16 (s' : Nat))))) (by kernel_rfl) (KEEP.out _ ((Below.refl _ _).drew)) (fun hHeld => ?_)
            obtain ⟨z9, hz9⟩ : ∃ X, X = v3.drew := ⟨_, rfl⟩
            have HX := Lib.hid (show Below v3.heap.size v3 z9 by rw [hz9]; exact (Below.refl _ _).drew)
            replace hHeld := KEEP.out _ HX.out
            rw [← hz9]
            clear hz9
            refine tk 0 rfl (fun w hSw => by (try dsimp only at hSw); go_simp; try with_reducible rfl) ?_
            go_frame
            refine tk 1 rfl (fun w hSw => by (try dsimp only at hSw); go_simp; try with_reducible rfl) ?_
            go_frame
            refine tk 2 rfl (fun w hSw => by (try dsimp only at hSw); go_simp; try with_reducible rfl) ?_
            go_frame
            refine two_at (i := 3) (j := 8) rfl rfl (by kernel_rfl) (by kernel_rfl) (by kernel_rfl) (fun K hK => ?_) (fun K hK => ?_)
            · go_simp
              refine (modes_any (.slice ra rl rc) R R rfl _ (HMR.out _ (HV.out.trans (HX.out.mono HV.out.size))) (by have := HRR.out.1; omega)).mono ?_
              rintro e y3 ⟨vm, rfl, ho, bb⟩
              obtain ⟨ma, mc, rfl⟩ := own_shape ho
              have HMM := Lib.hid (moIn_own ho (by have := HRR.out.1; omega))
              rw [← HRL.out] at HMM
              rw [← HRL.out]
              clear ho
              replace HX := Lib.hid (HX.out.trans (bb.mono HX.out.size))
              clear bb
              go_wp2_with fail
              refine hK.out _ _ (KEEP.out _ HX.out) (fun hHeld => ?_)
              clear hK K
              try go_frame
              refine two_at (i := 4) (j := 8) rfl rfl (by kernel_rfl) (by kernel_rfl) (by kernel_rfl) (fun K hK => ?_) (fun K hK => ?_)
              · go_simp
                refine (HRP.out (.slice a k c) _ _ (HJ.out.2.1.below HX.out) HMM.out).mono ?_
                rintro e y4 ⟨a2, k2, c2, rfl, hri, bb⟩
                have HR2 := Lib.hid hri
                clear hri
                replace HX := Lib.hid (HX.out.trans (bb.mono HX.out.size))
                clear bb HMM
                go_wp2_with fail
                refine hK.out _ _ (KEEP.out _ HX.out) (fun hHeld => ?_)
                clear hK K
                try go_frame
                refine tk 5 rfl (fun w hSw => by (try dsimp only at hSw); go_simp; try with_reducible rfl) ?_
                go_frame
                refine tk 6 rfl (fun w hSw => by (try dsimp only at hSw); go_simp; try with_reducible rfl) ?_
                go_frame
                refine tk 7 rfl (fun w hSw => by (try dsimp only at hSw); go_simp; try with_reducible rfl) ?_
                go_frame
                refine do_at (i := 8) rfl (by kernel_rfl) (by kernel_rfl) (fun K hK => ?_)
                obtain ⟨b12, hb12⟩ : ∃ b, b = y4.heap.size := ⟨_, rfl⟩
                obtain ⟨y8, hy8⟩ : ∃ x, x = y4.alloc (.cells #[.slice none 0 0] 31) := ⟨_, rfl⟩
                have bb : Below y4.heap.size y4 y8 := by rw [hy8]; exact (Below.refl _ _).alloc (Nat.le_refl _) _
                have HNb12 := Lib.hid (show y8.heap[b12]? = some (.cells #[.slice none 0 0] 31 (0, 0)) by rw [hy8, hb12]; exact World.alloc_heap_new _ _)
                have HLb12 := Lib.hid (show v3.heap.size ≤ b12 by rw [hb12]; exact HX.out.size)
                replace HR2 := Lib.hid (HR2.out.below bb)
                replace HX := Lib.hid (HX.out.trans (bb.mono HX.out.size))
                go_simp
                rw [← hy8, ← hb12]
                clear hy8 hb12 bb
                refine hK.out _ _ (KEEP.out _ HX.out) (fun hHeld => ?_)
                clear hK K
                try go_frame
                have e12 := (one_cell HNb12.out).1
                have f12 := (one_cell HNb12.out).2
                obtain ⟨y9, hy9⟩ : ∃ x, x = y8.setCell ⟨b12, 0, none⟩ (.slice a2 k2 c2) := ⟨_, rfl⟩
                have HR9 := Lib.hid (show RIn y9 (.slice a2 k2 c2) (allM s') ∧ y9.heap[b12]? = some (.cells #[.slice a2 k2 c2] 31 (0, 0)) from ⟨by rw [hy9]; exact HR2.out.setT HNb12.out (by decide), by rw [hy9]; exact one_setCell HNb12.out⟩)
                replace HX := Lib.hid (show Below v3.heap.size v3 y9 by rw [hy9]; exact HX.out.trans ((But.set _ b12 0 _).below HLb12.out HX.out.size))
                refine do_at (i := 9) rfl (by kernel_rfl) (by kernel_rfl) (fun K hK => ?_)
                go_simp
                rw [← hy9]
                clear hy9 e12 f12
                refine hK.out _ _ (KEEP.out _ HX.out) (fun hHeld => ?_)
                clear hK K
                try go_frame
                refine tk 10 rfl (fun w hSw => by (try dsimp only at hSw); go_simp; try with_reducible rfl) ?_
                go_frame
                refine wpAnyH_done (by kernel_rfl) ?_ _
                clear hHeld KEEP
                replace HJ := Lib.hid ((HJ.out.below HX.out).with HR9.out.1)
                replace HNbx := Lib.hid (blk_below HNbx.out HX.out)
                replace HNb5 := Lib.hid (blk_below HNb5.out HX.out)
                replace HNb6 := Lib.hid (blk_below HNb6.out HX.out)
                replace HNb10 := Lib.hid (blk_below HNb10.out HX.out)
                replace HB := Lib.hid (HB.out.trans (HX.out.mono HB.out.size))
                have e12 := (one_cell HR9.out.2).1
                have cbx := (two_cells HNbx.out).1
                have dbx := (two_cells HNbx.out).2.1
                have fbx := (two_cells HNbx.out).2.2.1
                have gbx := (two_cells HNbx.out).2.2.2
                have cb5 := (one_cell HNb5.out).1
                have fb5 := (one_cell HNb5.out).2
                have cb6 := (one_cell HNb6.out).1
                have fb6 := (one_cell HNb6.out).2
                have cb10 := (one_cell HNb10.out).1
                have fb10 := (one_cell HNb10.out).2
                obtain ⟨y10, hy10⟩ : ∃ x, x = y9.setCell ⟨b5, 0, none⟩ (.int .u16 (s' : Nat)) := ⟨_, rfl⟩
                have HR10 := Lib.hid (show y10.heap[b12]? = some (.cells #[.slice a2 k2 c2] 31 (0, 0)) by
                  rw [hy10]
                  exact ((But.set y9 b5 0 _).block b12 (Array.getElem?_eq_some_iff.1 HR9.out.2).1 (fun e => by injection e with e; have := HLb12.out; have := HB5L.out; omega)).trans HR9.out.2)
                replace HJ := Lib.hid (show Jn w y10 lo bx b5 b6 p n0 s' (.slice a k c) (.slice a2 k2 c2) (allM s') (.slice ra rl rc) rl R by rw [hy10]; exact HJ.out.set5 HDD.out.1)
                go_upto_region 13 with (fail)
                rw [← hy10]
                clear hy10 e12
                clear cbx dbx fbx gbx cb5 fb5 cb6 fb6 cb10 fb10
                have e12 := (one_cell HR10.out).1
                have c6 := (one_cell HJ.out.1.2.2).1
                have f6 := (one_cell HJ.out.1.2.2).2
                go_wp2
                go_meet
                case rel => exact ⟨a2, k2, c2, Lib.hid (HJ.out.set6 HDD.out.2)⟩
              · obtain ⟨b12, hb12⟩ : ∃ b, b = y3.heap.size := ⟨_, rfl⟩
                obtain ⟨y8, hy8⟩ : ∃ x, x = y3.alloc (.cells #[.slice none 0 0] 31) := ⟨_, rfl⟩
                have bb : Below y3.heap.size y3 y8 := by rw [hy8]; exact (Below.refl _ _).alloc (Nat.le_refl _) _
                have HNb12 := Lib.hid (show y8.heap[b12]? = some (.cells #[.slice none 0 0] 31 (0, 0)) by rw [hy8, hb12]; exact World.alloc_heap_new _ _)
                have HLb12 := Lib.hid (show v3.heap.size ≤ b12 by rw [hb12]; exact HX.out.size)
                replace HMM := Lib.hid (HMM.out.below bb)
                replace HX := Lib.hid (HX.out.trans (bb.mono HX.out.size))
                go_simp
                rw [← hy8, ← hb12]
                clear hy8 hb12 bb
                refine hK.out _ _ (KEEP.out _ HX.out) (fun hHeld => ?_)
                clear hK K
                try go_frame
                refine do_at (i := 4) rfl (by kernel_rfl) (by kernel_rfl) (fun K hK => ?_)
                go_simp
                refine (HRP.out (.slice a k c) _ _ (HJ.out.2.1.below HX.out) HMM.out).mono ?_
                rintro e y4 ⟨a2, k2, c2, rfl, hri, bb⟩
                have HR2 := Lib.hid hri
                clear hri
                replace HNb12 := Lib.hid (blk_below HNb12.out bb)
                replace HX := Lib.hid (HX.out.trans (bb.mono HX.out.size))
                clear bb HMM
                go_wp2_with fail
                refine hK.out _ _ (KEEP.out _ HX.out) (fun hHeld => ?_)
                clear hK K
                try go_frame
                refine tk 5 rfl (fun w hSw => by (try dsimp only at hSw); go_simp; try with_reducible rfl) ?_
                go_frame
                refine tk 6 rfl (fun w hSw => by (try dsimp only at hSw); go_simp; try with_reducible rfl) ?_
                go_frame
                refine tk 7 rfl (fun w hSw => by (try dsimp only at hSw); go_simp; try with_reducible rfl) ?_
                go_frame
                have e12 := (one_cell HNb12.out).1
                have f12 := (one_cell HNb12.out).2
                obtain ⟨y9, hy9⟩ : ∃ x, x = y4.setCell ⟨b12, 0, none⟩ (.slice a2 k2 c2) := ⟨_, rfl⟩
                have HR9 := Lib.hid (show RIn y9 (.slice a2 k2 c2) (allM s') ∧ y9.heap[b12]? = some (.cells #[.slice a2 k2 c2] 31 (0, 0)) from ⟨by rw [hy9]; exact HR2.out.setT HNb12.out (by decide), by rw [hy9]; exact one_setCell HNb12.out⟩)
                replace HX := Lib.hid (show Below v3.heap.size v3 y9 by rw [hy9]; exact HX.out.trans ((But.set _ b12 0 _).below HLb12.out HX.out.size))
                refine do_at (i := 9) rfl (by kernel_rfl) (by kernel_rfl) (fun K hK => ?_)
                go_simp
                rw [← hy9]
                clear hy9 e12 f12
                refine hK.out _ _ (KEEP.out _ HX.out) (fun hHeld => ?_)
                clear hK K
                try go_frame
                refine tk 10 rfl (fun w hSw => by (try dsimp only at hSw); go_simp; try with_reducible rfl) ?_
                go_frame
                refine wpAnyH_done (by kernel_rfl) ?_ _
                clear hHeld KEEP
                replace HJ := Lib.hid ((HJ.out.below HX.out).with HR9.out.1)
                replace HNbx := Lib.hid (blk_below HNbx.out HX.out)
                replace HNb5 := Lib.hid (blk_below HNb5.out HX.out)
                replace HNb6 := Lib.hid (blk_below HNb6.out HX.out)
                replace HNb10 := Lib.hid (blk_below HNb10.out HX.out)
                replace HB := Lib.hid (HB.out.trans (HX.out.mono HB.out.size))
                have e12 := (one_cell HR9.out.2).1
                have cbx := (two_cells HNbx.out).1
                have dbx := (two_cells HNbx.out).2.1
                have fbx := (two_cells HNbx.out).2.2.1
                have gbx := (two_cells HNbx.out).2.2.2
                have cb5 := (one_cell HNb5.out).1
                have fb5 := (one_cell HNb5.out).2
                have cb6 := (one_cell HNb6.out).1
                have fb6 := (one_cell HNb6.out).2
                have cb10 := (one_cell HNb10.out).1
                have fb10 := (one_cell HNb10.out).2
                obtain ⟨y10, hy10⟩ : ∃ x, x = y9.setCell ⟨b5, 0, none⟩ (.int .u16 (s' : Nat)) := ⟨_, rfl⟩
                have HR10 := Lib.hid (show y10.heap[b12]? = some (.cells #[.slice a2 k2 c2] 31 (0, 0)) by
                  rw [hy10]
                  exact ((But.set y9 b5 0 _).block b12 (Array.getElem?_eq_some_iff.1 HR9.out.2).1 (fun e => by injection e with e; have := HLb12.out; have := HB5L.out; omega)).trans HR9.out.2)
                replace HJ := Lib.hid (show Jn w y10 lo bx b5 b6 p n0 s' (.slice a k c) (.slice a2 k2 c2) (allM s') (.slice ra rl rc) rl R by rw [hy10]; exact HJ.out.set5 HDD.out.1)
                go_upto_region 13 with (fail)
                rw [← hy10]
                clear hy10 e12
                clear cbx dbx fbx gbx cb5 fb5 cb6 fb6 cb10 fb10
                have e12 := (one_cell HR10.out).1
                have c6 := (one_cell HJ.out.1.2.2).1
                have f6 := (one_cell HJ.out.1.2.2).2
                go_wp2
                go_meet
                case rel => exact ⟨a2, k2, c2, Lib.hid (HJ.out.set6 HDD.out.2)⟩
            · obtain ⟨b12, hb12⟩ : ∃ b, b = z9.heap.size := ⟨_, rfl⟩
              obtain ⟨y8, hy8⟩ : ∃ x, x = z9.alloc (.cells #[.slice none 0 0] 31) := ⟨_, rfl⟩
              have bb : Below z9.heap.size z9 y8 := by rw [hy8]; exact (Below.refl _ _).alloc (Nat.le_refl _) _
              have HNb12 := Lib.hid (show y8.heap[b12]? = some (.cells #[.slice none 0 0] 31 (0, 0)) by rw [hy8, hb12]; exact World.alloc_heap_new _ _)
              have HLb12 := Lib.hid (show v3.heap.size ≤ b12 by rw [hb12]; exact HX.out.size)
              replace HX := Lib.hid (HX.out.trans (bb.mono HX.out.size))
              go_simp
              rw [← hy8, ← hb12]
              clear hy8 hb12 bb
              refine hK.out _ _ (KEEP.out _ HX.out) (fun hHeld => ?_)
              clear hK K
              try go_frame
              refine do_at (i := 3) rfl (by kernel_rfl) (by kernel_rfl) (fun K hK => ?_)
              go_simp
              refine (modes_any (.slice ra rl rc) R R rfl _ (HMR.out _ (HV.out.trans (HX.out.mono HV.out.size))) (by have := HRR.out.1; omega)).mono ?_
              rintro e y3 ⟨vm, rfl, ho, bb⟩
              obtain ⟨ma, mc, rfl⟩ := own_shape ho
              have HMM := Lib.hid (moIn_own ho (by have := HRR.out.1; omega))
              rw [← HRL.out] at HMM
              rw [← HRL.out]
              clear ho
              replace HNb12 := Lib.hid (blk_below HNb12.out bb)
              replace HX := Lib.hid (HX.out.trans (bb.mono HX.out.size))
              clear bb
              go_wp2_with fail
              refine hK.out _ _ (KEEP.out _ HX.out) (fun hHeld => ?_)
              clear hK K
              try go_frame
              refine do_at (i := 4) rfl (by kernel_rfl) (by kernel_rfl) (fun K hK => ?_)
              go_simp
              refine (HRP.out (.slice a k c) _ _ (HJ.out.2.1.below HX.out) HMM.out).mono ?_
              rintro e y4 ⟨a2, k2, c2, rfl, hri, bb⟩
              have HR2 := Lib.hid hri
              clear hri
              replace HNb12 := Lib.hid (blk_below HNb12.out bb)
              replace HX := Lib.hid (HX.out.trans (bb.mono HX.out.size))
              clear bb HMM
              go_wp2_with fail
              refine hK.out _ _ (KEEP.out _ HX.out) (fun hHeld => ?_)
              clear hK K
              try go_frame
              refine tk 5 rfl (fun w hSw => by (try dsimp only at hSw); go_simp; try with_reducible rfl) ?_
              go_frame
              refine tk 6 rfl (fun w hSw => by (try dsimp only at hSw); go_simp; try with_reducible rfl) ?_
              go_frame
              refine tk 7 rfl (fun w hSw => by (try dsimp only at hSw); go_simp; try with_reducible rfl) ?_
              go_frame
              have e12 := (one_cell HNb12.out).1
              have f12 := (one_cell HNb12.out).2
              obtain ⟨y9, hy9⟩ : ∃ x, x = y4.setCell ⟨b12, 0, none⟩ (.slice a2 k2 c2) := ⟨_, rfl⟩
              have HR9 := Lib.hid (show RIn y9 (.slice a2 k2 c2) (allM s') ∧ y9.heap[b12]? = some (.cells #[.slice a2 k2 c2] 31 (0, 0)) from ⟨by rw [hy9]; exact HR2.out.setT HNb12.out (by decide), by rw [hy9]; exact one_setCell HNb12.out⟩)
              replace HX := Lib.hid (show Below v3.heap.size v3 y9 by rw [hy9]; exact HX.out.trans ((But.set _ b12 0 _).below HLb12.out HX.out.size))
              refine do_at (i := 9) rfl (by kernel_rfl) (by kernel_rfl) (fun K hK => ?_)
              go_simp
              rw [← hy9]
              clear hy9 e12 f12
              refine hK.out _ _ (KEEP.out _ HX.out) (fun hHeld => ?_)
              clear hK K
              try go_frame
              refine tk 10 rfl (fun w hSw => by (try dsimp only at hSw); go_simp; try with_reducible rfl) ?_
              go_frame
              refine wpAnyH_done (by kernel_rfl) ?_ _
              clear hHeld KEEP
              replace HJ := Lib.hid ((HJ.out.below HX.out).with HR9.out.1)
              replace HNbx := Lib.hid (blk_below HNbx.out HX.out)
              replace HNb5 := Lib.hid (blk_below HNb5.out HX.out)
              replace HNb6 := Lib.hid (blk_below HNb6.out HX.out)
              replace HNb10 := Lib.hid (blk_below HNb10.out HX.out)
              replace HB := Lib.hid (HB.out.trans (HX.out.mono HB.out.size))
              have e12 := (one_cell HR9.out.2).1
              have cbx := (two_cells HNbx.out).1
              have dbx := (two_cells HNbx.out).2.1
              have fbx := (two_cells HNbx.out).2.2.1
              have gbx := (two_cells HNbx.out).2.2.2
              have cb5 := (one_cell HNb5.out).1
              have fb5 := (one_cell HNb5.out).2
              have cb6 := (one_cell HNb6.out).1
              have fb6 := (one_cell HNb6.out).2
              have cb10 := (one_cell HNb10.out).1
              have fb10 := (one_cell HNb10.out).2
              obtain ⟨y10, hy10⟩ : ∃ x, x = y9.setCell ⟨b5, 0, none⟩ (.int .u16 (s' : Nat)) := ⟨_, rfl⟩
              have HR10 := Lib.hid (show y10.heap[b12]? = some (.cells #[.slice a2 k2 c2] 31 (0, 0)) by
                rw [hy10]
                exact ((But.set y9 b5 0 _).block b12 (Array.getElem?_eq_some_iff.1 HR9.out.2).1 (fun e => by injection e with e; have := HLb12.out; have := HB5L.out; omega)).trans HR9.out.2)
              replace HJ := Lib.hid (show Jn w y10 lo bx b5 b6 p n0 s' (.slice a k c) (.slice a2 k2 c2) (allM s') (.slice ra rl rc) rl R by rw [hy10]; exact HJ.out.set5 HDD.out.1)
              go_upto_region 13 with (fail)
              rw [← hy10]
              clear hy10 e12
              clear cbx dbx fbx gbx cb5 fb5 cb6 fb6 cb10 fb10
              have e12 := (one_cell HR10.out).1
              have c6 := (one_cell HJ.out.1.2.2).1
              have f6 := (one_cell HJ.out.1.2.2).2
              go_wp2
              go_meet
              case rel => exact ⟨a2, k2, c2, Lib.hid (HJ.out.set6 HDD.out.2)⟩
        obtain ⟨a2, k2, c2, HJ2⟩ := hcut
        rename World => v7
        clear HJ HC HNbx HNb5 HNb6 c0 c1 HB
        clear cbx dbx fbx gbx cb5 fb5 cb6 fb6
        have HJ := HJ2
        clear HJ2
        have HNbx := Lib.hid HJ.out.1.1
        have HNb5 := Lib.hid HJ.out.1.2.1
        have HNb6 := Lib.hid HJ.out.1.2.2
        have HB := Lib.hid HJ.out.2.2.2.1
        have KEEP := Lib.hid (show ∀ wx, Below v7.heap.size v7 wx → wx.cell? ⟨bx, 0, none⟩ = some (.bool p) ∧ wx.cell? ⟨bx, 1, none⟩ = some (.int .i64 n0) from fun wx hx => ⟨(two_cells (blk_below HNbx.out hx)).1, (two_cells (blk_below HNbx.out hx)).2.1⟩)
        go_upto_region 17 with (fail)
        refine wp_region_held_drew (S := (fun wx => wx.cell? ⟨bx, 0, none⟩ = some (.bool p) ∧ wx.cell? ⟨bx, 1, none⟩ = some (.int .i64 n0))) (by kernel_rfl) (KEEP.out _ ((Below.refl _ _).drew)) (fun hHeld => ?_)
        obtain ⟨z17, hz17⟩ : ∃ X, X = v7.drew := ⟨_, rfl⟩
        have HX := Lib.hid (show Below v7.heap.size v7 z17 by rw [hz17]; exact (Below.refl _ _).drew)
        replace hHeld := KEEP.out _ HX.out
        rw [← hz17]
        clear hz17
        refine tk 0 rfl (fun w hSw => by (try dsimp only at hSw); go_simp; try with_reducible rfl) ?_
        go_frame
        refine tk 1 rfl (fun w hSw => by (try dsimp only at hSw); go_simp; try with_reducible rfl) ?_
        go_frame
        refine tk 2 rfl (fun w hSw => by (try dsimp only at hSw); go_simp; try with_reducible rfl) ?_
        go_frame
        refine tk 7 rfl (fun w hSw => by (try dsimp only at hSw); go_simp; try with_reducible rfl) ?_
        go_frame
        refine do_at (i := 3) rfl (by kernel_rfl) (by kernel_rfl) (fun K hK => ?_)
        go_simp
        refine (HNR.out _).mono ?_
        rintro e y3 ⟨rfl, bb⟩
        replace HX := Lib.hid (HX.out.trans (bb.mono HX.out.size))
        clear bb
        go_wp2_with fail
        refine hK.out _ _ (KEEP.out _ HX.out) (fun hHeld => ?_)
        clear hK K
        try go_frame
        obtain ⟨bq, hbq⟩ : ∃ b, b = y3.heap.size := ⟨_, rfl⟩
        obtain ⟨y4, hy4⟩ : ∃ x, x = y3.alloc (.cells #[.bool p, .int .i64 n0, .bool p, .int .i64 q0] 24) := ⟨_, rfl⟩
        have bb : Below y3.heap.size y3 y4 := by rw [hy4]; exact (Below.refl _ _).alloc (Nat.le_refl _) _
        have HNbq := Lib.hid (show y4.heap[bq]? = some (.cells #[.bool p, .int .i64 n0, .bool p, .int .i64 q0] 24 (0, 0)) by rw [hy4, hbq]; exact World.alloc_heap_new _ _)
        replace HX := Lib.hid (HX.out.trans (bb.mono HX.out.size))
        clear bb
        refine do_at (i := 4) rfl (by kernel_rfl) (by kernel_rfl) (fun K hK => ?_)
        go_simp
        rw [← hy4, ← hbq]
        clear hy4 hbq
        refine hK.out _ _ (KEEP.out _ HX.out) (fun hHeld => ?_)
        clear hK K
        try go_frame
        replace HJ := Lib.hid (HJ.out.below HX.out)
        refine do_at (i := 5) rfl (by kernel_rfl) (by kernel_rfl) (fun K hK => ?_)
        refine wp_append_mo (.tmp 74) (.tmp 78) rfl lo (.slice ra rl rc) rl R rfl HJ.out.2.2.1 bq [(p, n0), (p, q0)] 2 2 rfl rfl (two_lit (x := (p, n0)) (y := (p, q0)) HNbq.out) (by have := HRR.out.1; have := HRL.out; omega) HJ.out.2.2.2.2 ?_
        intro v9 w9 ow9 gr9
        obtain ⟨a9, c9, e9⟩ := own_shape ow9
        subst e9
        have HO9 := Lib.hid (show MoIn w9 (.slice a9 (rl + 2) c9) (R ++ [(p, n0), (p, q0)]) from by
          have e : rl + 2 = (R ++ [(p, n0), (p, q0)]).length := by rw [List.length_append, ← HRL.out]; rfl
          rw [e] at ow9 ⊢
          exact moIn_own ow9 (by rw [List.length_append]; have := HRR.out.1; simp; omega))
        have HGB := Lib.hid (show ∀ g, g < lo → w9.heap[g]? = y4.heap[g]? from fun g hg => gr9.block g (Nat.lt_of_lt_of_le hg HJ.out.2.2.2.2) (fun e => by have := (World.ownsRow.lt HJ.out.2.2.1 g e.symm).1; omega))
        have HD9 := Lib.hid (show bx < lo ∧ b5 < lo ∧ b6 < lo from by have := HD.out; have := HLO.out; omega)
        replace HNbx := Lib.hid ((HGB.out bx HD9.out.1).trans HJ.out.1.1)
        replace HNb5 := Lib.hid ((HGB.out b5 HD9.out.2.1).trans HJ.out.1.2.1)
        replace HNb6 := Lib.hid ((HGB.out b6 HD9.out.2.2).trans HJ.out.1.2.2)
        have HRI := Lib.hid (HJ.out.2.1.grown HJ.out.2.2.1 gr9)
        replace HB := Lib.hid (HJ.out.2.2.2.1.grown gr9 HJ.out.2.2.2.1.size (fun j hj => by have := (World.ownsRow.lt HJ.out.2.2.1 j hj).1; have := HD.out; have := HLO.out; omega))
        clear ow9 gr9 HJ HGB HD9 HX KEEP HNbq hHeld
        refine hK.out _ _ ⟨(two_cells HNbx.out).1, (two_cells HNbx.out).2.1⟩ (fun hHeld => ?_)
        clear hK K
        try go_frame
        refine tk 6 rfl (fun w hSw => by (try dsimp only at hSw); go_simp; try with_reducible rfl) ?_
        go_frame
        refine wpAnyH_done (by kernel_rfl) ?_ _
        clear hHeld
        obtain ⟨L2, hL2⟩ : ∃ L2, L2 = R ++ [(p, n0), (p, q0)] := ⟨_, rfl⟩
        obtain ⟨N2, hN2⟩ : ∃ N2, N2 = rl + 2 := ⟨_, rfl⟩
        have HL2 := Lib.hid (show N2 = L2.length ∧ N2 ≤ 22 ∧ ∀ y ∈ L2, wfM y from ⟨by rw [hN2, hL2, List.length_append, HRL.out]; rfl, by have := HRL.out; have := HRR.out.1; omega, fun y hy => by
          rw [hL2] at hy
          rcases List.mem_append.1 hy with h | h
          · exact HRR.out.2 y h
          · simp at h
            rcases h with rfl | rfl
            · exact HWX.out
            · exact HWN.out⟩)
        rw [← hL2, ← hN2] at HO9
        have en : ((rl : Int) + 2) = (N2 : Nat) := by rw [hN2]; rfl
        try rw [← hN2]
        try rw [en]
        clear hL2 hN2 en
        go_wp2_with fail
        go_loopw [81] (fun v wz => ∃ j : Nat, v = .int .i64 (j : Nat) ∧ Hid (j ≤ N2) ∧ Hid (Below w9.heap.size w9 wz)) (fun v wz => 60 - (intOf v).toNat)
        case atStart => exact ⟨0, rfl, Lib.hid (Nat.zero_le _), Lib.hid (Below.refl _ _)⟩
        case round =>
          obtain ⟨j, rfl, HJJ, HY⟩ := hrel
          rename World => wj
          have u2 : IntKind.i64.wrap ((j : Int) + 1) = ((j + 1 : Nat) : Int) := by rw [IntKind.wrap_i64]; have := HJJ.out; have := HL2.out.2.1; omega
          replace HNbx := Lib.hid (blk_below HNbx.out HY.out)
          replace HNb5 := Lib.hid (blk_below HNb5.out HY.out)
          replace HNb6 := Lib.hid (blk_below HNb6.out HY.out)
          replace HB := Lib.hid (HB.out.trans (HY.out.mono HB.out.size))
          replace HRI := Lib.hid (HRI.out.below HY.out)
          by_cases h3 : j < N2
          · obtain ⟨g, o, hla, c0, c1⟩ := (HO9.out.below HY.out).at (i := j) h3
            subst hla
            have HH3 := Lib.hid h3
            obtain ⟨y, hy⟩ : ∃ y, y = L2.getD j (false, 0) := ⟨_, rfl⟩
            have HWY := Lib.hid (show wfM y by rw [hy]; exact HL2.out.2.2 _ (mem_at (by have := HL2.out.1; omega)))
            rw [← hy] at c0 c1
            clear hy
            obtain ⟨y1, y2⟩ := y
            simp only [] at c0 c1
            obtain ⟨kn, hkn⟩ : ∃ b, b = (bitM (y1, y2)).isSome := ⟨_, rfl⟩
            obtain ⟨ax, hax⟩ : ∃ b, b = altM (y1, y2) := ⟨_, rfl⟩
            obtain ⟨im, him⟩ : ∃ b, b = isM s' (y1, y2) := ⟨_, rfl⟩
            obtain ⟨st, hst⟩ : ∃ b, b = stateM s' (y1, y2) := ⟨_, rfl⟩
            have C1 := Lib.hid (fun w => known_any y1 y2 HWY.out w)
            have C2 := Lib.hid (fun w => rknown_any y1 y2 w)
            have C3 := Lib.hid (fun w => alt_any y1 y2 HWY.out w)
            have C4 := Lib.hid (fun w => ralt_any y1 y2 w)
            have C5 := Lib.hid (fun w => is_any s' HGL'.out y1 y2 HWY.out w)
            have C6 := Lib.hid (fun w h => ris_any (.slice a2 k2 c2) (allM s') (by have := allM_le s'; omega) y1 y2 w h)
            have C7 := Lib.hid (fun w => state_any s' HGL'.out y1 y2 HWY.out w)
            have C8 := Lib.hid (fun w h => rstate_any s' (.slice a2 k2 c2) y1 y2 w h)
            rw [← known_mem] at C2
            rw [← is_mem] at C6
            rw [← hkn] at C1 C2
            rw [← hax] at C3 C4
            rw [← him] at C5 C6
            rw [← hst] at C7 C8
            clear hkn hax him hst h3
            obtain ⟨b15, hb15⟩ : ∃ b, b = wj.heap.size := ⟨_, rfl⟩
            obtain ⟨x1, hx1⟩ : ∃ x, x = wj.alloc (.cells #[.bool y1, .int .i64 y2] 24) := ⟨_, rfl⟩
            have HBo := Lib.hid HB.out.size
            have kk : Below wj.heap.size wj x1 := by rw [hx1]; exact (Below.refl _ _).alloc (Nat.le_refl _) _
            have HW1 := Lib.hid kk
            replace HNbx := Lib.hid (blk_below HNbx.out kk)
            replace HNb5 := Lib.hid (blk_below HNb5.out kk)
            replace HNb6 := Lib.hid (blk_below HNb6.out kk)
            replace HB := Lib.hid (HB.out.trans (kk.mono HB.out.size))
            replace HRI := Lib.hid (HRI.out.below kk)
            have HNb15 := Lib.hid (show x1.heap[b15]? = some (.cells #[.bool y1, .int .i64 y2] 24 (0, 0)) by rw [hx1, hb15]; exact World.alloc_heap_new _ _)
            have HLb15 := Lib.hid (show w.heap.size ≤ b15 by rw [hb15]; exact HBo.out)
            go_upto_region 20 with (fail)
            rw [← hx1, ← hb15]
            clear c0 c1 hx1 hb15 kk HBo
            have cb15 := (two_cells HNb15.out).1
            have db15 := (two_cells HNb15.out).2.1
            have fb15 := (two_cells HNb15.out).2.2.1
            have gb15 := (two_cells HNb15.out).2.2.2
            obtain ⟨b16, hb16⟩ : ∃ b, b = x1.heap.size := ⟨_, rfl⟩
            obtain ⟨x2, hx2⟩ : ∃ x, x = x1.alloc (.cells #[.bool y1, .int .i64 y2] 43) := ⟨_, rfl⟩
            have HBo := Lib.hid HB.out.size
            have kk : Below x1.heap.size x1 x2 := by rw [hx2]; exact (Below.refl _ _).alloc (Nat.le_refl _) _
            have HW2 := Lib.hid (HW1.out.trans (kk.mono HW1.out.size))
            replace HNbx := Lib.hid (blk_below HNbx.out kk)
            replace HNb5 := Lib.hid (blk_below HNb5.out kk)
            replace HNb6 := Lib.hid (blk_below HNb6.out kk)
            replace HNb15 := Lib.hid (blk_below HNb15.out kk)
            replace HB := Lib.hid (HB.out.trans (kk.mono HB.out.size))
            replace HRI := Lib.hid (HRI.out.below kk)
            have HNb16 := Lib.hid (show x2.heap[b16]? = some (.cells #[.bool y1, .int .i64 y2] 43 (0, 0)) by rw [hx2, hb16]; exact World.alloc_heap_new _ _)
            have HLb16 := Lib.hid (show w.heap.size ≤ b16 by rw [hb16]; exact HBo.out)
            go_upto_region 21 with (fail)
            rw [← hx2, ← hb16]
            clear hx2 hb16 kk HBo
            clear cb15 db15 fb15 gb15
            have HX1 := Lib.hid (show Below wj.heap.size wj x2 from HW2.out)
            have KEEP := Lib.hid (show ∀ wx, Below x2.heap.size x2 wx → wx.cell? ⟨bx, 0, none⟩ = some (.bool p) ∧ wx.cell? ⟨bx, 1, none⟩ = some (.int .i64 n0) ∧ wx.cell? ⟨b5, 0, none⟩ = some ((.int .u16 (s' : Nat))) ∧ wx.cell? ⟨b6, 0, none⟩ = some (.slice a2 k2 c2) ∧ wx.cell? ⟨b15, 0, none⟩ = some (.bool y1) ∧ wx.cell? ⟨b15, 1, none⟩ = some (.int .i64 y2) ∧ wx.cell? ⟨b16, 0, none⟩ = some (.bool y1) ∧ wx.cell? ⟨b16, 1, none⟩ = some (.int .i64 y2) from fun wx hx => ⟨(two_cells (blk_below HNbx.out hx)).1, (two_cells (blk_below HNbx.out hx)).2.1, (one_cell (blk_below HNb5.out hx)).1, (one_cell (blk_below HNb6.out hx)).1, (two_cells (blk_below HNb15.out hx)).1, (two_cells (blk_below HNb15.out hx)).2.1, (two_cells (blk_below HNb16.out hx)).1, (two_cells (blk_below HNb16.out hx)).2.1⟩)
            go_upto_region 21 with (fail)
            refine wp_region_held_drew (S := (fun wx => wx.cell? ⟨bx, 0, none⟩ = some (.bool p) ∧ wx.cell? ⟨bx, 1, none⟩ = some (.int .i64 n0) ∧ wx.cell? ⟨b5, 0, none⟩ = some ((.int .u16 (s' : Nat))) ∧ wx.cell? ⟨b6, 0, none⟩ = some (.slice a2 k2 c2) ∧ wx.cell? ⟨b15, 0, none⟩ = some (.bool y1) ∧ wx.cell? ⟨b15, 1, none⟩ = some (.int .i64 y2) ∧ wx.cell? ⟨b16, 0, none⟩ = some (.bool y1) ∧ wx.cell? ⟨b16, 1, none⟩ = some (.int .i64 y2))) (by kernel_rfl) (KEEP.out _ ((Below.refl _ _).drew)) (fun hHeld => ?_)
            obtain ⟨z21, hz21⟩ : ∃ X, X = x2.drew := ⟨_, rfl⟩
            have HX := Lib.hid (show Below x2.heap.size x2 z21 by rw [hz21]; exact (Below.refl _ _).drew)
            replace hHeld := KEEP.out _ HX.out
            rw [← hz21]
            clear hz21
            refine tk 0 rfl (fun w hSw => by (try dsimp only at hSw); go_simp; try with_reducible rfl) ?_
            go_frame
            refine tk 2 rfl (fun w hSw => by (try dsimp only at hSw); go_simp; try with_reducible rfl) ?_
            go_frame
            refine do_at (i := 1) rfl (by kernel_rfl) (by kernel_rfl) (fun K hK => ?_)
            go_simp
            refine (C1.out _).mono ?_
            rintro e s1 ⟨rfl, bb⟩
            replace HX := Lib.hid (HX.out.trans (bb.mono HX.out.size))
            clear bb
            go_wp2_with fail
            refine hK.out _ _ (KEEP.out _ HX.out) (fun hHeld => ?_)
            clear hK K
            try go_frame
            refine do_at (i := 3) rfl (by kernel_rfl) (by kernel_rfl) (fun K hK => ?_)
            go_simp
            refine (C2.out _).mono ?_
            rintro e s2 ⟨rfl, bb⟩
            replace HX := Lib.hid (HX.out.trans (bb.mono HX.out.size))
            clear bb
            go_wp2_with fail
            refine hK.out _ _ (KEEP.out _ HX.out) (fun hHeld => ?_)
            clear hK K
            try go_frame
            refine tk 4 rfl (fun w hSw => by (try dsimp only at hSw); go_simp; try with_reducible rfl) ?_
            go_frame
            refine tk 5 rfl (fun w hSw => by (try dsimp only at hSw); go_simp; try with_reducible rfl) ?_
            go_frame
            refine tk 6 rfl (fun w hSw => by (try dsimp only at hSw); go_simp; try with_reducible rfl) ?_
            go_frame
            refine tk 8 rfl (fun w hSw => by (try dsimp only at hSw); go_simp; try with_reducible rfl) ?_
            go_frame
            refine do_at (i := 7) rfl (by kernel_rfl) (by kernel_rfl) (fun K hK => ?_)
            go_simp
            refine (C3.out _).mono ?_
            rintro e s3 ⟨rfl, bb⟩
            replace HX := Lib.hid (HX.out.trans (bb.mono HX.out.size))
            clear bb
            go_wp2_with fail
            refine hK.out _ _ (KEEP.out _ HX.out) (fun hHeld => ?_)
            clear hK K
            try go_frame
            refine do_at (i := 9) rfl (by kernel_rfl) (by kernel_rfl) (fun K hK => ?_)
            go_simp
            refine (C4.out _).mono ?_
            rintro e s4 ⟨rfl, bb⟩
            replace HX := Lib.hid (HX.out.trans (bb.mono HX.out.size))
            clear bb
            go_wp2_with fail
            refine hK.out _ _ (KEEP.out _ HX.out) (fun hHeld => ?_)
            clear hK K
            try go_frame
            refine tk 10 rfl (fun w hSw => by (try dsimp only at hSw); go_simp; try with_reducible rfl) ?_
            go_frame
            refine tk 11 rfl (fun w hSw => by (try dsimp only at hSw); go_simp; try with_reducible rfl) ?_
            go_frame
            refine tk 12 rfl (fun w hSw => by (try dsimp only at hSw); go_simp; try with_reducible rfl) ?_
            go_frame
            refine tk 13 rfl (fun w hSw => by (try dsimp only at hSw); go_simp; try with_reducible rfl) ?_
            go_frame
            refine tk 14 rfl (fun w hSw => by (try dsimp only at hSw); go_simp; try with_reducible rfl) ?_
            go_frame
            refine tk 16 rfl (fun w hSw => by (try dsimp only at hSw); go_simp; try with_reducible rfl) ?_
            go_frame
            refine tk 17 rfl (fun w hSw => by (try dsimp only at hSw); go_simp; try with_reducible rfl) ?_
            go_frame
            refine do_at (i := 15) rfl (by kernel_rfl) (by kernel_rfl) (fun K hK => ?_)
            go_simp
            refine (C5.out _).mono ?_
            rintro e s5 ⟨rfl, bb⟩
            replace HX := Lib.hid (HX.out.trans (bb.mono HX.out.size))
            clear bb
            go_wp2_with fail
            refine hK.out _ _ (KEEP.out _ HX.out) (fun hHeld => ?_)
            clear hK K
            try go_frame
            refine do_at (i := 18) rfl (by kernel_rfl) (by kernel_rfl) (fun K hK => ?_)
            go_simp
            refine (C6.out _ (HRI.out.1.below HX.out)).mono ?_
            rintro e s6 ⟨rfl, bb⟩
            replace HX := Lib.hid (HX.out.trans (bb.mono HX.out.size))
            clear bb
            go_wp2_with fail
            refine hK.out _ _ (KEEP.out _ HX.out) (fun hHeld => ?_)
            clear hK K
            try go_frame
            refine tk 19 rfl (fun w hSw => by (try dsimp only at hSw); go_simp; try with_reducible rfl) ?_
            go_frame
            refine tk 20 rfl (fun w hSw => by (try dsimp only at hSw); go_simp; try with_reducible rfl) ?_
            go_frame
            refine tk 21 rfl (fun w hSw => by (try dsimp only at hSw); go_simp; try with_reducible rfl) ?_
            go_frame
            refine tk 22 rfl (fun w hSw => by (try dsimp only at hSw); go_simp; try with_reducible rfl) ?_
            go_frame
            refine tk 23 rfl (fun w hSw => by (try dsimp only at hSw); go_simp; try with_reducible rfl) ?_
            go_frame
            refine tk 25 rfl (fun w hSw => by (try dsimp only at hSw); go_simp; try with_reducible rfl) ?_
            go_frame
            refine tk 26 rfl (fun w hSw => by (try dsimp only at hSw); go_simp; try with_reducible rfl) ?_
            go_frame
            refine do_at (i := 24) rfl (by kernel_rfl) (by kernel_rfl) (fun K hK => ?_)
            go_simp
            refine (C7.out _).mono ?_
            rintro e s7 ⟨rfl, bb⟩
            replace HX := Lib.hid (HX.out.trans (bb.mono HX.out.size))
            clear bb
            go_wp2_with fail
            refine hK.out _ _ (KEEP.out _ HX.out) (fun hHeld => ?_)
            clear hK K
            try go_frame
            refine do_at (i := 27) rfl (by kernel_rfl) (by kernel_rfl) (fun K hK => ?_)
            go_simp
            refine (C8.out _ (HRI.out.1.below HX.out)).mono ?_
            rintro e s8 ⟨rfl, bb⟩
            replace HX := Lib.hid (HX.out.trans (bb.mono HX.out.size))
            clear bb
            go_wp2_with fail
            refine hK.out _ _ (KEEP.out _ HX.out) (fun hHeld => ?_)
            clear hK K
            try go_frame
            refine tk 28 rfl (fun w hSw => by (try dsimp only at hSw); go_simp; try with_reducible rfl) ?_
            go_frame
            refine tk 29 rfl (fun w hSw => by (try dsimp only at hSw); go_simp; try with_reducible rfl) ?_
            go_frame
            refine wpAnyH_done (by kernel_rfl) ?_ _
            have HX2 := Lib.hid (HX1.out.trans (HX.out.mono HX1.out.size))
            go_wp2
            go_roundw
            case rel => exact ⟨j + 1, by go_num, Lib.hid HH3.out, Lib.hid (HY.out.trans (HX2.out.mono HY.out.size))⟩
            case measure => simp only [intOf]; have := HJJ.out; have := HL2.out.2.1; omega
          · have h4 : ¬ (j : Int) < (N2 : Int) := by omega
            have cbx := (two_cells HNbx.out).1
            have dbx := (two_cells HNbx.out).2.1
            have fbx := (two_cells HNbx.out).2.2.1
            have gbx := (two_cells HNbx.out).2.2.2
            have cb5 := (one_cell HNb5.out).1
            have fb5 := (one_cell HNb5.out).2
            have cb6 := (one_cell HNb6.out).1
            have fb6 := (one_cell HNb6.out).2
            go_wp2_with fail
            refine (alike_any s' HGL'.out _ _ HRI.out.1).mono ?_
            rintro e x3 ⟨rfl, bb⟩
            replace HRI := Lib.hid (HRI.out.below bb)
            replace HNbx := Lib.hid (blk_below HNbx.out bb)
            replace HNb5 := Lib.hid (blk_below HNb5.out bb)
            replace HNb6 := Lib.hid (blk_below HNb6.out bb)
            replace HB := Lib.hid (HB.out.trans (bb.mono HB.out.size))
            clear bb
            clear cbx dbx fbx gbx cb5 fb5 cb6 fb6
            have cbx := (two_cells HNbx.out).1
            have dbx := (two_cells HNbx.out).2.1
            have fbx := (two_cells HNbx.out).2.2.1
            have gbx := (two_cells HNbx.out).2.2.2
            have cb5 := (one_cell HNb5.out).1
            have fb5 := (one_cell HNb5.out).2
            have cb6 := (one_cell HNb6.out).1
            have fb6 := (one_cell HNb6.out).2
            go_wp2
            go_roundw
            case rel => exact ⟨i + 1, a2, k2, c2, by go_num, Lib.hid ⟨HH.out.1, HH.out.2⟩, Lib.hid ⟨HNbx.out, by rw [← HSS.out]; exact HNb5.out, HNb6.out, by rw [← HSS.out]; exact HRI.out, HB.out⟩⟩
            case measure => simp only [intOf]; have := HI.out; omega
      · have g2 : ¬ (i : Int) < 60 := by omega
        have HGL := Lib.hid (HG.out.2.2 i)
        obtain ⟨s, hs⟩ : ∃ s, s = G i := ⟨_, rfl⟩
        rw [← hs] at HNb5 HRI HGL
        clear hs
        have cbx := (two_cells HNbx.out).1
        have dbx := (two_cells HNbx.out).2.1
        have fbx := (two_cells HNbx.out).2.2.1
        have gbx := (two_cells HNbx.out).2.2.2
        have cb5 := (one_cell HNb5.out).1
        have fb5 := (one_cell HNb5.out).2
        have cb6 := (one_cell HNb6.out).1
        have fb6 := (one_cell HNb6.out).2
        go_wp2_with fail
        refine (alike_any s HGL.out _ _ HRI.out.1).mono ?_
        rintro e v1 ⟨rfl, bb⟩
        replace HNbx := Lib.hid (blk_below HNbx.out bb)
        replace HNb5 := Lib.hid (blk_below HNb5.out bb)
        replace HNb6 := Lib.hid (blk_below HNb6.out bb)
        replace HB := Lib.hid (HB.out.trans (bb.mono HB.out.size))
        clear bb
        clear cbx dbx fbx gbx cb5 fb5 cb6 fb6
        have cbx := (two_cells HNbx.out).1
        have dbx := (two_cells HNbx.out).2.1
        have fbx := (two_cells HNbx.out).2.2.1
        have gbx := (two_cells HNbx.out).2.2.2
        have cb5 := (one_cell HNb5.out).1
        have fb5 := (one_cell HNb5.out).2
        have cb6 := (one_cell HNb6.out).1
        have fb6 := (one_cell HNb6.out).2
        go_wp2_with fail
        refine (works_any _).mono ?_
        rintro e v2 ⟨rfl, bb⟩
        replace HNbx := Lib.hid (blk_below HNbx.out bb)
        replace HNb5 := Lib.hid (blk_below HNb5.out bb)
        replace HNb6 := Lib.hid (blk_below HNb6.out bb)
        replace HB := Lib.hid (HB.out.trans (bb.mono HB.out.size))
        clear bb
        clear cbx dbx fbx gbx cb5 fb5 cb6 fb6
        have cbx := (two_cells HNbx.out).1
        have dbx := (two_cells HNbx.out).2.1
        have fbx := (two_cells HNbx.out).2.2.1
        have gbx := (two_cells HNbx.out).2.2.2
        have cb5 := (one_cell HNb5.out).1
        have fb5 := (one_cell HNb5.out).2
        have cb6 := (one_cell HNb6.out).1
        have fb6 := (one_cell HNb6.out).2
        go_wp2
        go_ret
        exact ⟨rfl, HB.out⟩
    · have g1 : ¬ (i : Int) < (n : Int) := by omega
      have HGL := Lib.hid (HG.out.2.2 i)
      obtain ⟨s, hs⟩ : ∃ s, s = G i := ⟨_, rfl⟩
      rw [← hs] at HNb5 HRI HGL
      clear hs
      have cbx := (two_cells HNbx.out).1
      have dbx := (two_cells HNbx.out).2.1
      have fbx := (two_cells HNbx.out).2.2.1
      have gbx := (two_cells HNbx.out).2.2.2
      have cb5 := (one_cell HNb5.out).1
      have fb5 := (one_cell HNb5.out).2
      have cb6 := (one_cell HNb6.out).1
      have fb6 := (one_cell HNb6.out).2
      go_wp2_with fail
      refine (alike_any s HGL.out _ _ HRI.out.1).mono ?_
      rintro e v1 ⟨rfl, bb⟩
      replace HNbx := Lib.hid (blk_below HNbx.out bb)
      replace HNb5 := Lib.hid (blk_below HNb5.out bb)
      replace HNb6 := Lib.hid (blk_below HNb6.out bb)
      replace HB := Lib.hid (HB.out.trans (bb.mono HB.out.size))
      clear bb
      clear cbx dbx fbx gbx cb5 fb5 cb6 fb6
      have cbx := (two_cells HNbx.out).1
      have dbx := (two_cells HNbx.out).2.1
      have fbx := (two_cells HNbx.out).2.2.1
      have gbx := (two_cells HNbx.out).2.2.2
      have cb5 := (one_cell HNb5.out).1
      have fb5 := (one_cell HNb5.out).2
      have cb6 := (one_cell HNb6.out).1
      have fb6 := (one_cell HNb6.out).2
      go_wp2_with fail
      refine (works_any _).mono ?_
      rintro e v2 ⟨rfl, bb⟩
      replace HNbx := Lib.hid (blk_below HNbx.out bb)
      replace HNb5 := Lib.hid (blk_below HNb5.out bb)
      replace HNb6 := Lib.hid (blk_below HNb6.out bb)
      replace HB := Lib.hid (HB.out.trans (bb.mono HB.out.size))
      clear bb
      clear cbx dbx fbx gbx cb5 fb5 cb6 fb6
      have cbx := (two_cells HNbx.out).1
      have dbx := (two_cells HNbx.out).2.1
      have fbx := (two_cells HNbx.out).2.2.1
      have gbx := (two_cells HNbx.out).2.2.2
      have cb5 := (one_cell HNb5.out).1
      have fb5 := (one_cell HNb5.out).2
      have cb6 := (one_cell HNb6.out).1
      have fb6 := (one_cell HNb6.out).2
      go_wp2
      go_ret
      exact ⟨rfl, HB.out⟩
end Go.Proofs.Ytjdfinimbdcmbaa.Lab
