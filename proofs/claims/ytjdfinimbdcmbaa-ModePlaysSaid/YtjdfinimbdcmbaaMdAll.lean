/- All modes that are set, in order: the range over the table. -/
import Derived.Test.YtjdfinimbdcmbaaMdSort
set_option linter.unusedVariables false
namespace Go.Proofs.Ytjdfinimbdcmbaa.Lab
open Go Go.RowKit Go.Shelf Go.Lib Go.Sort

theorem own_turn {w w' : World} {lo size n : Nat} {e : TypeId} {v : Value} {xs : List Value} {row : Option Nat} (h : w.ownsRow lo e size v n xs) (hg : w.grownBy w' row) (hr : ∀ r, row = some r → ∃ o : Obj, w.heap[r]? = some o ∧ o.isCells = false) : w'.ownsRow lo e size v n xs := by
  rcases h.2 with ⟨e1, e2⟩ | ⟨g, cap, cur, e, hb, hgg, rest⟩
  · exact ⟨h.1, .inl ⟨e1, e2⟩⟩
  · refine ⟨h.1, .inr ⟨g, cap, cur, e, hb, (hg.block g (Array.getElem?_eq_some_iff.1 hgg).1 ?_).trans hgg, rest⟩⟩
    intro e
    obtain ⟨o, ho, hc⟩ := hr g e.symm
    rw [hgg] at ho
    injection ho with ho
    rw [← ho] at hc
    cases hc
theorem own_not {w : World} {lo size n g : Nat} {e : TypeId} {v : Value} {xs : List Value} {o : Obj} (h : w.ownsRow lo e size v n xs) (hg : w.heap[g]? = some o) (ho : o.isCells = false) : some g ≠ v.ownBlock := by
  intro e
  rcases h.2 with ⟨rfl, _⟩ | ⟨g', cap, cur, rfl, _, hgg, _⟩
  · cases e
  · simp only [Value.ownBlock, Option.some.injEq] at e
    subst e
    rw [hgg] at hg
    injection hg with hg
    rw [← hg] at ho
    cases ho
theorem own_not_type {w : World} {lo size n g : Nat} {e T : TypeId} {v : Value} {xs : List Value} {cs : Array Value} (h : w.ownsRow lo e size v n xs) (hg : w.heap[g]? = some (.cells cs T (0, 0))) (ho : e ≠ T) : some g ≠ v.ownBlock := by
  intro e'
  rcases h.2 with ⟨rfl, _⟩ | ⟨g', cap, cur, rfl, _, hgg, _⟩
  · cases e'
  · simp only [Value.ownBlock, Option.some.injEq] at e'
    subst e'
    rw [hgg] at hg
    injection hg with hg
    injection hg with _ hg
    exact ho hg
section
variable {P : Program} {k : TypeId} {Q : Value → Option (DataW Unit × List MemPlace)} {w : World} {b r n : Nat} {D : DataW Unit} {left : Lit → Bool} {cnt : Nat}
theorem ranges_iter (h : w.ranges P k Q b r n D left cnt) : ∃ o : Obj, w.heap[r]? = some o ∧ o.isCells = false := by
  obtain ⟨es, clock, since, seen, c0, hb, F, hs, hD, hr, rest⟩ := h
  exact ⟨_, hr, rfl⟩
theorem ranges_map (h : w.ranges P k Q b r n D left cnt) : ∃ o : Obj, w.heap[b]? = some o ∧ o.isCells = false := by
  obtain ⟨es, clock, since, seen, c0, hb, F, hs, hD, hr, rest⟩ := h
  exact ⟨_, hb, rfl⟩
end
/-- A call of All in its midst: b: the modes; v: what is collected. -/
structure AllC (s : Nat) (w wr : World) (b : Nat) (v : Value) (n : Nat) (acc : List Mo) : Prop where
  row : wr.heap[b]? = some (.cells #[.int .u16 (s : Nat)] 27 (0, 0))
  own : wr.ownsRow w.heap.size 24 2 v n (moL acc)
  below : Below w.heap.size w wr
theorem AllC.turn {s : Nat} {w wr w2 : World} {b r n : Nat} {v : Value} {acc : List Mo} (h : AllC s w wr b v n acc) (hg : wr.grownBy w2 (some r)) (hr : ∃ o : Obj, wr.heap[r]? = some o ∧ o.isCells = false) (hw : w.heap.size ≤ r) : AllC s w w2 b v n acc := by
  refine ⟨(hg.block b (Array.getElem?_eq_some_iff.1 h.row).1 (fun e => ?_)).trans h.row, own_turn h.own hg (fun x hx => by injection hx with hx; rw [← hx]; exact hr), h.below.grown hg h.below.size (fun x hx => by injection hx with hx; omega)⟩
  injection e with e
  obtain ⟨o, h1, h2⟩ := hr
  rw [← e, h.row] at h1
  injection h1 with h1
  rw [← h1] at h2
  cases h2
theorem AllC.alloc {s : Nat} {w wr : World} {b n : Nat} {v : Value} {acc : List Mo} (h : AllC s w wr b v n acc) (o : Obj) : AllC s w (wr.alloc o) b v n acc := by
  have k : Below wr.heap.size wr (wr.alloc o) := (Below.refl _ _).alloc (Nat.le_refl _) _
  exact ⟨(k.block b (Array.getElem?_eq_some_iff.1 h.row).1).trans h.row, h.own.alloc _, h.below.alloc h.below.size _⟩
theorem AllC.more {s : Nat} {w wr w2 : World} {b n : Nat} {v v2 : Value} {acc : List Mo} {x : Mo} (h : AllC s w wr b v n acc) (ho : w2.ownsRow w.heap.size 24 2 v2 (n + 1) (moL (acc ++ [x]))) (hg : wr.grownBy w2 v.ownBlock) : AllC s w w2 b v2 (n + 1) (acc ++ [x]) :=
  ⟨(hg.block b (Array.getElem?_eq_some_iff.1 h.row).1 (own_not_type h.own h.row (by decide))).trans h.row, ho, h.below.grown hg h.below.size (fun j hj => (h.own.lt j hj).1)⟩
theorem bit_test (s j : Nat) (hs : s < 2048) (hj : j < 11) : ∃ z : Nat, bits .and .u16 (s : Int) ((2 ^ j : Nat) : Int) = (z : Nat) ∧ (z = 0 ↔ s.testBit j = false) := ⟨_, u16_and_bit hs hj, and_bit s j⟩
set_option maxHeartbeats 4000000 in
set_option maxRecDepth 100000 in
theorem all_any (s : Nat) (hs : s < 2048) (w : World) : Calls Try.prog 28 #[.agg #[.int .u16 (s : Nat)]] w fun e w' => ∃ v', e = .returned v' ∧ MoIn w' v' (allM s) ∧ Below w.heap.size w w' := by
  have HS := Lib.hid hs
  clear hs
  obtain ⟨b, hb⟩ : ∃ b, b = w.heap.size := ⟨_, rfl⟩
  obtain ⟨w1, hw1⟩ : ∃ x, x = w.alloc (.cells #[.int .u16 (s : Nat)] 27) := ⟨_, rfl⟩
  have HB1 := Lib.hid (show Below w.heap.size w w1 ∧ w1.heap[b]? = some (.cells #[.int .u16 (s : Nat)] 27 (0, 0)) from ⟨by rw [hw1]; exact (Below.refl _ _).alloc (Nat.le_refl _) _, by rw [hw1, hb]; exact World.alloc_heap_new _ _⟩)
  go_enter Try.func28, Try.ntmps28
  go_wp2_with fail
  rw [← hw1, ← hb]
  clear hw1 hb
  refine (bits_any _).mono ?_
  rintro e w2 ⟨bm, rfl, hbm, ⟨D, N, hO, hN, hD⟩, bb⟩
  have HO := Lib.hid hO
  have HD := Lib.hid hD
  have HN := Lib.hid (show Maps.size D ≤ 13 from Nat.le_trans hO.size_le hN)
  have HC2 := Lib.hid (show AllC s w w2 b (.slice none 0 0) 0 [] from ⟨(bb.block b (Array.getElem?_eq_some_iff.1 HB1.out.2).1).trans HB1.out.2, ⟨rfl, .inl ⟨rfl, rfl⟩⟩, HB1.out.1.trans (bb.mono HB1.out.1.size)⟩)
  clear hO hD hN hbm bb HB1
  go_wp2_with (at_range; refine wpList_range_own _ rfl (.tmp 6) 59 rfl MoT 25 keyedMo Try.underlying59 (plainElem (H := Unit) Try.prog 25) bm N D rfl HO.out ?_; intro w3 hrg hgr hsz)
  obtain ⟨r, hr⟩ : ∃ r, r = w2.heap.size := ⟨_, rfl⟩
  rw [← hr] at hrg ⊢
  have HR3 := Lib.hid hrg
  have HC3 := Lib.hid (show AllC s w w3 b (.slice none 0 0) 0 [] from ⟨(hgr.block b (Array.getElem?_eq_some_iff.1 HC2.out.row).1 (by simp)).trans HC2.out.row, ⟨rfl, .inl ⟨rfl, rfl⟩⟩, HC2.out.below.grown hgr HC2.out.below.size (fun x hx => by cases hx)⟩)
  have HWR := Lib.hid (show w.heap.size ≤ r by rw [hr]; exact HC2.out.below.size)
  clear hrg hgr hsz hr HC2 HO
  go_frame
  go_wp2_with fail
  go_loopw [3] (fun v wr => ∃ (acc : List Mo) (left : Lit → Bool) (cnt n : Nat) (a : Option Addr) (c : Nat), v = .slice a n c ∧ Hid (n = acc.length ∧ AllC s w wr b (.slice a n c) n acc) ∧ Hid (wr.ranges Try.prog MoT (plainElem (H := Unit) Try.prog 25) bm r N D left cnt) ∧ Hid (CollS s left acc) ∧ Hid (∀ kl, left kl = true → Maps.has D kl = true) ∧ Hid (n + cnt ≤ 13)) (fun v wr => wr.rangeLeft bm r)
  case atStart => exact ⟨[], Maps.has D, Maps.size D, 0, none, 0, rfl, Lib.hid ⟨rfl, HC3.out⟩, HR3, Lib.hid (CollS.start s (fun f hf => (HD.out.has _).2 ⟨f, hf, rfl⟩)), Lib.hid (fun kl h => h), Lib.hid (by have := HN.out; omega)⟩
  case round =>
    obtain ⟨acc, left, cnt, n, a, c, rfl, HC, HR, HA, HL, HX⟩ := hrel
    clear HC3 HR3
    go_upto_region 4 with (at_next; refine wpList_next_md _ rfl (.tmp 7) rfl bm r N D left cnt rfl HR.out HD.out HL.out (fun hl0 => ?_) (Lib.hid (fun e u w4 cnt4 hu he hlk hrg hlt hgr hsz hen => ?_)))
    · skip
      have HS0 := Lib.hid (HA.out.sorted hl0)
      clear hl0
      by_cases h0 : n = 0
      · obtain rfl : acc = [] := List.eq_nil_of_length_eq_zero (by rw [← HC.out.1]; exact h0)
        subst h0
        refine (Try.slices_SortFunc_none _ _ _ _).mono ?_
        rintro e w9 ⟨rfl, rfl⟩
        go_wp2
        go_ret
        refine ⟨_, rfl, ?_, HC.out.2.below⟩
        have hA : allM s = [] := by rw [← HS0.out]; simp
        rw [hA]
        exact ⟨a, c, rfl, by simp, fun h => by simp at h⟩
      · obtain ⟨g, ha⟩ : ∃ g, a = some ⟨g, 0, none⟩ := by
          rcases HC.out.2.own.2 with ⟨_, h1⟩ | ⟨g, cap, cur, e, _⟩
          · exact absurd h1 h0
          · injection e with e _ _
            exact ⟨g, e⟩
        subst ha
        have HSO := Lib.hid (fun wx (h : wx.ownsRow w.heap.size 24 2 (.slice (some ⟨g, 0, none⟩) acc.length c) acc.length (moL acc)) => sort_any wx w.heap.size g c acc h (by have := HC.out.1; have := HX.out; omega))
        rw [← HC.out.1, HS0.out] at HSO
        refine (HSO.out _ HC.out.2.own).mono ?_
        rintro e w9 ⟨rfl, hm, bb⟩
        go_wp2
        go_ret
        exact ⟨_, rfl, hm, HC.out.2.below.trans bb⟩
    · skip
      obtain ⟨left2, hl2⟩ : ∃ f : Lit → Bool, f = fun z => left z && !z.sameKey (klK Try.prog e.1) := ⟨_, rfl⟩
      have HSm := Lib.hid (show s.testBit e.2 = false → CollS s left2 acc from fun h => by rw [hl2]; exact HA.out.same he hlk h)
      have HMo := Lib.hid (show s.testBit e.2 = true → CollS s left2 (acc ++ [e.1]) from fun h => by rw [hl2]; exact HA.out.more he hlk h)
      have HL4 := Lib.hid (show ∀ kl, left2 kl = true → Maps.has D kl = true from fun kl h => HL.out kl (by rw [hl2] at h; simp only [Bool.and_eq_true] at h; exact h.1))
      rw [← hl2] at hrg
      have HR4 := Lib.hid hrg
      have HC4 := Lib.hid (HC.out.2.turn hgr (ranges_iter HR.out) HWR.out)
      have HLT := Lib.hid (show cnt4 < wr.rangeLeft bm r by rw [HR.out.left_eq]; exact hlt)
      have HX4 := Lib.hid (show n + 1 + cnt4 ≤ 13 by have := HX.out; omega)
      obtain ⟨z, r1, hz⟩ := bit_test s e.2 HS.out ((by decide : ∀ e ∈ tabM, e.2 < 11) e he)
      rw [← hu.out] at r1
      have HZ := Lib.hid hz
      clear hrg hlt hgr hsz he hlk hu hz hl2
      obtain ⟨⟨p, m⟩, j⟩ := e
      simp only [] at hen
      obtain ⟨w5, hw5⟩ : ∃ X, X = w4.alloc (.cells #[.bool p, .int .i64 m] 24) := ⟨_, rfl⟩
      obtain ⟨d, hd⟩ : ∃ d, d = w4.heap.size := ⟨_, rfl⟩
      have HC5 := Lib.hid (show AllC s w w5 b (.slice a n c) n acc by rw [hw5]; exact HC4.out.alloc _)
      have HR5 := Lib.hid (show w5.ranges Try.prog MoT (plainElem (H := Unit) Try.prog 25) bm r N D left2 cnt4 by rw [hw5]; exact HR4.out.alloc _)
      have HD5 := Lib.hid (two_cells (show w5.heap[d]? = some (.cells #[.bool p, .int .i64 m] 24 (0, 0)) by rw [hw5, hd]; exact World.alloc_heap_new _ _))
      go_upto_region 5 with (fail)
      rw [← hw5, ← hd]
      clear hw5 hd hen
      have c0 := (one_cell HC5.out.row).1
      have d0 := HD5.out.1
      have d1 := HD5.out.2.1
      by_cases hz0 : z = 0
      · subst hz0
        go_wp2
        go_roundw
        case rel => exact ⟨acc, left2, cnt4, n, a, c, rfl, Lib.hid ⟨HC.out.1, HC5.out⟩, HR5, Lib.hid (HSm.out (HZ.out.1 rfl)), HL4, Lib.hid (by have := HX4.out; omega)⟩
        case measure => rw [HR5.out.left_eq]; exact HLT.out
      · have t1 : ((z : Int) == 0) = false := by simpa using hz0
        have t2 : decide ((z : Int) = 0) = false := by simpa using hz0
        have HZ0 := Lib.hid hz0
        go_wp2_with (at_builtin; refine wpList_append_mo rfl (.tmp 18) (.tmp 20) rfl w.heap.size (.slice a n c) n acc rfl HC.out.1 (HC5.out.own.alloc _) w5.heap.size [(p, m)] 1 1 rfl rfl (one_at (x := (p, m)) (World.alloc_heap_new _ _)) (by have := HX4.out; omega) (by have := HC5.out.below.size; simp; omega) ?_)
        intro v6 w6 ho hg
        obtain ⟨va6, vc6, rfl⟩ := own_shape ho
        have HC6 := Lib.hid ((HC5.out.alloc _).more ho hg)
        have k1 := HR5.out.alloc (.cells #[.bool p, .int .i64 m] 24)
        have k2 := HC5.out.own.alloc (.cells #[.bool p, .int .i64 m] 24)
        have HR6 := Lib.hid (k1.kept hg (by obtain ⟨o, h1, h2⟩ := ranges_map k1; exact own_not k2 h1 h2) (by obtain ⟨o, h1, h2⟩ := ranges_iter k1; exact own_not k2 h1 h2))
        clear k1 k2
        clear ho hg
        go_wp2
        go_roundw
        case rel => exact ⟨acc ++ [(p, m)], left2, cnt4, n + 1, va6, vc6, rfl, Lib.hid ⟨by rw [List.length_append, ← HC.out.1]; rfl, HC6.out⟩, HR6, Lib.hid (HMo.out (by
          cases hb : s.testBit j with
          | true => rfl
          | false => exact absurd (HZ.out.2 hb) HZ0.out)), HL4, HX4⟩
        case measure => rw [HR6.out.left_eq]; exact HLT.out
end Go.Proofs.Ytjdfinimbdcmbaa.Lab
