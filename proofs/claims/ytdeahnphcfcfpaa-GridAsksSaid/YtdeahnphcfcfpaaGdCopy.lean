/- The project's Copy. -/
import Derived.Test.YtdeahnphcfcfpaaGdResize
namespace Go.Proofs.Ytdeahnphcfcfpaa.Lab
open Go Go.RowKit Go.Shelf
attribute [local go_sem] Oper.semAt_some

/-- A grid's own block turns: other rows of rows stay. -/
theorem GRow.aside8 {w w' : World} {lo base g : Nat} {v : Value} {H : List Hd} {cur : Array Value} (h : GRow w lo base v H) (k : But g w w') (hg : w.heap[g]? = some (.cells cur 96 (0, 0))) : GRow w' lo base v H := by
  refine ⟨?_, h.2.but hg (by decide) k⟩
  rcases h.1.2 with ⟨e1, e2⟩ | ⟨g', cap, cu, e, hb, hgg, rest⟩
  · exact ⟨h.1.1, .inl ⟨e1, e2⟩⟩
  · refine ⟨h.1.1, .inr ⟨g', cap, cu, e, hb, (k.block g' (Array.getElem?_eq_some_iff.1 hgg).1 (fun e => ?_)).trans hgg, rest⟩⟩
    injection e with e
    rw [e, hg] at hgg
    injection hgg with hgg
    injection hgg with _ hgg
    exact absurd hgg (by decide)
/-- Where the rounds of Copy stand. -/
def CopAt (w w2 : World) (b8 n : Nat) (H : List Hd) (k : Nat) (W : World) : Prop :=
  k ≤ n ∧ (∃ v K, W.heap[b8]? = some (.cells #[v] 96 (0, 0)) ∧ GRow W w.heap.size w2.heap.size v K ∧ K.map (·.R) = (H.map (·.R)).take k ∧ Fr w.heap.size K) ∧ Buts (· = b8) w2 W
theorem CopAt.turn {w w2 W W' : World} {b8 n k B : Nat} {H : List Hd} {row : Option Nat} (h : CopAt w w2 b8 n H k W) (hg : W.grownBy W' row) (hB : w2.heap.size ≤ B) (hr : ∀ r, row = some r → B ≤ r ∧ ∃ o : Obj, W.heap[r]? = some o ∧ o.isCells = false) : CopAt w w2 b8 n H k W' := by
  obtain ⟨h1, ⟨v, K, h2, h3, h4, h5⟩, h6⟩ := h
  refine ⟨h1, ⟨v, K, (hg.block b8 (Array.getElem?_eq_some_iff.1 h2).1 ?_).trans h2, h3.turn hg (fun r e => (hr r e).2), h4, h5⟩, h6.turn hg hB hr⟩
  intro e
  obtain ⟨o, ho, hc⟩ := (hr b8 e.symm).2
  rw [h2] at ho
  injection ho with ho
  rw [← ho] at hc
  cases hc
theorem gcopy_nil (w : World) : Calls Try.prog 17 #[.pointer none] w fun e w' => e = .returned (.pointer none) ∧ w = w' := by
  refine (callsIn_wide (n := 0)).1 ?_
  refine callsIn_of_wp_marks Try.func17 rfl trivial ?_ rfl
  simp only [Try.ntmps17, List.size_toArray, List.length_cons, List.length_nil, Nat.reduceAdd, Nat.reduceSub, Array.replicate_succ, Array.replicate_zero, List.push_toArray, List.append_toArray, List.nil_append, List.cons_append]
  gi_wp2_with (refine ⟨trivial, rfl, ?_⟩; gi_at_call 47; refine (callsIn_wide.2 (kept_none w)).mono ?_; rintro e w' ⟨rfl, rfl⟩)
  exact ⟨_, results_tmp rfl _ _ _, rfl, rfl⟩
set_option maxHeartbeats 4000000 in
set_option maxRecDepth 100000 in
theorem gcopy_any (w : World) (lo p rb c : Nat) (H : List Hd) (h : GAt w lo p rb c H) (h0 : 0 < H.length) (hl : H.length ≤ 600) (hR : ∀ x ∈ H, 0 < x.R.length ∧ x.R.length ≤ 1000) :
    Calls Try.prog 17 #[gV p] w fun e w' => ∃ p2 rb2 c2 K, e = .returned (gV p2) ∧ GAt w' w.heap.size p2 rb2 c2 K ∧ K.map (·.R) = H.map (·.R) ∧ Fr w.heap.size K ∧ Below w.heap.size w w' := by
  obtain ⟨n, hn⟩ : ∃ n, n = H.length := ⟨_, rfl⟩
  have HN := Lib.hid hn
  obtain ⟨b8, hb8⟩ : ∃ b, b = w.heap.size := ⟨_, rfl⟩
  obtain ⟨b9, hb9⟩ : ∃ b, b = w.heap.size + 1 := ⟨_, rfl⟩
  obtain ⟨w2, hw2⟩ : ∃ x, x = (w.alloc (.cells #[.slice none 0 0] 96)).alloc (.cells #[gV b8] 31) := ⟨_, rfl⟩
  have B2 : Below w.heap.size w w2 := by rw [hw2]; exact ((Below.refl _ _).alloc (Nat.le_refl _) _).alloc (by simp) _
  have hs2 : w2.heap.size = w.heap.size + 2 := by rw [hw2]; simp
  have q9 : w2.cell? ⟨b9, 0, none⟩ = some (gV b8) := by rw [hw2, hb9]; simp
  have q8 : w2.heap[b8]? = some (.cells #[.slice none 0 0] 96 (0, 0)) := by rw [hw2, hb8, Below.heap_alloc _ _ _ (by simp)]; exact World.alloc_heap_new w _
  have HB2 := Lib.hid B2
  have HG2 := Lib.hid (h.below B2)
  have HK := Lib.hid (kept_any w p _ (by rw [hn]; exact h.cell : w.cell? ⟨p, 0, none⟩ = some (rV rb n c)))
  have HNE := Lib.hid (show b8 = w.heap.size ∧ b9 = w.heap.size + 1 ∧ w2.heap.size = w.heap.size + 2 ∧ p < w.heap.size ∧ rb < w.heap.size ∧ n ≤ 600 ∧ 0 < n from ⟨hb8, hb9, hs2, h.lt.1, h.lt.2.1, by omega, by omega⟩)
  have HYB := Lib.hid (show ∀ y ∈ H, ¬ y.b = b8 from fun y hy => by have := (h.2.2.2.lt hy).2; omega)
  have HRR := Lib.hid hR
  have Q9 := Lib.hid q9
  have HST := Lib.hid (show CopAt w w2 b8 n H 0 w2 from ⟨Nat.zero_le _, ⟨_, [], q8, GRow.nil _ _ _, rfl, Fr.nil _⟩, Buts.refl _ _⟩)
  have N89 := Lib.hid (show b8 ≠ b9 by omega)
  have N98 := Lib.hid (show ¬ b9 = b8 by omega)
  have hl' : n ≤ 1000 := by omega
  have hnz : ((n : Int) == 0) = false := by simp; omega
  clear B2 hs2 q9 q8 h h0 hl hR hn
  refine (callsIn_wide (n := 0)).1 ?_
  refine callsIn_of_wp_marks Try.func17 rfl trivial ?_ rfl
  simp only [Try.ntmps17, List.size_toArray, List.length_cons, List.length_nil, Nat.reduceAdd, Nat.reduceSub, Array.replicate_succ, Array.replicate_zero, List.push_toArray, List.append_toArray, List.nil_append, List.cons_append]
  gi_wp2_with (refine ⟨trivial, rfl, ?_⟩; gi_at_call 47; refine (callsIn_wide.2 HK.out).mono ?_; rintro e w' ⟨rfl, rfl⟩)
  rw [← hb9, ← hb8]
  rw [← hw2]
  clear hw2 hb8 hb9 hnz
  refine wp_range (gf := 49) (pre := #[gV p]) (post := #[]) rfl (enters_of Try.func49 (by kernel_rfl) rfl) (each_iter p rb c n H hl') (fun _ => rfl)
    (fun k W => CopAt w w2 b8 n H k W) (fun _ _ => False) ?hI ?hIx ?hH ?h0
    (fun k => { tmps := #[gV p, undef, .pointer none, .pointer (some ⟨b9, 0, none⟩), undef, hdV (hdAt H k), gV p, rV rb n c, .int .i64 (n : Nat), .bool false, .agg #[.slice none 0 0], gV b8, gV p, .func (.func 49) #[gV p] #[], .int .i64 (k : Nat), hdV (hdAt H k), undef, undef, undef, undef, undef, undef, undef, undef, undef, undef, undef, undef], defers := [] }) ?assign ?body ?done ?stop
  case hI => exact fun k W W' row hs hg hr => hs.turn hg (Nat.le_refl _) hr
  case hIx => exact fun _ _ _ _ hs _ _ => hs
  case hH =>
    rintro k W ⟨hk, _, hb⟩
    have hg := HG2.out.buts hb (by have := HNE.out; omega) (by have := HNE.out; omega) HYB.out
    exact ⟨fun _ => by rw [HN.out]; exact hg.cell, fun hlt => hg.head (by rw [← HN.out]; exact hlt)⟩
  case h0 => exact HST.out
  case assign =>
    intro ll k W K hK
    gi_wp2
    exact hK
  case body =>
    rintro ll k W1 hk ⟨hk', ⟨v, Kl, h8, gk, mk, fk⟩, bt⟩
    have hkH : k < H.length := by rw [← HN.out]; exact hk
    have hg := HG2.out.buts bt (by have := HNE.out; omega) (by have := HNE.out; omega) HYB.out
    obtain ⟨y, hy⟩ : ∃ y, y = hdAt H k := ⟨_, rfl⟩
    have hyH : y ∈ H := by rw [hy, hdAt_eq hkH]; exact List.getElem_mem hkH
    have HROW := Lib.hid (show RowIn W1 (hdV y) y.R by rw [hy]; exact (hg.row hkH).row)
    have HPOS := Lib.hid (HRR.out y hyH).1
    have HLEN := Lib.hid (show y.R.length ≤ 10000 by have := (HRR.out y hyH).2; omega)
    rw [← hy]
    have HY := Lib.hid hy
    have HKH := Lib.hid hkH
    have HKN := Lib.hid hk
    have HBT := Lib.hid bt
    have H8 := Lib.hid h8
    have HGK := Lib.hid gk
    have HMK := Lib.hid mk
    have HFK := Lib.hid fk
    have L8 := Lib.hid (show b8 < W1.heap.size from (Array.getElem?_eq_some_iff.1 h8).1)
    have C8 := Lib.hid (show W1.cell? ⟨b8, 0, none⟩ = some v by rw [cell_of_row W1 b8 0 _ _ _ h8]; simp)
    have C9 := Q9
    have C9B := Lib.hid (show W1.cell? ⟨b9, 0, none⟩ = some (gV b8) from Buts.cellK bt Q9.out N98.out)
    have L9 := Lib.hid (show b9 < W1.heap.size by have := bt.size; have := HNE.out; omega)
    have HW1 := Lib.hid (show w.heap.size ≤ W1.heap.size from Nat.le_trans HB2.out.size bt.size)
    have HW2 := Lib.hid bt.size
    have HLN := Lib.hid (show Kl.length + [y].length ≤ 100000 by
      have := congrArg List.length mk
      rw [List.length_map, List.length_take, List.length_map] at this
      simp only [List.length_cons, List.length_nil]
      have := HNE.out
      omega)
    have HVB := Lib.hid (show ∀ j, v.ownBlock = some j → w2.heap.size ≤ j from fun j hj => (gk.1.lt j hj).1)
    have HVC := Lib.hid (show ∀ X, Below W1.heap.size W1 X → ∀ j, v.ownBlock = some j → ∃ cu, X.heap[j]? = some (.cells cu 26 (0, 0)) from fun X bx j hj => by
      rcases (gk.below bx).1.2 with ⟨e, _⟩ | ⟨g', cap, cu, e, _, hgg, _⟩
      · rw [e] at hj; cases hj
      · rw [e] at hj
        have : g' = j := by simpa [Value.ownBlock] using hj
        subst this
        exact ⟨cu, hgg⟩)
    have HX := Lib.hid (show Below W1.heap.size W1 W1.drew from (Below.refl _ _).drew)
    clear hk hk' h8 gk mk fk bt hkH hg hy hyH
    refine wpIn_block ?_
    refine region_round ll 0 (S := fun wx => wx.cell? ⟨b9, 0, none⟩ = some (gV b8)) (by kernel_rfl) (by kernel_rfl) (shut_block _ (roundEnd_shut _ _ _ _ _)) ?_ (fun hHeld => ?_)
    · exact C9B.out
    refine tk 0 rfl (fun w hSw => by (try dsimp only at hSw); go_simp; try with_reducible rfl) ?_
    go_frame
    refine tk 1 rfl (fun w hSw => by (try dsimp only at hSw); go_simp; try with_reducible rfl) ?_
    go_frame
    refine tk 2 rfl (fun w hSw => by (try dsimp only at hSw); go_simp; try with_reducible rfl) ?_
    go_frame
    refine tk 3 rfl (fun w hSw => by (try dsimp only at hSw); go_simp; try with_reducible rfl) ?_
    go_frame
    refine tk 5 rfl (fun w hSw => by (try dsimp only at hSw); go_simp; try with_reducible rfl) ?_
    go_frame
    refine two_at (i := 4) (j := 6) rfl rfl (by kernel_rfl) (by kernel_rfl) (by kernel_rfl) (fun K hK => ?_) (fun K hK => ?_)
    · have hc8 : W1.drew.cell? ⟨b8, 0, none⟩ = some v := (HX.out.cell (p := ⟨b8, 0, none⟩) L8.out).trans C8.out
      go_simp
      clear hc8
      refine hK.out _ _ ?_ (fun hHeld => ?_)
      · exact (HX.out.cell (p := ⟨b9, 0, none⟩) L9.out).trans C9B.out
      clear hK K
      try go_frame
      refine do_at (i := 6) rfl (by kernel_rfl) (by kernel_rfl) (fun K hK => ?_)
      go_simp
      refine (clone_any W1.drew _ y.R (HROW.out.below HX.out) HPOS.out HLEN.out).mono ?_
      rintro e wc ⟨x, rfl, hxR, hxb, own, bc⟩
      have HXR := Lib.hid hxR
      have HXB := Lib.hid (Nat.le_trans HX.out.size hxb)
      have HO := Lib.hid (own.lower HX.out.size)
      replace HX := Lib.hid (HX.out.trans (bc.mono HX.out.size))
      clear own hxR hxb bc
      go_wp2_with fail
      refine hK.out _ _ ?_ (fun hHeld => ?_)
      · exact (HX.out.cell (p := ⟨b9, 0, none⟩) L9.out).trans C9B.out
      clear hK K
      try go_frame
      refine do_at (i := 7) rfl (by kernel_rfl) (by kernel_rfl) (fun K hK => ?_)
      obtain ⟨q, hq⟩ : ∃ q, q = wc.heap.size := ⟨_, rfl⟩
      obtain ⟨wb, hwb⟩ : ∃ X, X = wc.alloc (.cells #[hdV x] 26) := ⟨_, rfl⟩
      have bb : Below wc.heap.size wc wb := by rw [hwb]; exact (Below.refl _ _).alloc (Nat.le_refl _) _
      have HI := Lib.hid (show GIn wb w.heap.size (.slice (some ⟨q, 0, none⟩) 1 1) [x] by rw [hwb]; exact GIn.one (HO.out.lower HW1.out) q hq)
      replace HX := Lib.hid (HX.out.trans (bb.mono HX.out.size))
      clear bb
      go_simp
      rw [← hwb, ← hq]
      clear hwb hq
      refine hK.out _ _ ?_ (fun hHeld => ?_)
      · exact (HX.out.cell (p := ⟨b9, 0, none⟩) L9.out).trans C9B.out
      clear hK K
      try go_frame
      refine do_at (i := 8) rfl (by kernel_rfl) (by kernel_rfl) (fun K hK => ?_)
      refine wp_append_hds (.tmp 20) (.tmp 23) rfl w.heap.size w2.heap.size v Kl rfl (HGK.out.below HX.out) _ [x] rfl HI.out HLN.out (Nat.le_trans HW2.out HX.out.size) ?_
      intro v' wa ga growa
      obtain ⟨va, vc, hvs⟩ := ga.shape
      obtain ⟨ln, hln⟩ : ∃ ln, ln = (Kl ++ [x]).length := ⟨_, rfl⟩
      rw [← hln] at hvs
      subst hvs
      clear hln
      have HGA := Lib.hid ga
      have HGW := Lib.hid (show Buts (· = b8) w2 wa from ⟨growa.os.trans (HX.out.os.trans HBT.out.os), growa.tape.trans (HX.out.tape.trans HBT.out.tape), growa.output.trans (HX.out.output.trans HBT.out.output), Nat.le_trans HBT.out.size (Nat.le_trans HX.out.size growa.size), fun j hj hn => by rw [growa.block j (Nat.lt_of_lt_of_le (Nat.lt_of_lt_of_le hj HBT.out.size) HX.out.size) (fun e => by have := HVB.out j e.symm; omega), HX.out.block j (Nat.lt_of_lt_of_le hj HBT.out.size), HBT.out.block j hj hn]⟩)
      have HKO := Lib.hid (show KeepsOthers W1 wa from (keeps_below HX.out).trans (KeepsOthers.of_grownBy growa (fun j o e ho => by obtain ⟨cu, hcu⟩ := HVC.out wb HX.out j e; rw [hcu] at ho; injection ho with ho; rw [← ho]; rfl)))
      have H8A := Lib.hid (show wa.heap[b8]? = some (.cells #[v] 96 (0, 0)) from (growa.block b8 (Nat.lt_of_lt_of_le L8.out HX.out.size) (fun e => by have := HVB.out b8 e.symm; have := HNE.out; omega)).trans ((HX.out.block b8 L8.out).trans H8.out))
      clear ga growa
      refine hK.out _ _ ?_ (fun hHeld => ?_)
      · exact Buts.cellK HGW.out C9.out N98.out
      clear hK K
      try go_frame
      refine tk 9 rfl (fun w hSw => by (try dsimp only at hSw); go_simp; try with_reducible rfl) ?_
      go_frame
      refine tk 10 rfl (fun w hSw => by (try dsimp only at hSw); go_simp; try with_reducible rfl) ?_
      go_frame
      refine do_at (i := 11) rfl (by kernel_rfl) (by kernel_rfl) (fun K hK => ?_)
      have hc8 : wa.cell? ⟨b8, 0, none⟩ = some v := by rw [cell_of_row wa b8 0 _ _ _ H8A.out]; simp
      have hf8 : wa.frozen? ⟨b8, 0, none⟩ = false := frozen_of_row wa b8 0 _ _ H8A.out
      go_simp
      clear hc8 hf8
      refine hK.out _ _ ?_ (fun hHeld => ?_)
      · exact (World.cell?_setCell_other _ _ _ _ (fun e => N89.out (by injection e with e _ _))).trans hHeld
      clear hK K
      try go_frame
      refine wpAnyH_done (by kernel_rfl) ?_ _
      have ha8 := heap_set1 (v := .slice va ln vc) H8A.out
      refine ⟨(HKO.out.trans (KeepsOthers.setCell _ _ _)).from _, by have := HKN.out; omega, ⟨_, Kl ++ [x], ha8, ?_, ?_, ?_⟩, HGW.out.trans (Buts.but (S := (· = b8)) (But.set wa b8 0 _) rfl)⟩
      · exact GRow.aside8 HGA.out (But.set wa b8 0 _) H8A.out
      · rw [List.map_append, HMK.out, List.take_succ_eq_append_getElem (by rw [List.length_map]; exact HKH.out), List.getElem_map, ← hdAt_eq HKH.out, ← HY.out, ← HXR.out]
        rfl
      · exact HFK.out.snoc (m := W1.heap.size) (fun z hz => (HGK.out.2.lt hz).2) HXB.out HW1.out
    · go_simp
      refine (clone_any W1.drew _ y.R (HROW.out.below HX.out) HPOS.out HLEN.out).mono ?_
      rintro e wc ⟨x, rfl, hxR, hxb, own, bc⟩
      have HXR := Lib.hid hxR
      have HXB := Lib.hid (Nat.le_trans HX.out.size hxb)
      have HO := Lib.hid (own.lower HX.out.size)
      replace HX := Lib.hid (HX.out.trans (bc.mono HX.out.size))
      clear own hxR hxb bc
      go_wp2_with fail
      refine hK.out _ _ ?_ (fun hHeld => ?_)
      · exact (HX.out.cell (p := ⟨b9, 0, none⟩) L9.out).trans C9B.out
      clear hK K
      try go_frame
      refine two_at (i := 4) (j := 7) rfl rfl (by kernel_rfl) (by kernel_rfl) (by kernel_rfl) (fun K hK => ?_) (fun K hK => ?_)
      · have hc8 : wc.cell? ⟨b8, 0, none⟩ = some v := (HX.out.cell (p := ⟨b8, 0, none⟩) L8.out).trans C8.out
        go_simp
        clear hc8
        refine hK.out _ _ ?_ (fun hHeld => ?_)
        · exact (HX.out.cell (p := ⟨b9, 0, none⟩) L9.out).trans C9B.out
        clear hK K
        try go_frame
        refine do_at (i := 7) rfl (by kernel_rfl) (by kernel_rfl) (fun K hK => ?_)
        obtain ⟨q, hq⟩ : ∃ q, q = wc.heap.size := ⟨_, rfl⟩
        obtain ⟨wb, hwb⟩ : ∃ X, X = wc.alloc (.cells #[hdV x] 26) := ⟨_, rfl⟩
        have bb : Below wc.heap.size wc wb := by rw [hwb]; exact (Below.refl _ _).alloc (Nat.le_refl _) _
        have HI := Lib.hid (show GIn wb w.heap.size (.slice (some ⟨q, 0, none⟩) 1 1) [x] by rw [hwb]; exact GIn.one (HO.out.lower HW1.out) q hq)
        replace HX := Lib.hid (HX.out.trans (bb.mono HX.out.size))
        clear bb
        go_simp
        rw [← hwb, ← hq]
        clear hwb hq
        refine hK.out _ _ ?_ (fun hHeld => ?_)
        · exact (HX.out.cell (p := ⟨b9, 0, none⟩) L9.out).trans C9B.out
        clear hK K
        try go_frame
        refine do_at (i := 8) rfl (by kernel_rfl) (by kernel_rfl) (fun K hK => ?_)
        refine wp_append_hds (.tmp 20) (.tmp 23) rfl w.heap.size w2.heap.size v Kl rfl (HGK.out.below HX.out) _ [x] rfl HI.out HLN.out (Nat.le_trans HW2.out HX.out.size) ?_
        intro v' wa ga growa
        obtain ⟨va, vc, hvs⟩ := ga.shape
        obtain ⟨ln, hln⟩ : ∃ ln, ln = (Kl ++ [x]).length := ⟨_, rfl⟩
        rw [← hln] at hvs
        subst hvs
        clear hln
        have HGA := Lib.hid ga
        have HGW := Lib.hid (show Buts (· = b8) w2 wa from ⟨growa.os.trans (HX.out.os.trans HBT.out.os), growa.tape.trans (HX.out.tape.trans HBT.out.tape), growa.output.trans (HX.out.output.trans HBT.out.output), Nat.le_trans HBT.out.size (Nat.le_trans HX.out.size growa.size), fun j hj hn => by rw [growa.block j (Nat.lt_of_lt_of_le (Nat.lt_of_lt_of_le hj HBT.out.size) HX.out.size) (fun e => by have := HVB.out j e.symm; omega), HX.out.block j (Nat.lt_of_lt_of_le hj HBT.out.size), HBT.out.block j hj hn]⟩)
        have HKO := Lib.hid (show KeepsOthers W1 wa from (keeps_below HX.out).trans (KeepsOthers.of_grownBy growa (fun j o e ho => by obtain ⟨cu, hcu⟩ := HVC.out wb HX.out j e; rw [hcu] at ho; injection ho with ho; rw [← ho]; rfl)))
        have H8A := Lib.hid (show wa.heap[b8]? = some (.cells #[v] 96 (0, 0)) from (growa.block b8 (Nat.lt_of_lt_of_le L8.out HX.out.size) (fun e => by have := HVB.out b8 e.symm; have := HNE.out; omega)).trans ((HX.out.block b8 L8.out).trans H8.out))
        clear ga growa
        refine hK.out _ _ ?_ (fun hHeld => ?_)
        · exact Buts.cellK HGW.out C9.out N98.out
        clear hK K
        try go_frame
        refine tk 9 rfl (fun w hSw => by (try dsimp only at hSw); go_simp; try with_reducible rfl) ?_
        go_frame
        refine tk 10 rfl (fun w hSw => by (try dsimp only at hSw); go_simp; try with_reducible rfl) ?_
        go_frame
        refine do_at (i := 11) rfl (by kernel_rfl) (by kernel_rfl) (fun K hK => ?_)
        have hc8 : wa.cell? ⟨b8, 0, none⟩ = some v := by rw [cell_of_row wa b8 0 _ _ _ H8A.out]; simp
        have hf8 : wa.frozen? ⟨b8, 0, none⟩ = false := frozen_of_row wa b8 0 _ _ H8A.out
        go_simp
        clear hc8 hf8
        refine hK.out _ _ ?_ (fun hHeld => ?_)
        · exact (World.cell?_setCell_other _ _ _ _ (fun e => N89.out (by injection e with e _ _))).trans hHeld
        clear hK K
        try go_frame
        refine wpAnyH_done (by kernel_rfl) ?_ _
        have ha8 := heap_set1 (v := .slice va ln vc) H8A.out
        refine ⟨(HKO.out.trans (KeepsOthers.setCell _ _ _)).from _, by have := HKN.out; omega, ⟨_, Kl ++ [x], ha8, ?_, ?_, ?_⟩, HGW.out.trans (Buts.but (S := (· = b8)) (But.set wa b8 0 _) rfl)⟩
        · exact GRow.aside8 HGA.out (But.set wa b8 0 _) H8A.out
        · rw [List.map_append, HMK.out, List.take_succ_eq_append_getElem (by rw [List.length_map]; exact HKH.out), List.getElem_map, ← hdAt_eq HKH.out, ← HY.out, ← HXR.out]
          rfl
        · exact HFK.out.snoc (m := W1.heap.size) (fun z hz => (HGK.out.2.lt hz).2) HXB.out HW1.out
      · obtain ⟨q, hq⟩ : ∃ q, q = wc.heap.size := ⟨_, rfl⟩
        obtain ⟨wb, hwb⟩ : ∃ X, X = wc.alloc (.cells #[hdV x] 26) := ⟨_, rfl⟩
        have bb : Below wc.heap.size wc wb := by rw [hwb]; exact (Below.refl _ _).alloc (Nat.le_refl _) _
        have HI := Lib.hid (show GIn wb w.heap.size (.slice (some ⟨q, 0, none⟩) 1 1) [x] by rw [hwb]; exact GIn.one (HO.out.lower HW1.out) q hq)
        replace HX := Lib.hid (HX.out.trans (bb.mono HX.out.size))
        clear bb
        go_simp
        rw [← hwb, ← hq]
        clear hwb hq
        refine hK.out _ _ ?_ (fun hHeld => ?_)
        · exact (HX.out.cell (p := ⟨b9, 0, none⟩) L9.out).trans C9B.out
        clear hK K
        try go_frame
        refine do_at (i := 4) rfl (by kernel_rfl) (by kernel_rfl) (fun K hK => ?_)
        have hc8 : wb.cell? ⟨b8, 0, none⟩ = some v := (HX.out.cell (p := ⟨b8, 0, none⟩) L8.out).trans C8.out
        go_simp
        clear hc8
        refine hK.out _ _ ?_ (fun hHeld => ?_)
        · exact (HX.out.cell (p := ⟨b9, 0, none⟩) L9.out).trans C9B.out
        clear hK K
        try go_frame
        refine do_at (i := 8) rfl (by kernel_rfl) (by kernel_rfl) (fun K hK => ?_)
        refine wp_append_hds (.tmp 20) (.tmp 23) rfl w.heap.size w2.heap.size v Kl rfl (HGK.out.below HX.out) _ [x] rfl HI.out HLN.out (Nat.le_trans HW2.out HX.out.size) ?_
        intro v' wa ga growa
        obtain ⟨va, vc, hvs⟩ := ga.shape
        obtain ⟨ln, hln⟩ : ∃ ln, ln = (Kl ++ [x]).length := ⟨_, rfl⟩
        rw [← hln] at hvs
        subst hvs
        clear hln
        have HGA := Lib.hid ga
        have HGW := Lib.hid (show Buts (· = b8) w2 wa from ⟨growa.os.trans (HX.out.os.trans HBT.out.os), growa.tape.trans (HX.out.tape.trans HBT.out.tape), growa.output.trans (HX.out.output.trans HBT.out.output), Nat.le_trans HBT.out.size (Nat.le_trans HX.out.size growa.size), fun j hj hn => by rw [growa.block j (Nat.lt_of_lt_of_le (Nat.lt_of_lt_of_le hj HBT.out.size) HX.out.size) (fun e => by have := HVB.out j e.symm; omega), HX.out.block j (Nat.lt_of_lt_of_le hj HBT.out.size), HBT.out.block j hj hn]⟩)
        have HKO := Lib.hid (show KeepsOthers W1 wa from (keeps_below HX.out).trans (KeepsOthers.of_grownBy growa (fun j o e ho => by obtain ⟨cu, hcu⟩ := HVC.out wb HX.out j e; rw [hcu] at ho; injection ho with ho; rw [← ho]; rfl)))
        have H8A := Lib.hid (show wa.heap[b8]? = some (.cells #[v] 96 (0, 0)) from (growa.block b8 (Nat.lt_of_lt_of_le L8.out HX.out.size) (fun e => by have := HVB.out b8 e.symm; have := HNE.out; omega)).trans ((HX.out.block b8 L8.out).trans H8.out))
        clear ga growa
        refine hK.out _ _ ?_ (fun hHeld => ?_)
        · exact Buts.cellK HGW.out C9.out N98.out
        clear hK K
        try go_frame
        refine tk 9 rfl (fun w hSw => by (try dsimp only at hSw); go_simp; try with_reducible rfl) ?_
        go_frame
        refine tk 10 rfl (fun w hSw => by (try dsimp only at hSw); go_simp; try with_reducible rfl) ?_
        go_frame
        refine do_at (i := 11) rfl (by kernel_rfl) (by kernel_rfl) (fun K hK => ?_)
        have hc8 : wa.cell? ⟨b8, 0, none⟩ = some v := by rw [cell_of_row wa b8 0 _ _ _ H8A.out]; simp
        have hf8 : wa.frozen? ⟨b8, 0, none⟩ = false := frozen_of_row wa b8 0 _ _ H8A.out
        go_simp
        clear hc8 hf8
        refine hK.out _ _ ?_ (fun hHeld => ?_)
        · exact (World.cell?_setCell_other _ _ _ _ (fun e => N89.out (by injection e with e _ _))).trans hHeld
        clear hK K
        try go_frame
        refine wpAnyH_done (by kernel_rfl) ?_ _
        have ha8 := heap_set1 (v := .slice va ln vc) H8A.out
        refine ⟨(HKO.out.trans (KeepsOthers.setCell _ _ _)).from _, by have := HKN.out; omega, ⟨_, Kl ++ [x], ha8, ?_, ?_, ?_⟩, HGW.out.trans (Buts.but (S := (· = b8)) (But.set wa b8 0 _) rfl)⟩
        · exact GRow.aside8 HGA.out (But.set wa b8 0 _) H8A.out
        · rw [List.map_append, HMK.out, List.take_succ_eq_append_getElem (by rw [List.length_map]; exact HKH.out), List.getElem_map, ← hdAt_eq HKH.out, ← HY.out, ← HXR.out]
          rfl
        · exact HFK.out.snoc (m := W1.heap.size) (fun z hz => (HGK.out.2.lt hz).2) HXB.out HW1.out
  case done =>
    rintro D W hD ⟨_, ⟨v, K, h8, gk, mk, fk⟩, bt⟩ hK
    have hKl : K.length = n := by
      have := congrArg List.length mk
      rw [List.length_map, List.length_take, List.length_map] at this
      have := HN.out
      omega
    obtain ⟨rb2, c2, e2, _, _⟩ := gk.here (by rw [hKl]; exact HNE.out.2.2.2.2.2.2)
    subst e2
    have q9 := Buts.cellK bt Q9.out N98.out
    have tg := grownBy_putObj' W D (.deferred none)
    have tr : ∀ r', some D = some r' → ∃ o : Obj, W.heap[r']? = some o ∧ o.isCells = false := fun r' e => by cases e; exact ⟨_, hK, rfl⟩
    have hgat : GAt W w.heap.size b8 rb2 c2 K := ⟨by have := HNE.out; omega, h8, gk.lower (Nat.le_refl _) HB2.out.size⟩
    have HGA := Lib.hid (hgat.turn tg tr)
    have HBW := Lib.hid (show Below w.heap.size w (W.putObj D (.deferred none)) from (HB2.out.trans (bt.below (fun i hi => by have := HNE.out; omega) HB2.out.size)).grown tg (Nat.le_trans HB2.out.size bt.size) (fun r' e => by cases e; exact Nat.le_trans HB2.out.size hD))
    have HMK := Lib.hid (show K.map (·.R) = H.map (·.R) by rw [mk, List.take_of_length_le (by rw [List.length_map, HN.out]; exact Nat.le_refl _)])
    have HFK := Lib.hid fk
    have HKD := Lib.hid hK
    clear h8 gk mk fk bt hK tg tr hgat hKl
    gi_wp2
    refine ⟨by simp, .inl ⟨_, _, rfl, run_takeDeferred HKD.out, ?_⟩⟩
    exact ⟨_, results_tmp rfl _ _ _, b8, rfl, rb2, c2, K, HGA.out, HMK.out, HFK.out, HBW.out⟩
  case stop => rintro D cc W _ h _; exact h.elim
end Go.Proofs.Ytdeahnphcfcfpaa.Lab
