/- The project's Text. -/
import Derived.Test.YtdeahnphcfcfpaaGdResize
import Derived.Test.YtdeahnphcfcfpaaRpText
namespace Go.Proofs.Ytdeahnphcfcfpaa.Lab
open Go Go.RowKit Go.Shelf
attribute [local go_sem] Oper.semAt_some

theorem infoStr : (Try.prog.info? 9).map (fun i => (i.zero, i.size, i.bytes)) = some (some (.string ⟨#[]⟩), 1, 16) := by kernel_rfl
/-- A string, appended to a row of strings of the call's own. -/
theorem wp_append_str {o : Oper} {a : Act} {w : World} {K : Act → World → Prop} {Q : Exit → Act → World → Prop} (s x : Operand)
    (hop : o.op = Op.call { callee := Callee.builtin Builtin.append, args := #[s, x], argTypes := #[86, 86] })
    (base : Nat) (v : Value) (n : Nat) (l : List Value) (hs : a.eval s = v) (hown : w.ownsRow base 9 1 v n l)
    (q : Nat) (st : ByteArray) (hx : a.eval x = .slice (some ⟨q, 0, none⟩) 1 1) (hr : w.cell? ⟨q, 0, none⟩ = some (.string st)) (hnr : n ≤ 100000) (hb : base ≤ w.heap.size)
    (hK : ∀ v' w', w'.ownsRow base 9 1 v' (n + 1) (l ++ [.string st]) → w.grownBy w' v.ownBlock → K (a.put o.dst v') w') :
    Oper.wp Try.prog o a w K Q := by
  obtain ⟨ib, hi, hz0, hz1, hz2⟩ := info_parts infoStr
  refine wp_append_own w s x 86 hop base 9 ib (.string ⟨#[]⟩) 1 16 Try.underlying86 hi hz0 hz1 hz2 rfl (by decide) v n l hs hown ⟨q, 0, none⟩ 1 1 [.string st] hx rfl (fun j y hj => ?_) (fun u hu => ?_) (by unfold maxLen; omega) (by omega) hb (fun v' w' h1 h2 _ => hK v' w' h1 h2)
  · cases j with
    | zero =>
      obtain rfl : Value.string st = y := by simpa using hj
      rw [Addr.add_mid]
      exact hr
    | succ j => simp at hj
  · obtain rfl : u = .string st := by simpa using hu
    rfl
def textsOf (H : List Hd) : List Value := H.map fun x => .string ⟨(textM x.R).toArray⟩
/-- Where the rounds of Text stand. -/
def TexAt (w2 : World) (b3 n : Nat) (H : List Hd) (k : Nat) (W : World) : Prop :=
  k ≤ n ∧ (∃ v, W.heap[b3]? = some (.cells #[v] 86 (0, 0)) ∧ W.ownsRow w2.heap.size 9 1 v k ((textsOf H).take k)) ∧ Buts (· = b3) w2 W
theorem TexAt.turn {w2 W W' : World} {b3 n k B : Nat} {H : List Hd} {row : Option Nat} (h : TexAt w2 b3 n H k W) (hg : W.grownBy W' row) (hB : w2.heap.size ≤ B) (hr : ∀ r, row = some r → B ≤ r ∧ ∃ o : Obj, W.heap[r]? = some o ∧ o.isCells = false) : TexAt w2 b3 n H k W' := by
  obtain ⟨h1, ⟨v, h2, h3⟩, h6⟩ := h
  refine ⟨h1, ⟨v, (hg.block b3 (Array.getElem?_eq_some_iff.1 h2).1 ?_).trans h2, World.ownsRow.turn h3 hg (fun r e => (hr r e).2)⟩, h6.turn hg hB hr⟩
  intro e
  obtain ⟨o, ho, hc⟩ := (hr b3 e.symm).2
  rw [h2] at ho
  injection ho with ho
  rw [← ho] at hc
  cases hc
set_option maxHeartbeats 4000000 in
set_option maxRecDepth 100000 in
theorem gtext_any (w : World) (lo p rb c : Nat) (H : List Hd) (h : GAt w lo p rb c H) (hl : H.length ≤ 600) (hR : ∀ x ∈ H, TxtOk x.R ∧ x.R.length ≤ 1000) :
    Calls Try.prog 38 #[gV p] w fun e w' => ∃ v, e = .returned v ∧ w'.ownsRow w.heap.size 9 1 v H.length (textsOf H) ∧ Below w.heap.size w w' := by
  obtain ⟨n, hn⟩ : ∃ n, n = H.length := ⟨_, rfl⟩
  have HN := Lib.hid hn
  obtain ⟨b3, hb3⟩ : ∃ b, b = w.heap.size := ⟨_, rfl⟩
  obtain ⟨w2, hw2⟩ : ∃ x, x = w.alloc (.cells #[.slice none 0 0] 86) := ⟨_, rfl⟩
  have B2 : Below w.heap.size w w2 := by rw [hw2]; exact (Below.refl _ _).alloc (Nat.le_refl _) _
  have q8 : w2.heap[b3]? = some (.cells #[.slice none 0 0] 86 (0, 0)) := by rw [hw2, hb3]; exact World.alloc_heap_new w _
  have HB2 := Lib.hid B2
  have HG2 := Lib.hid (h.below B2)
  have HNE := Lib.hid (show b3 = w.heap.size ∧ w2.heap.size = w.heap.size + 1 ∧ p < w.heap.size ∧ rb < w.heap.size ∧ n ≤ 600 from ⟨hb3, by rw [hw2]; simp, h.lt.1, h.lt.2.1, by omega⟩)
  have HYB := Lib.hid (show ∀ y ∈ H, ¬ y.b = b3 from fun y hy => by have := (h.2.2.2.lt hy).2; omega)
  have HRR := Lib.hid hR
  have HST := Lib.hid (show TexAt w2 b3 n H 0 w2 from ⟨Nat.zero_le _, ⟨_, q8, World.ownsRow_nil _ _ _ _⟩, Buts.refl _ _⟩)
  have hl' : n ≤ 1000 := by omega
  rw [← hn]
  clear B2 q8 h hl hR hn
  refine (callsIn_wide (n := 0)).1 ?_
  refine callsIn_of_wp_marks Try.func38 rfl trivial ?_ rfl
  simp only [Try.ntmps38, List.size_toArray, List.length_cons, List.length_nil, Nat.reduceAdd, Nat.reduceSub, Array.replicate_succ, Array.replicate_zero, List.push_toArray, List.append_toArray, List.nil_append, List.cons_append]
  gi_wp2
  rw [← hw2, ← hb3]
  clear hw2 hb3
  refine wp_range (gf := 49) (pre := #[gV p]) (post := #[]) rfl (enters_of Try.func49 (by kernel_rfl) rfl) (each_iter p rb c n H hl') (fun _ => rfl)
    (fun k W => TexAt w2 b3 n H k W ∧ GAt W lo p rb c H) (fun _ _ => False) ?hI ?hIx ?hH ?h0
    (fun k => { tmps := #[gV p, undef, .slice none 0 0, .pointer (some ⟨b3, 0, none⟩), undef, hdV (hdAt H k), gV p, .func (.func 49) #[gV p] #[], .int .i64 (k : Nat), hdV (hdAt H k), undef, undef, undef, undef, undef, undef], defers := [] }) ?assign ?body ?done ?stop
  case hI => exact fun k W W' row hs hg hr => ⟨hs.1.turn hg (Nat.le_refl _) hr, hs.2.turn hg (fun r e => (hr r e).2)⟩
  case hIx => exact fun _ _ _ _ hs _ _ => hs
  case hH =>
    rintro k W ⟨_, hg⟩
    exact ⟨fun _ => by rw [HN.out]; exact hg.cell, fun hlt => hg.head (by rw [← HN.out]; exact hlt)⟩
  case h0 => exact ⟨HST.out, HG2.out⟩
  case assign =>
    intro ll k W K hK
    gi_wp2
    exact hK
  case body =>
    rintro ll k W1 hk ⟨⟨hk', ⟨v, h8, ow⟩, bt⟩, hg⟩
    have hkH : k < H.length := by rw [← HN.out]; exact hk
    obtain ⟨y, hy⟩ : ∃ y, y = hdAt H k := ⟨_, rfl⟩
    have hyH : y ∈ H := by rw [hy, hdAt_eq hkH]; exact List.getElem_mem hkH
    have HROW := Lib.hid (show RowIn W1 (hdV y) y.R by rw [hy]; exact (hg.row hkH).row)
    have HTX := Lib.hid (HRR.out y hyH).1
    have HLEN := Lib.hid (HRR.out y hyH).2
    obtain ⟨tl, htl⟩ : ∃ tl, tl = (textsOf H).take k := ⟨_, rfl⟩
    rw [← htl] at ow
    have HTL := Lib.hid htl
    rw [← hy]
    have HY := Lib.hid hy
    have HKH := Lib.hid hkH
    have HKN := Lib.hid hk
    have HBT := Lib.hid bt
    have H8 := Lib.hid h8
    have HOW := Lib.hid ow
    have L8 := Lib.hid (show b3 < W1.heap.size from (Array.getElem?_eq_some_iff.1 h8).1)
    have C8 := Lib.hid (show W1.cell? ⟨b3, 0, none⟩ = some v by rw [cell_of_row W1 b3 0 _ _ _ h8]; simp)
    have HW2 := Lib.hid bt.size
    have HLN := Lib.hid (show k ≤ 100000 by have := HNE.out; omega)
    have HVB := Lib.hid (show ∀ j, v.ownBlock = some j → w2.heap.size ≤ j from fun j hj => (ow.lt j hj).1)
    have HVC := Lib.hid (show ∀ X, Below W1.heap.size W1 X → ∀ j, v.ownBlock = some j → ∃ cu, X.heap[j]? = some (.cells cu 9 (0, 0)) from fun X bx j hj => by
      rcases (own_below ow bx).2 with ⟨e, _⟩ | ⟨g', cap, cu, e, _, hgg, _⟩
      · rw [e] at hj; cases hj
      · rw [e] at hj
        have : g' = j := by simpa [Value.ownBlock] using hj
        subst this
        exact ⟨cu, hgg⟩)
    have HGG := Lib.hid hg
    have HX := Lib.hid (show Below W1.heap.size W1 W1.drew from (Below.refl _ _).drew)
    clear hk hk' h8 ow bt hkH hg hy hyH htl
    refine wpIn_block ?_
    refine region_round ll 0 (S := fun _ => True) (by kernel_rfl) (by kernel_rfl) (shut_block _ (roundEnd_shut _ _ _ _ _)) ?_ (fun hHeld => ?_)
    · trivial
    refine tk 1 rfl (fun w hSw => by (try dsimp only at hSw); go_simp; try with_reducible rfl) ?_
    go_frame
    refine two_at (i := 0) (j := 2) rfl rfl (by kernel_rfl) (by kernel_rfl) (by kernel_rfl) (fun K hK => ?_) (fun K hK => ?_)
    · have hc8 : W1.drew.cell? ⟨b3, 0, none⟩ = some v := (HX.out.cell (p := ⟨b3, 0, none⟩) L8.out).trans C8.out
      go_simp
      clear hc8
      refine hK.out _ _ ?_ (fun hHeld => ?_)
      · trivial
      clear hK K
      try go_frame
      refine do_at (i := 2) rfl (by kernel_rfl) (by kernel_rfl) (fun K hK => ?_)
      go_simp
      refine (text_any W1.drew _ y.R (HROW.out.below HX.out) HTX.out HLEN.out).mono ?_
      rintro e wc ⟨rfl, bc⟩
      replace HX := Lib.hid (HX.out.trans (bc.mono HX.out.size))
      clear bc
      obtain ⟨st, hst⟩ : ∃ st : ByteArray, st = ⟨(textM y.R).toArray⟩ := ⟨_, rfl⟩
      rw [← hst]
      have HS := Lib.hid hst
      clear hst
      go_wp2_with fail
      refine hK.out _ _ ?_ (fun hHeld => ?_)
      · trivial
      clear hK K
      try go_frame
      refine do_at (i := 3) rfl (by kernel_rfl) (by kernel_rfl) (fun K hK => ?_)
      obtain ⟨q, hq⟩ : ∃ q, q = wc.heap.size := ⟨_, rfl⟩
      obtain ⟨wb, hwb⟩ : ∃ X, X = wc.alloc (.cells #[.string st] 9) := ⟨_, rfl⟩
      have bb : Below wc.heap.size wc wb := by rw [hwb]; exact (Below.refl _ _).alloc (Nat.le_refl _) _
      have HI := Lib.hid (show wb.cell? ⟨q, 0, none⟩ = some (.string st) by rw [hwb, hq]; simp)
      replace HX := Lib.hid (HX.out.trans (bb.mono HX.out.size))
      clear bb
      go_simp
      rw [← hwb, ← hq]
      clear hwb hq
      refine hK.out _ _ ?_ (fun hHeld => ?_)
      · trivial
      clear hK K
      try go_frame
      refine do_at (i := 4) rfl (by kernel_rfl) (by kernel_rfl) (fun K hK => ?_)
      refine wp_append_str (.tmp 10) (.tmp 13) rfl w2.heap.size v k tl rfl (own_below HOW.out HX.out) q st rfl HI.out HLN.out (Nat.le_trans HW2.out HX.out.size) ?_
      intro v' wa ga growa
      have hsh : ∃ va ln vc, v' = .slice va ln vc := by
          rcases ga.2 with ⟨rfl, _⟩ | ⟨g, cap, cur, rfl, _⟩
          · exact ⟨_, _, _, rfl⟩
          · exact ⟨_, _, _, rfl⟩
      obtain ⟨va, ln, vc, rfl⟩ := hsh
      have HGA := Lib.hid ga
      have HGW := Lib.hid (show Buts (· = b3) w2 wa from ⟨growa.os.trans (HX.out.os.trans HBT.out.os), growa.tape.trans (HX.out.tape.trans HBT.out.tape), growa.output.trans (HX.out.output.trans HBT.out.output), Nat.le_trans HBT.out.size (Nat.le_trans HX.out.size growa.size), fun j hj hn => by rw [growa.block j (Nat.lt_of_lt_of_le (Nat.lt_of_lt_of_le hj HBT.out.size) HX.out.size) (fun e => by have := HVB.out j e.symm; omega), HX.out.block j (Nat.lt_of_lt_of_le hj HBT.out.size), HBT.out.block j hj hn]⟩)
      have HKO := Lib.hid (show KeepsOthers W1 wa from (keeps_below HX.out).trans (KeepsOthers.of_grownBy growa (fun j o e ho => by obtain ⟨cu, hcu⟩ := HVC.out wb HX.out j e; rw [hcu] at ho; injection ho with ho; rw [← ho]; rfl)))
      have H8A := Lib.hid (show wa.heap[b3]? = some (.cells #[v] 86 (0, 0)) from (growa.block b3 (Nat.lt_of_lt_of_le L8.out HX.out.size) (fun e => by have := HVB.out b3 e.symm; have := HNE.out; omega)).trans ((HX.out.block b3 L8.out).trans H8.out))
      clear ga growa
      refine hK.out _ _ ?_ (fun hHeld => ?_)
      · trivial
      clear hK K
      try go_frame
      refine do_at (i := 5) rfl (by kernel_rfl) (by kernel_rfl) (fun K hK => ?_)
      have hc8 : wa.cell? ⟨b3, 0, none⟩ = some v := by rw [cell_of_row wa b3 0 _ _ _ H8A.out]; simp
      have hf8 : wa.frozen? ⟨b3, 0, none⟩ = false := frozen_of_row wa b3 0 _ _ H8A.out
      go_simp
      clear hc8 hf8
      refine hK.out _ _ ?_ (fun hHeld => ?_)
      · trivial
      clear hK K
      try go_frame
      refine wpAnyH_done (by kernel_rfl) ?_ _
      have ha8 := heap_set1 (v := .slice va ln vc) H8A.out
      refine ⟨(HKO.out.trans (KeepsOthers.setCell _ _ _)).from _, ⟨by have := HKN.out; omega, ⟨_, ha8, ?_⟩, HGW.out.trans (Buts.but (S := (· = b3)) (But.set wa b3 0 _) rfl)⟩, HG2.out.buts (HGW.out.trans (Buts.but (S := (· = b3)) (But.set wa b3 0 _) rfl)) (by have := HNE.out; omega) (by have := HNE.out; omega) HYB.out⟩
      have e : (textsOf H).take (k + 1) = tl ++ [.string st] := by
        rw [HTL.out, List.take_succ_eq_append_getElem (by unfold textsOf; rw [List.length_map]; exact HKH.out), HS.out]
        unfold textsOf
        rw [List.getElem_map, ← hdAt_eq HKH.out, ← HY.out]
      rw [e]
      refine HGA.out.kept (But.set wa b3 0 _) (.inr ?_)
      intro e'
      have := (HGA.out.lt b3 e').1
      have := HNE.out
      omega
    · go_simp
      refine (text_any W1.drew _ y.R (HROW.out.below HX.out) HTX.out HLEN.out).mono ?_
      rintro e wc ⟨rfl, bc⟩
      replace HX := Lib.hid (HX.out.trans (bc.mono HX.out.size))
      clear bc
      obtain ⟨st, hst⟩ : ∃ st : ByteArray, st = ⟨(textM y.R).toArray⟩ := ⟨_, rfl⟩
      rw [← hst]
      have HS := Lib.hid hst
      clear hst
      go_wp2_with fail
      refine hK.out _ _ ?_ (fun hHeld => ?_)
      · trivial
      clear hK K
      try go_frame
      refine two_at (i := 0) (j := 3) rfl rfl (by kernel_rfl) (by kernel_rfl) (by kernel_rfl) (fun K hK => ?_) (fun K hK => ?_)
      · have hc8 : wc.cell? ⟨b3, 0, none⟩ = some v := (HX.out.cell (p := ⟨b3, 0, none⟩) L8.out).trans C8.out
        go_simp
        clear hc8
        refine hK.out _ _ ?_ (fun hHeld => ?_)
        · trivial
        clear hK K
        try go_frame
        refine do_at (i := 3) rfl (by kernel_rfl) (by kernel_rfl) (fun K hK => ?_)
        obtain ⟨q, hq⟩ : ∃ q, q = wc.heap.size := ⟨_, rfl⟩
        obtain ⟨wb, hwb⟩ : ∃ X, X = wc.alloc (.cells #[.string st] 9) := ⟨_, rfl⟩
        have bb : Below wc.heap.size wc wb := by rw [hwb]; exact (Below.refl _ _).alloc (Nat.le_refl _) _
        have HI := Lib.hid (show wb.cell? ⟨q, 0, none⟩ = some (.string st) by rw [hwb, hq]; simp)
        replace HX := Lib.hid (HX.out.trans (bb.mono HX.out.size))
        clear bb
        go_simp
        rw [← hwb, ← hq]
        clear hwb hq
        refine hK.out _ _ ?_ (fun hHeld => ?_)
        · trivial
        clear hK K
        try go_frame
        refine do_at (i := 4) rfl (by kernel_rfl) (by kernel_rfl) (fun K hK => ?_)
        refine wp_append_str (.tmp 10) (.tmp 13) rfl w2.heap.size v k tl rfl (own_below HOW.out HX.out) q st rfl HI.out HLN.out (Nat.le_trans HW2.out HX.out.size) ?_
        intro v' wa ga growa
        have hsh : ∃ va ln vc, v' = .slice va ln vc := by
          rcases ga.2 with ⟨rfl, _⟩ | ⟨g, cap, cur, rfl, _⟩
          · exact ⟨_, _, _, rfl⟩
          · exact ⟨_, _, _, rfl⟩
        obtain ⟨va, ln, vc, rfl⟩ := hsh
        have HGA := Lib.hid ga
        have HGW := Lib.hid (show Buts (· = b3) w2 wa from ⟨growa.os.trans (HX.out.os.trans HBT.out.os), growa.tape.trans (HX.out.tape.trans HBT.out.tape), growa.output.trans (HX.out.output.trans HBT.out.output), Nat.le_trans HBT.out.size (Nat.le_trans HX.out.size growa.size), fun j hj hn => by rw [growa.block j (Nat.lt_of_lt_of_le (Nat.lt_of_lt_of_le hj HBT.out.size) HX.out.size) (fun e => by have := HVB.out j e.symm; omega), HX.out.block j (Nat.lt_of_lt_of_le hj HBT.out.size), HBT.out.block j hj hn]⟩)
        have HKO := Lib.hid (show KeepsOthers W1 wa from (keeps_below HX.out).trans (KeepsOthers.of_grownBy growa (fun j o e ho => by obtain ⟨cu, hcu⟩ := HVC.out wb HX.out j e; rw [hcu] at ho; injection ho with ho; rw [← ho]; rfl)))
        have H8A := Lib.hid (show wa.heap[b3]? = some (.cells #[v] 86 (0, 0)) from (growa.block b3 (Nat.lt_of_lt_of_le L8.out HX.out.size) (fun e => by have := HVB.out b3 e.symm; have := HNE.out; omega)).trans ((HX.out.block b3 L8.out).trans H8.out))
        clear ga growa
        refine hK.out _ _ ?_ (fun hHeld => ?_)
        · trivial
        clear hK K
        try go_frame
        refine do_at (i := 5) rfl (by kernel_rfl) (by kernel_rfl) (fun K hK => ?_)
        have hc8 : wa.cell? ⟨b3, 0, none⟩ = some v := by rw [cell_of_row wa b3 0 _ _ _ H8A.out]; simp
        have hf8 : wa.frozen? ⟨b3, 0, none⟩ = false := frozen_of_row wa b3 0 _ _ H8A.out
        go_simp
        clear hc8 hf8
        refine hK.out _ _ ?_ (fun hHeld => ?_)
        · trivial
        clear hK K
        try go_frame
        refine wpAnyH_done (by kernel_rfl) ?_ _
        have ha8 := heap_set1 (v := .slice va ln vc) H8A.out
        refine ⟨(HKO.out.trans (KeepsOthers.setCell _ _ _)).from _, ⟨by have := HKN.out; omega, ⟨_, ha8, ?_⟩, HGW.out.trans (Buts.but (S := (· = b3)) (But.set wa b3 0 _) rfl)⟩, HG2.out.buts (HGW.out.trans (Buts.but (S := (· = b3)) (But.set wa b3 0 _) rfl)) (by have := HNE.out; omega) (by have := HNE.out; omega) HYB.out⟩
        have e : (textsOf H).take (k + 1) = tl ++ [.string st] := by
          rw [HTL.out, List.take_succ_eq_append_getElem (by unfold textsOf; rw [List.length_map]; exact HKH.out), HS.out]
          unfold textsOf
          rw [List.getElem_map, ← hdAt_eq HKH.out, ← HY.out]
        rw [e]
        refine HGA.out.kept (But.set wa b3 0 _) (.inr ?_)
        intro e'
        have := (HGA.out.lt b3 e').1
        have := HNE.out
        omega
      · obtain ⟨q, hq⟩ : ∃ q, q = wc.heap.size := ⟨_, rfl⟩
        obtain ⟨wb, hwb⟩ : ∃ X, X = wc.alloc (.cells #[.string st] 9) := ⟨_, rfl⟩
        have bb : Below wc.heap.size wc wb := by rw [hwb]; exact (Below.refl _ _).alloc (Nat.le_refl _) _
        have HI := Lib.hid (show wb.cell? ⟨q, 0, none⟩ = some (.string st) by rw [hwb, hq]; simp)
        replace HX := Lib.hid (HX.out.trans (bb.mono HX.out.size))
        clear bb
        go_simp
        rw [← hwb, ← hq]
        clear hwb hq
        refine hK.out _ _ ?_ (fun hHeld => ?_)
        · trivial
        clear hK K
        try go_frame
        refine do_at (i := 0) rfl (by kernel_rfl) (by kernel_rfl) (fun K hK => ?_)
        have hc8 : wb.cell? ⟨b3, 0, none⟩ = some v := (HX.out.cell (p := ⟨b3, 0, none⟩) L8.out).trans C8.out
        go_simp
        clear hc8
        refine hK.out _ _ ?_ (fun hHeld => ?_)
        · trivial
        clear hK K
        try go_frame
        refine do_at (i := 4) rfl (by kernel_rfl) (by kernel_rfl) (fun K hK => ?_)
        refine wp_append_str (.tmp 10) (.tmp 13) rfl w2.heap.size v k tl rfl (own_below HOW.out HX.out) q st rfl HI.out HLN.out (Nat.le_trans HW2.out HX.out.size) ?_
        intro v' wa ga growa
        have hsh : ∃ va ln vc, v' = .slice va ln vc := by
          rcases ga.2 with ⟨rfl, _⟩ | ⟨g, cap, cur, rfl, _⟩
          · exact ⟨_, _, _, rfl⟩
          · exact ⟨_, _, _, rfl⟩
        obtain ⟨va, ln, vc, rfl⟩ := hsh
        have HGA := Lib.hid ga
        have HGW := Lib.hid (show Buts (· = b3) w2 wa from ⟨growa.os.trans (HX.out.os.trans HBT.out.os), growa.tape.trans (HX.out.tape.trans HBT.out.tape), growa.output.trans (HX.out.output.trans HBT.out.output), Nat.le_trans HBT.out.size (Nat.le_trans HX.out.size growa.size), fun j hj hn => by rw [growa.block j (Nat.lt_of_lt_of_le (Nat.lt_of_lt_of_le hj HBT.out.size) HX.out.size) (fun e => by have := HVB.out j e.symm; omega), HX.out.block j (Nat.lt_of_lt_of_le hj HBT.out.size), HBT.out.block j hj hn]⟩)
        have HKO := Lib.hid (show KeepsOthers W1 wa from (keeps_below HX.out).trans (KeepsOthers.of_grownBy growa (fun j o e ho => by obtain ⟨cu, hcu⟩ := HVC.out wb HX.out j e; rw [hcu] at ho; injection ho with ho; rw [← ho]; rfl)))
        have H8A := Lib.hid (show wa.heap[b3]? = some (.cells #[v] 86 (0, 0)) from (growa.block b3 (Nat.lt_of_lt_of_le L8.out HX.out.size) (fun e => by have := HVB.out b3 e.symm; have := HNE.out; omega)).trans ((HX.out.block b3 L8.out).trans H8.out))
        clear ga growa
        refine hK.out _ _ ?_ (fun hHeld => ?_)
        · trivial
        clear hK K
        try go_frame
        refine do_at (i := 5) rfl (by kernel_rfl) (by kernel_rfl) (fun K hK => ?_)
        have hc8 : wa.cell? ⟨b3, 0, none⟩ = some v := by rw [cell_of_row wa b3 0 _ _ _ H8A.out]; simp
        have hf8 : wa.frozen? ⟨b3, 0, none⟩ = false := frozen_of_row wa b3 0 _ _ H8A.out
        go_simp
        clear hc8 hf8
        refine hK.out _ _ ?_ (fun hHeld => ?_)
        · trivial
        clear hK K
        try go_frame
        refine wpAnyH_done (by kernel_rfl) ?_ _
        have ha8 := heap_set1 (v := .slice va ln vc) H8A.out
        refine ⟨(HKO.out.trans (KeepsOthers.setCell _ _ _)).from _, ⟨by have := HKN.out; omega, ⟨_, ha8, ?_⟩, HGW.out.trans (Buts.but (S := (· = b3)) (But.set wa b3 0 _) rfl)⟩, HG2.out.buts (HGW.out.trans (Buts.but (S := (· = b3)) (But.set wa b3 0 _) rfl)) (by have := HNE.out; omega) (by have := HNE.out; omega) HYB.out⟩
        have e : (textsOf H).take (k + 1) = tl ++ [.string st] := by
          rw [HTL.out, List.take_succ_eq_append_getElem (by unfold textsOf; rw [List.length_map]; exact HKH.out), HS.out]
          unfold textsOf
          rw [List.getElem_map, ← hdAt_eq HKH.out, ← HY.out]
        rw [e]
        refine HGA.out.kept (But.set wa b3 0 _) (.inr ?_)
        intro e'
        have := (HGA.out.lt b3 e').1
        have := HNE.out
        omega
  case done =>
    rintro D W hD ⟨⟨_, ⟨v, h8, ow⟩, bt⟩, hg⟩ hK
    have q8 : W.cell? ⟨b3, 0, none⟩ = some v := by rw [cell_of_row W b3 0 _ _ _ h8]; simp
    have tg := grownBy_putObj' W D (.deferred none)
    have tr : ∀ r', some D = some r' → ∃ o : Obj, W.heap[r']? = some o ∧ o.isCells = false := fun r' e => by cases e; exact ⟨_, hK, rfl⟩
    have HOW := Lib.hid (show (W.putObj D (.deferred none)).ownsRow w.heap.size 9 1 v n (textsOf H) by
      have := World.ownsRow.turn ow tg tr
      rw [List.take_of_length_le (by unfold textsOf; rw [List.length_map, HN.out]; exact Nat.le_refl _)] at this
      exact own_lower this HB2.out.size)
    have HBW := Lib.hid (show Below w.heap.size w (W.putObj D (.deferred none)) from (HB2.out.trans (bt.below (fun i hi => by have := HNE.out; omega) HB2.out.size)).grown tg (Nat.le_trans HB2.out.size bt.size) (fun r' e => by cases e; exact Nat.le_trans HB2.out.size hD))
    have HKD := Lib.hid hK
    clear h8 ow bt hK tg tr hg
    gi_wp2
    refine ⟨by simp, .inl ⟨_, _, rfl, run_takeDeferred HKD.out, ?_⟩⟩
    exact ⟨_, results_tmp rfl _ _ _, v, rfl, HOW.out, HBW.out⟩
  case stop => rintro D cc W _ h _; exact h.elim
end Go.Proofs.Ytdeahnphcfcfpaa.Lab
