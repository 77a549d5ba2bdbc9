/- The project's All of a ring. -/
import Derived.Test.YtnefamgjlhdffaaRgKept
import Derived.Test.YtnefamgjlhdffaaRgPush
set_option linter.unusedVariables false
namespace Go.Proofs.Ytnefamgjlhdffaa.Lab
open Go Go.RowKit Go.Shelf
attribute [local go_sem] Oper.semAt_some

/-- A header, appended to headers of the call's own. -/
theorem wp_append_any {o : Oper} {a : Act} {w : World} {K : Act → World → Prop} {Q : Exit → Act → World → Prop} (s x : Operand)
    (hop : o.op = Op.call { callee := Callee.builtin Builtin.append, args := #[s, x], argTypes := #[27, 27] })
    (base : Nat) (v : Value) (n : Nat) (l : List Value) (hs : a.eval s = v) (hown : w.ownsRow base 38 1 v n l)
    (q : Nat) (u : Value) (hx : a.eval x = .slice (some ⟨q, 0, none⟩) 1 1) (hr : w.cell? ⟨q, 0, none⟩ = some u) (hu : u.oneCell' = true) (hnr : n ≤ 100000) (hb : base ≤ w.heap.size)
    (hK : ∀ v' w', w'.ownsRow base 38 1 v' (n + 1) (l ++ [u]) → w.grownBy w' v.ownBlock → K (a.put o.dst v') w') :
    Oper.wp Try.prog o a w K Q := by
  obtain ⟨ib, hi, hz0, hz1, hz2⟩ := info_parts infoRow
  refine wp_append_own w s x 27 hop base 38 ib (.slice none 0 0) 1 24 Try.underlying27 hi hz0 hz1 hz2 rfl (by decide) v n l hs hown ⟨q, 0, none⟩ 1 1 [u] hx rfl (fun j y hj => ?_) (fun y hy => by rw [List.mem_singleton.1 hy]; exact hu) (by unfold maxLen; omega) (by omega) hb (fun v' w' h1 h2 _ => hK v' w' h1 h2)
  have : j < 1 := (List.getElem?_eq_some_iff.1 hj).1
  obtain rfl : j = 0 := by omega
  obtain rfl : u = y := by simpa using hj
  exact hr
/-- Copies of rows gathered behind a pointer b. -/
def AllAt (w2 : World) (b k : Nat) (K : List Ln) (W : World) : Prop :=
  Buts (· = b) w2 W ∧ ∃ v Kp, W.heap[b]? = some (.cells #[v] 27 (0, 0)) ∧ W.ownsRow w2.heap.size 38 1 v Kp.length (vls Kp) ∧ LsOk W Kp ∧ rws Kp = (rws K).take k ∧ Apart Kp ∧ Foot Kp (w2.heap.size ≤ ·)
theorem AllAt.turn {w2 W W' : World} {b k B : Nat} {K : List Ln} {row : Option Nat} (h : AllAt w2 b k K W) (hg : W.grownBy W' row) (hB : w2.heap.size ≤ B) (hr : ∀ r, row = some r → B ≤ r ∧ ∃ o : Obj, W.heap[r]? = some o ∧ o.isCells = false) : AllAt w2 b k K W' := by
  obtain ⟨h1, v, Kp, h2, h3, h4, h5⟩ := h
  refine ⟨h1.turn hg hB hr, v, Kp, (hg.block b (Array.getElem?_eq_some_iff.1 h2).1 ?_).trans h2, World.ownsRow.turn h3 hg (fun r e => (hr r e).2), h4.turn hg (fun r e => (hr r e).2), h5⟩
  intro e
  obtain ⟨o, ho, hc⟩ := (hr b e.symm).2
  rw [h2] at ho
  injection ho with ho
  rw [← ho] at hc
  cases hc
set_option maxHeartbeats 8000000 in
set_option maxRecDepth 100000 in
theorem all_of (w : World) (rv : Value) (N : Nat) (K : List Ln) (Hr : Nat → World → Prop) (hN : K.length = N) (hit : IterA Try.prog 43 #[rv] #[] N (fun k => #[(lnK K k).v]) Hr)
    (hHr : ∀ W, Buts (fun j => w.heap.size ≤ j) w W → ∀ k, Hr k W) (hRow : ∀ W, Buts (fun j => w.heap.size ≤ j) w W → ∀ x ∈ K, RowIn W x.v x.R ∧ x.R.length ≤ 1000) (hl : N ≤ 1000) :
    Calls Try.prog 22 #[rv] w fun e w' => ∃ v K', e = .returned v ∧ rws K' = rws K ∧ Rows1 (fun j => w.heap.size ≤ j ∧ j < w'.heap.size) w' v K' ∧ Below w.heap.size w w' := by
  obtain ⟨b3, hb3⟩ : ∃ b, b = w.heap.size := ⟨_, rfl⟩
  obtain ⟨w2, hw2⟩ : ∃ x, x = w.alloc (.cells #[.slice none 0 0] 27) := ⟨_, rfl⟩
  have B2 : Below w.heap.size w w2 := by rw [hw2]; exact (Below.refl _ _).alloc (Nat.le_refl _) _
  have q8 : w2.heap[b3]? = some (.cells #[.slice none 0 0] 27 (0, 0)) := by rw [hw2, hb3]; exact World.alloc_heap_new w _
  have HB2 := Lib.hid B2
  have HNE := Lib.hid (show b3 = w.heap.size ∧ w2.heap.size = w.heap.size + 1 ∧ N ≤ 1000 from ⟨hb3, by rw [hw2]; simp, hl⟩)
  have HST := Lib.hid (show AllAt w2 b3 0 K w2 from ⟨Buts.refl _ _, _, [], q8, World.ownsRow_nil _ _ _ 1, LsOk.nil _, rfl, Apart.nil, Foot.nil _⟩)
  have HN := Lib.hid hN
  have HIT := Lib.hid hit
  have HHR := Lib.hid (show ∀ W, Buts (· = b3) w2 W → ∀ k, Hr k W from fun W hb k => hHr W ((Buts.of B2).trans' hb (fun j hj (e : j = b3) => by omega)) k)
  have HRW := Lib.hid (show ∀ W, Buts (· = b3) w2 W → ∀ x ∈ K, RowIn W x.v x.R ∧ x.R.length ≤ 1000 from fun W hb => hRow W ((Buts.of B2).trans' hb (fun j hj (e : j = b3) => by omega)))
  clear B2 q8 hl hN hit hHr hRow
  refine (callsIn_wide (n := 0)).1 ?_
  refine callsIn_of_wp_marks Try.func22 rfl trivial ?_ rfl
  simp only [Try.ntmps22, List.size_toArray, List.length_cons, List.length_nil, Nat.reduceAdd, Nat.reduceSub, Array.replicate_succ, Array.replicate_zero, List.push_toArray, List.append_toArray, List.nil_append, List.cons_append]
  gi_wp2
  rw [← hw2, ← hb3]
  clear hw2 hb3
  refine wp_rangeA (gf := 43) (pre := #[rv]) (post := #[]) rfl (enters_of Try.func43 (by kernel_rfl) rfl) HIT.out (fun _ => rfl)
    (fun k W => AllAt w2 b3 k K W)
    (fun k a' W => a' = { tmps := #[rv, undef, .slice none 0 0, .pointer (some ⟨b3, 0, none⟩), (lnK K k).v, rv, eachF rv, (lnK K k).v, undef, undef, undef, undef, undef, undef], defers := [] } ∧ AllAt w2 b3 k K W)
    ?hI ?hA ?hH ?h0 ?assign ?body ?done
  case hI => exact fun k W W' row hs hg hr => hs.turn hg (Nat.le_refl _) hr
  case hA => exact fun k a' _ W W' row hs hg hr => ⟨hs.1, hs.2.turn hg (Nat.le_refl _) hr⟩
  case hH => exact fun k W hs => HHR.out W hs.1 k
  case h0 => exact HST.out
  case assign =>
    intro ll k W Kk hk hW hI hK
    have HK := Lib.hid hK
    have HI := Lib.hid hI
    obtain ⟨xa, xn, xc, hx⟩ : ∃ a n c, (lnK K k).v = .slice a n c := by
      obtain ⟨a, c, e⟩ := (HRW.out W hI.1 (lnK K k) (by rw [lnK_eq (by rw [HN.out]; exact hk)]; exact List.getElem_mem _)).1.shape
      exact ⟨a, _, c, e⟩
    have HX := Lib.hid hx
    rw [hx]
    clear hK hI hx
    gi_wp2
    exact HK.out _ _ (KeepsFrom.refl _ _) ⟨by rw [HX.out], HI.out⟩
  case body =>
    rintro ll k a' W1 hk hW ⟨rfl, bt, v, Kp, h8, ow, hok, hrk, hap, hft⟩
    have hkK : k < K.length := by rw [HN.out]; exact hk
    obtain ⟨y, hy⟩ : ∃ y, y = lnK K k := ⟨_, rfl⟩
    have hyK : y ∈ K := by rw [hy, lnK_eq hkK]; exact List.getElem_mem _
    have hrw := HRW.out W1 bt y hyK
    have HROW := Lib.hid hrw.1
    have HLEN := Lib.hid hrw.2
    have HTK := Lib.hid (show (rws K).take k ++ rws [⟨.slice none 0 0, y.R⟩] = (rws K).take (k + 1) by
      rw [List.take_succ_eq_append_getElem (by rw [List.length_map]; exact hkK), hy, lnK_eq hkK]
      simp [rws])
    have hkl : Kp.length = k := by
      have := congrArg List.length hrk
      rw [List.length_map, List.length_take, List.length_map] at this
      omega
    have HKL := Lib.hid hkl
    obtain ⟨us, hus⟩ : ∃ us, us = vls Kp := ⟨_, rfl⟩
    rw [hkl, ← hus] at ow
    have HUS := Lib.hid hus
    have HRK := Lib.hid hrk
    have HOK := Lib.hid hok
    have HAP := Lib.hid hap
    have HFT := Lib.hid hft
    rw [← hy]
    have HOW := Lib.hid ow
    have HBT := Lib.hid bt
    have H8 := Lib.hid h8
    have L8 := Lib.hid (show b3 < W1.heap.size from (Array.getElem?_eq_some_iff.1 h8).1)
    have C8 := Lib.hid (show W1.cell? ⟨b3, 0, none⟩ = some v by rw [cell_of_row W1 b3 0 _ _ _ h8]; simp)
    have HW2 := Lib.hid bt.size
    have HLN := Lib.hid (show k ≤ 100000 by have := HNE.out; omega)
    have HVB := Lib.hid (show ∀ j, v.ownBlock = some j → w2.heap.size ≤ j from fun j hj => (ow.lt j hj).1)
    have HX := Lib.hid (show Below W1.heap.size W1 W1.drew from (Below.refl _ _).drew)
    clear hk hW h8 ow bt hkK hyK hrw hus hy hrk hok hap hft hkl
    refine wpIn_block ?_
    refine region_round ll 0 (S := fun _ => True) (by kernel_rfl) (by kernel_rfl) (shut_block _ (endA_shut _ _ _ _)) ?_ (fun hHeld => ?_)
    · trivial
    refine tk 1 rfl (fun w hSw => by (try dsimp only at hSw); go_simp; try with_reducible rfl) ?_
    go_frame
    refine two_at (i := 0) (j := 2) rfl rfl (by kernel_rfl) (by kernel_rfl) (by kernel_rfl) (fun K hK => ?_) (fun K hK => ?_)
    · have hc8 : W1.drew.cell? ⟨b3, 0, none⟩ = some v := (HX.out.cell (p := ⟨b3, 0, none⟩) L8.out).trans C8.out
      go_simp
      clear hc8
      refine hK.out _ _ ?_ (fun hHeld => ?_)
      · trivial
      clear hK K
      try go_frame
      refine do_at (i := 2) rfl (by kernel_rfl) (by kernel_rfl) (fun K hK => ?_)
      go_simp
      refine (clone_any W1.drew _ y.R (HROW.out.below HX.out) (by have := HLEN.out; omega)).mono ?_
      rintro e wc ⟨u, rfl, ow, bc⟩
      have HO := Lib.hid (show CRow wc W1.heap.size u y.R from ow.lower HX.out.size)
      replace HX := Lib.hid (HX.out.trans (bc.mono HX.out.size))
      obtain ⟨ua, uc, hu⟩ := own_shape ow
      subst hu
      clear bc ow
      go_wp2_with fail
      refine hK.out _ _ ?_ (fun hHeld => ?_)
      · trivial
      clear hK K
      try go_frame
      refine do_at (i := 3) rfl (by kernel_rfl) (by kernel_rfl) (fun K hK => ?_)
      obtain ⟨q, hq⟩ : ∃ q, q = wc.heap.size := ⟨_, rfl⟩
      obtain ⟨wb, hwb⟩ : ∃ X, X = wc.alloc (.cells #[.slice ua y.R.length uc] 38) := ⟨_, rfl⟩
      have HBB := Lib.hid (show Below wc.heap.size wc wb by rw [hwb]; exact (Below.refl _ _).alloc (Nat.le_refl _) _)
      have HI := Lib.hid (show wb.cell? ⟨q, 0, none⟩ = some (.slice ua y.R.length uc) by rw [hwb, hq]; simp)
      replace HX := Lib.hid (HX.out.trans (HBB.out.mono HX.out.size))
      have HOB := Lib.hid (HO.out.below HBB.out)
      go_simp
      rw [← hwb, ← hq]
      clear hwb hq
      refine hK.out _ _ ?_ (fun hHeld => ?_)
      · trivial
      clear hK K
      try go_frame
      refine do_at (i := 4) rfl (by kernel_rfl) (by kernel_rfl) (fun K hK => ?_)
      refine wp_append_any (.tmp 8) (.tmp 11) rfl w2.heap.size v k us rfl (own_below HOW.out HX.out) q (.slice ua y.R.length uc) rfl HI.out rfl HLN.out (Nat.le_trans HW2.out HX.out.size) ?_
      intro v' wa ga growa
      obtain ⟨va, vc, hv⟩ := own_shape ga
      subst hv
      have HGA := Lib.hid ga
      have HGW := Lib.hid (show Buts (· = b3) w2 wa from (HBT.out.trans (Buts.of HX.out)).trans' (Buts.grown (S := fun j => w2.heap.size ≤ j) growa (fun j hj => HVB.out j hj)) (fun j hj hs => by omega))
      have HKO := Lib.hid (show KeepsOthers W1 wa from (keeps_below HX.out).trans (KeepsOthers.of_grownBy growa (fun j o e ho => by
        obtain ⟨cu, hcu⟩ := own_type (own_below HOW.out HX.out) e
        rw [hcu] at ho; injection ho with ho; rw [← ho]; rfl)))
      have H8A := Lib.hid (show wa.heap[b3]? = some (.cells #[v] 27 (0, 0)) from (growa.block b3 (Nat.lt_of_lt_of_le L8.out HX.out.size) (fun e => by have := HVB.out b3 e.symm; have := HNE.out; omega)).trans ((HX.out.block b3 L8.out).trans H8.out))
      have HLS := Lib.hid (show LsOk wa (Kp ++ [⟨.slice ua y.R.length uc, y.R⟩]) from ((HOK.out.below HX.out).append (LsOk.one (HOB.out.lower (Nat.zero_le _)))).past growa (fun g hg => by
        obtain ⟨cu, hcu⟩ := own_type (own_below HOW.out HX.out) hg
        exact ⟨cu, _, _, hcu, by decide⟩))
      clear ga growa
      refine hK.out _ _ ?_ (fun hHeld => ?_)
      · trivial
      clear hK K
      try go_frame
      refine do_at (i := 5) rfl (by kernel_rfl) (by kernel_rfl) (fun K hK => ?_)
      have hc8 : wa.cell? ⟨b3, 0, none⟩ = some v := by rw [cell_of_row wa b3 0 _ _ _ H8A.out]; simp
      have hf8 : wa.frozen? ⟨b3, 0, none⟩ = false := frozen_of_row wa b3 0 _ _ H8A.out
      go_simp
      clear hc8 hf8
      refine hK.out _ _ ?_ (fun hHeld => ?_)
      · trivial
      clear hK K
      try go_frame
      refine wpAnyH_done (by kernel_rfl) ?_ _
      have ha8 := heap_setCell_same wa b3 0 _ _ (.slice va (k + 1) vc) H8A.out
      refine ⟨(HKO.out.trans (KeepsOthers.setCell _ _ _)).from _, HGW.out.trans (Buts.but (But.set wa b3 0 _) rfl), _, Kp ++ [⟨.slice ua y.R.length uc, y.R⟩], ha8, ?_, HLS.out.but H8A.out (by decide) (But.set wa b3 0 _), ?_, ?_, ?_⟩
      · rw [List.length_append, HKL.out, List.length_singleton, show vls (Kp ++ [⟨.slice ua y.R.length uc, y.R⟩]) = vls Kp ++ [.slice ua y.R.length uc] by simp [vls], ← HUS.out]
        refine HGA.out.kept (But.set wa b3 0 _) (.inr ?_)
        intro e'
        have := (HGA.out.lt b3 e').1
        have := HNE.out
        omega
      · rw [rws_append, HRK.out]
        exact HTK.out
      · refine HAP.out.add (X := fun j => j < W1.heap.size) HOK.out.lt (fun b hb hlt => ?_)
        have := (HOB.out.lt b hb).1
        omega
      · refine HFT.out.append (Foot.one fun b hb => ?_)
        have h1 := (HOB.out.lt b hb).1
        have h2 := HW2.out
        omega
    · go_simp
      refine (clone_any W1.drew _ y.R (HROW.out.below HX.out) (by have := HLEN.out; omega)).mono ?_
      rintro e wc ⟨u, rfl, ow, bc⟩
      have HO := Lib.hid (show CRow wc W1.heap.size u y.R from ow.lower HX.out.size)
      replace HX := Lib.hid (HX.out.trans (bc.mono HX.out.size))
      obtain ⟨ua, uc, hu⟩ := own_shape ow
      subst hu
      clear bc ow
      go_wp2_with fail
      refine hK.out _ _ ?_ (fun hHeld => ?_)
      · trivial
      clear hK K
      try go_frame
      refine two_at (i := 0) (j := 3) rfl rfl (by kernel_rfl) (by kernel_rfl) (by kernel_rfl) (fun K hK => ?_) (fun K hK => ?_)
      · have hc8 : wc.cell? ⟨b3, 0, none⟩ = some v := (HX.out.cell (p := ⟨b3, 0, none⟩) L8.out).trans C8.out
        go_simp
        clear hc8
        refine hK.out _ _ ?_ (fun hHeld => ?_)
        · trivial
        clear hK K
        try go_frame
        refine do_at (i := 3) rfl (by kernel_rfl) (by kernel_rfl) (fun K hK => ?_)
        obtain ⟨q, hq⟩ : ∃ q, q = wc.heap.size := ⟨_, rfl⟩
        obtain ⟨wb, hwb⟩ : ∃ X, X = wc.alloc (.cells #[.slice ua y.R.length uc] 38) := ⟨_, rfl⟩
        have HBB := Lib.hid (show Below wc.heap.size wc wb by rw [hwb]; exact (Below.refl _ _).alloc (Nat.le_refl _) _)
        have HI := Lib.hid (show wb.cell? ⟨q, 0, none⟩ = some (.slice ua y.R.length uc) by rw [hwb, hq]; simp)
        replace HX := Lib.hid (HX.out.trans (HBB.out.mono HX.out.size))
        have HOB := Lib.hid (HO.out.below HBB.out)
        go_simp
        rw [← hwb, ← hq]
        clear hwb hq
        refine hK.out _ _ ?_ (fun hHeld => ?_)
        · trivial
        clear hK K
        try go_frame
        refine do_at (i := 4) rfl (by kernel_rfl) (by kernel_rfl) (fun K hK => ?_)
        refine wp_append_any (.tmp 8) (.tmp 11) rfl w2.heap.size v k us rfl (own_below HOW.out HX.out) q (.slice ua y.R.length uc) rfl HI.out rfl HLN.out (Nat.le_trans HW2.out HX.out.size) ?_
        intro v' wa ga growa
        obtain ⟨va, vc, hv⟩ := own_shape ga
        subst hv
        have HGA := Lib.hid ga
        have HGW := Lib.hid (show Buts (· = b3) w2 wa from (HBT.out.trans (Buts.of HX.out)).trans' (Buts.grown (S := fun j => w2.heap.size ≤ j) growa (fun j hj => HVB.out j hj)) (fun j hj hs => by omega))
        have HKO := Lib.hid (show KeepsOthers W1 wa from (keeps_below HX.out).trans (KeepsOthers.of_grownBy growa (fun j o e ho => by
          obtain ⟨cu, hcu⟩ := own_type (own_below HOW.out HX.out) e
          rw [hcu] at ho; injection ho with ho; rw [← ho]; rfl)))
        have H8A := Lib.hid (show wa.heap[b3]? = some (.cells #[v] 27 (0, 0)) from (growa.block b3 (Nat.lt_of_lt_of_le L8.out HX.out.size) (fun e => by have := HVB.out b3 e.symm; have := HNE.out; omega)).trans ((HX.out.block b3 L8.out).trans H8.out))
        have HLS := Lib.hid (show LsOk wa (Kp ++ [⟨.slice ua y.R.length uc, y.R⟩]) from ((HOK.out.below HX.out).append (LsOk.one (HOB.out.lower (Nat.zero_le _)))).past growa (fun g hg => by
          obtain ⟨cu, hcu⟩ := own_type (own_below HOW.out HX.out) hg
          exact ⟨cu, _, _, hcu, by decide⟩))
        clear ga growa
        refine hK.out _ _ ?_ (fun hHeld => ?_)
        · trivial
        clear hK K
        try go_frame
        refine do_at (i := 5) rfl (by kernel_rfl) (by kernel_rfl) (fun K hK => ?_)
        have hc8 : wa.cell? ⟨b3, 0, none⟩ = some v := by rw [cell_of_row wa b3 0 _ _ _ H8A.out]; simp
        have hf8 : wa.frozen? ⟨b3, 0, none⟩ = false := frozen_of_row wa b3 0 _ _ H8A.out
        go_simp
        clear hc8 hf8
        refine hK.out _ _ ?_ (fun hHeld => ?_)
        · trivial
        clear hK K
        try go_frame
        refine wpAnyH_done (by kernel_rfl) ?_ _
        have ha8 := heap_setCell_same wa b3 0 _ _ (.slice va (k + 1) vc) H8A.out
        refine ⟨(HKO.out.trans (KeepsOthers.setCell _ _ _)).from _, HGW.out.trans (Buts.but (But.set wa b3 0 _) rfl), _, Kp ++ [⟨.slice ua y.R.length uc, y.R⟩], ha8, ?_, HLS.out.but H8A.out (by decide) (But.set wa b3 0 _), ?_, ?_, ?_⟩
        · rw [List.length_append, HKL.out, List.length_singleton, show vls (Kp ++ [⟨.slice ua y.R.length uc, y.R⟩]) = vls Kp ++ [.slice ua y.R.length uc] by simp [vls], ← HUS.out]
          refine HGA.out.kept (But.set wa b3 0 _) (.inr ?_)
          intro e'
          have := (HGA.out.lt b3 e').1
          have := HNE.out
          omega
        · rw [rws_append, HRK.out]
          exact HTK.out
        · refine HAP.out.add (X := fun j => j < W1.heap.size) HOK.out.lt (fun b hb hlt => ?_)
          have := (HOB.out.lt b hb).1
          omega
        · refine HFT.out.append (Foot.one fun b hb => ?_)
          have h1 := (HOB.out.lt b hb).1
          have h2 := HW2.out
          omega
      · obtain ⟨q, hq⟩ : ∃ q, q = wc.heap.size := ⟨_, rfl⟩
        obtain ⟨wb, hwb⟩ : ∃ X, X = wc.alloc (.cells #[.slice ua y.R.length uc] 38) := ⟨_, rfl⟩
        have HBB := Lib.hid (show Below wc.heap.size wc wb by rw [hwb]; exact (Below.refl _ _).alloc (Nat.le_refl _) _)
        have HI := Lib.hid (show wb.cell? ⟨q, 0, none⟩ = some (.slice ua y.R.length uc) by rw [hwb, hq]; simp)
        replace HX := Lib.hid (HX.out.trans (HBB.out.mono HX.out.size))
        have HOB := Lib.hid (HO.out.below HBB.out)
        go_simp
        rw [← hwb, ← hq]
        clear hwb hq
        refine hK.out _ _ ?_ (fun hHeld => ?_)
        · trivial
        clear hK K
        try go_frame
        refine do_at (i := 0) rfl (by kernel_rfl) (by kernel_rfl) (fun K hK => ?_)
        have hc8 : wb.cell? ⟨b3, 0, none⟩ = some v := (HX.out.cell (p := ⟨b3, 0, none⟩) L8.out).trans C8.out
        go_simp
        clear hc8
        refine hK.out _ _ ?_ (fun hHeld => ?_)
        · trivial
        clear hK K
        try go_frame
        refine do_at (i := 4) rfl (by kernel_rfl) (by kernel_rfl) (fun K hK => ?_)
        refine wp_append_any (.tmp 8) (.tmp 11) rfl w2.heap.size v k us rfl (own_below HOW.out HX.out) q (.slice ua y.R.length uc) rfl HI.out rfl HLN.out (Nat.le_trans HW2.out HX.out.size) ?_
        intro v' wa ga growa
        obtain ⟨va, vc, hv⟩ := own_shape ga
        subst hv
        have HGA := Lib.hid ga
        have HGW := Lib.hid (show Buts (· = b3) w2 wa from (HBT.out.trans (Buts.of HX.out)).trans' (Buts.grown (S := fun j => w2.heap.size ≤ j) growa (fun j hj => HVB.out j hj)) (fun j hj hs => by omega))
        have HKO := Lib.hid (show KeepsOthers W1 wa from (keeps_below HX.out).trans (KeepsOthers.of_grownBy growa (fun j o e ho => by
          obtain ⟨cu, hcu⟩ := own_type (own_below HOW.out HX.out) e
          rw [hcu] at ho; injection ho with ho; rw [← ho]; rfl)))
        have H8A := Lib.hid (show wa.heap[b3]? = some (.cells #[v] 27 (0, 0)) from (growa.block b3 (Nat.lt_of_lt_of_le L8.out HX.out.size) (fun e => by have := HVB.out b3 e.symm; have := HNE.out; omega)).trans ((HX.out.block b3 L8.out).trans H8.out))
        have HLS := Lib.hid (show LsOk wa (Kp ++ [⟨.slice ua y.R.length uc, y.R⟩]) from ((HOK.out.below HX.out).append (LsOk.one (HOB.out.lower (Nat.zero_le _)))).past growa (fun g hg => by
          obtain ⟨cu, hcu⟩ := own_type (own_below HOW.out HX.out) hg
          exact ⟨cu, _, _, hcu, by decide⟩))
        clear ga growa
        refine hK.out _ _ ?_ (fun hHeld => ?_)
        · trivial
        clear hK K
        try go_frame
        refine do_at (i := 5) rfl (by kernel_rfl) (by kernel_rfl) (fun K hK => ?_)
        have hc8 : wa.cell? ⟨b3, 0, none⟩ = some v := by rw [cell_of_row wa b3 0 _ _ _ H8A.out]; simp
        have hf8 : wa.frozen? ⟨b3, 0, none⟩ = false := frozen_of_row wa b3 0 _ _ H8A.out
        go_simp
        clear hc8 hf8
        refine hK.out _ _ ?_ (fun hHeld => ?_)
        · trivial
        clear hK K
        try go_frame
        refine wpAnyH_done (by kernel_rfl) ?_ _
        have ha8 := heap_setCell_same wa b3 0 _ _ (.slice va (k + 1) vc) H8A.out
        refine ⟨(HKO.out.trans (KeepsOthers.setCell _ _ _)).from _, HGW.out.trans (Buts.but (But.set wa b3 0 _) rfl), _, Kp ++ [⟨.slice ua y.R.length uc, y.R⟩], ha8, ?_, HLS.out.but H8A.out (by decide) (But.set wa b3 0 _), ?_, ?_, ?_⟩
        · rw [List.length_append, HKL.out, List.length_singleton, show vls (Kp ++ [⟨.slice ua y.R.length uc, y.R⟩]) = vls Kp ++ [.slice ua y.R.length uc] by simp [vls], ← HUS.out]
          refine HGA.out.kept (But.set wa b3 0 _) (.inr ?_)
          intro e'
          have := (HGA.out.lt b3 e').1
          have := HNE.out
          omega
        · rw [rws_append, HRK.out]
          exact HTK.out
        · refine HAP.out.add (X := fun j => j < W1.heap.size) HOK.out.lt (fun b hb hlt => ?_)
          have := (HOB.out.lt b hb).1
          omega
        · refine HFT.out.append (Foot.one fun b hb => ?_)
          have h1 := (HOB.out.lt b hb).1
          have h2 := HW2.out
          omega
  case done =>
    rintro D W hD ⟨bt, v, Kp, h8, ow, hok, hrk, hap, hft⟩ hK
    rw [List.take_of_length_le (by rw [List.length_map, HN.out]; exact Nat.le_refl _)] at hrk
    obtain ⟨va, vc, hv⟩ := own_shape ow
    subst hv
    have q8 : W.cell? ⟨b3, 0, none⟩ = some (.slice va Kp.length vc) := by rw [cell_of_row W b3 0 _ _ _ h8]; simp
    have tg := grownBy_putObj' W D (.deferred none)
    have tr : ∀ r', some D = some r' → ∃ o : Obj, W.heap[r']? = some o ∧ o.isCells = false := fun r' e => by cases e; exact ⟨_, hK, rfl⟩
    have HBW := Lib.hid (show Below w.heap.size w (W.putObj D (.deferred none)) from (HB2.out.trans (bt.below (fun i hi => by have := HNE.out; omega) HB2.out.size)).grown tg (Nat.le_trans HB2.out.size bt.size) (fun r' e => by cases e; exact Nat.le_trans HB2.out.size hD))
    have HKD := Lib.hid hK
    have ow2 := World.ownsRow.turn ow tg tr
    have ok2 := hok.turn tg tr
    have HRR := Lib.hid (show Rows1 (fun j => w.heap.size ≤ j ∧ j < (W.putObj D (.deferred none)).heap.size) (W.putObj D (.deferred none)) (.slice va Kp.length vc) Kp from
      ⟨own_lower ow2 (Nat.zero_le _), ok2, hap, fun x hx b hb => ⟨by have := hft x hx b hb; have := HNE.out; omega, ok2.lt x hx b hb⟩, fun b hb => ⟨by have := (ow2.lt b hb).1; have := HNE.out; omega, (ow2.lt b hb).2⟩⟩)
    have HRK := Lib.hid hrk
    clear h8 ow bt hK tg tr ow2 ok2 hok hrk hap hft
    gi_wp2
    refine ⟨by simp, .inl ⟨_, _, rfl, run_takeDeferred HKD.out, ?_⟩⟩
    exact ⟨_, results_tmp rfl _ _ _, .slice va Kp.length vc, Kp, rfl, HRK.out, HRR.out, HBW.out⟩
theorem rg_rows {X : Nat → Prop} {w : World} {p n f : Nat} {v : Value} {H : List Ln} {l : Int} (h : RgAt X w p n v H f l) : ∀ W, Buts (fun j => w.heap.size ≤ j) w W → ∀ x ∈ turnL f H, RowIn W x.v x.R ∧ x.R.length ≤ 1000 := fun W hb x hx => by
  have hm := (turnL_perm f H).mem_iff.1 hx
  exact ⟨((h.buts hb (fun j hj e => by have := h.now j hj; omega)).rws.ok x hm).row, h.rowl x hm⟩
theorem rws_turn (f : Nat) (H : List Ln) : rws (turnL f H) = turnL f (rws H) := (turnL_map (fun x : Ln => x.R) f H).symm
/-- Copies of all rows, the oldest one first. -/
theorem all_any (X : Nat → Prop) (w : World) (p n : Nat) (G : List Cls) (l : Int) (h : Rg X w p n G l) :
    Calls Try.prog 22 #[pV p] w fun e w' => ∃ v K, e = .returned v ∧ rws K = G ∧ Rows1 (fun j => w.heap.size ≤ j ∧ j < w'.heap.size) w' v K ∧ Below w.heap.size w w' := by
  obtain ⟨v, H, f, h, rfl⟩ := h
  refine (all_of w (pV p) H.length (turnL f H) (fun _ W => RgAt X W p n v H f l) (turnL_len f H) (each_iter X p n f v H l) (rg_reads h) (rg_rows h) (by have := h.len; have := h.n1; omega)).mono ?_
  rintro e w' ⟨v', K, rfl, hk, hr, b⟩
  exact ⟨v', K, rfl, hk.trans (rws_turn f H), hr, b⟩
theorem all_nil (w : World) : Calls Try.prog 22 #[.pointer none] w fun e w' => ∃ v, e = .returned v ∧ Rows1 (fun j => w.heap.size ≤ j ∧ j < w'.heap.size) w' v [] ∧ Below w.heap.size w w' := by
  refine (all_of w (.pointer none) 0 [] (fun _ _ => True) rfl each_nil (fun _ _ _ => trivial) (fun _ _ _ h => by cases h) (by decide)).mono ?_
  rintro e w' ⟨v', K, rfl, hk, hr, b⟩
  obtain rfl : K = [] := List.map_eq_nil_iff.1 hk
  exact ⟨v', rfl, hr, b⟩
end Go.Proofs.Ytnefamgjlhdffaa.Lab
