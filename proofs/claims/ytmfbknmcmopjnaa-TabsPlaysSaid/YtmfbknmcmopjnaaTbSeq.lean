/- slices.AppendSeq and slices.Collect over the iterator of tab stops; List. -/
import Derived.Test.YtmfbknmcmopjnaaTbFrom
set_option linter.unusedVariables false
namespace Go.Proofs.Ytmfbknmcmopjnaa.Lab
open Go Go.RowKit Go.Shelf
attribute [local go_sem] Oper.semAt_some

theorem infoInt : (Try.prog.info? 3).map (fun i => (i.zero, i.size, i.bytes)) = some (some (.int .i64 0), 1, 8) := by kernel_rfl
abbrev nV (n : Nat) : Value := .int .i64 (n : Nat)
abbrev nVs (Q : List Nat) : List Value := Q.map nV
/-- Numbers gathered behind a pointer b. -/
def AccAt (w2 : World) (b : Nat) (K : List Nat) (W : World) : Prop :=
  Buts (· = b) w2 W ∧ ∃ v, W.heap[b]? = some (.cells #[v] 41 (0, 0)) ∧ W.ownsRow w2.heap.size 3 1 v K.length (nVs K)
theorem AccAt.turn {w2 W W' : World} {b B : Nat} {K : List Nat} {row : Option Nat} (h : AccAt w2 b K W) (hg : W.grownBy W' row) (hB : w2.heap.size ≤ B) (hr : ∀ r, row = some r → B ≤ r ∧ ∃ o : Obj, W.heap[r]? = some o ∧ o.isCells = false) : AccAt w2 b K W' := by
  obtain ⟨h1, v, h2, h3⟩ := h
  refine ⟨h1.turn hg hB hr, v, (hg.block b (Array.getElem?_eq_some_iff.1 h2).1 ?_).trans h2, World.ownsRow.turn h3 hg (fun r e => (hr r e).2)⟩
  intro e
  obtain ⟨o, ho, hc⟩ := (hr b e.symm).2
  rw [h2] at ho
  injection ho with ho
  rw [← ho] at hc
  cases hc
set_option maxHeartbeats 4000000 in
set_option maxRecDepth 100000 in
theorem seq_any (w : World) (b : Nat) (t : Tb) (ht : t.L.length ≤ 512) (c : Int) (up : Bool) (h : FromAt w b t c (stepV up)) (hb : b + 2 < w.heap.size) :
    Calls Try.prog 52 #[.slice none 0 0, fromF b] w fun e w' => ∃ v, e = .returned v ∧ w'.ownsRow w.heap.size 3 1 v (sideL t.L c up).length (nVs (sideL t.L c up)) ∧ Below w.heap.size w w' := by
  have HIT := Lib.hid (from_iter b t ht c up).all
  obtain ⟨K, hK⟩ : ∃ K, K = sideL t.L c up := ⟨_, rfl⟩
  obtain ⟨N, hN⟩ : ∃ N, N = K.length := ⟨_, rfl⟩
  have hl : N ≤ 1000 := by rw [hN, hK]; have := side_len t.L c up; omega
  rw [← hK] at HIT ⊢
  rw [← hN] at HIT ⊢
  obtain ⟨b2, hb2⟩ : ∃ b, b = w.heap.size := ⟨_, rfl⟩
  obtain ⟨w2, hw2⟩ : ∃ x, x = w.alloc (.cells #[.slice none 0 0] 41) := ⟨_, rfl⟩
  have B2 : Below w.heap.size w w2 := by rw [hw2]; exact (Below.refl _ _).alloc (Nat.le_refl _) _
  have q8 : w2.heap[b2]? = some (.cells #[.slice none 0 0] 41 (0, 0)) := by rw [hw2, hb2]; exact World.alloc_heap_new w _
  have HB2 := Lib.hid B2
  have HNE := Lib.hid (show b2 = w.heap.size ∧ w2.heap.size = w.heap.size + 1 ∧ N ≤ 1000 from ⟨hb2, by rw [hw2]; simp, hl⟩)
  have HST := Lib.hid (show AccAt w2 b2 (K.take 0) w2 from ⟨Buts.refl _ _, _, q8, World.ownsRow_nil _ _ _ 1⟩)
  have HN := Lib.hid hN.symm
  have HHR := Lib.hid (show ∀ W, Buts (· = b2) w2 W → FromAt W b t c (stepV up) from fun W hbu => (h.below B2).buts hbu (by omega) (by omega) (by omega))
  clear B2 q8 hl hN hK h hb ht
  refine (callsIn_wide (n := 0)).1 ?_
  refine callsIn_of_wp_marks Try.func52 rfl trivial ?_ rfl
  simp only [Try.ntmps52, List.size_toArray, List.length_cons, List.length_nil, Nat.reduceAdd, Nat.reduceSub, Array.replicate_succ, Array.replicate_zero, List.push_toArray, List.append_toArray, List.nil_append, List.cons_append]
  gi_wp2
  rw [← hw2, ← hb2]
  clear hw2 hb2
  refine wp_rangeA (gf := 53) (pre := #[]) (post := fromP b) rfl (enters_of Try.func53 (by kernel_rfl) rfl) HIT.out (fun _ => rfl)
    (fun k W => AccAt w2 b2 (K.take k) W)
    (fun k a' W => a' = { tmps := #[.slice none 0 0, fromF b, .pointer (some ⟨b2, 0, none⟩), undef, .slice none 0 0, nV (K.getD k 0), fromF b, nV (K.getD k 0), undef, undef, undef, undef, undef], defers := [] } ∧ AccAt w2 b2 (K.take k) W)
    ?hI ?hA ?hH ?h0 ?assign ?body ?done
  case hI => exact fun k W W' row hs hg hr => hs.turn hg (Nat.le_refl _) hr
  case hA => exact fun k a' _ W W' row hs hg hr => ⟨hs.1, hs.2.turn hg (Nat.le_refl _) hr⟩
  case hH => exact fun k W hs => HHR.out W hs.1
  case h0 => exact HST.out
  case assign =>
    intro ll k W Kk hk hW hI hK
    have HK := Lib.hid hK
    have HI := Lib.hid hI
    clear hK hI
    obtain ⟨x, hx⟩ : ∃ x, x = K.getD k 0 := ⟨_, rfl⟩
    have HX := Lib.hid hx
    rw [← hx]
    clear hx
    gi_wp2
    exact HK.out _ _ (KeepsFrom.refl _ _) ⟨by rw [← HX.out], HI.out⟩
  case body =>
    rintro ll k a' W1 hk hW ⟨rfl, bt, v, h8, ow⟩
    have hkK : k < K.length := by rw [HN.out]; exact hk
    obtain ⟨x, hx⟩ : ∃ x, x = K.getD k 0 := ⟨_, rfl⟩
    have HTK := Lib.hid (show K.take (k + 1) = K.take k ++ [x] by rw [hx, List.getD_eq_getElem?_getD, List.getElem?_eq_getElem hkK, List.take_succ_eq_append_getElem hkK]; rfl)
    have HLT := Lib.hid (show (K.take k).length = k by rw [List.length_take]; omega)
    rw [← hx]
    obtain ⟨us, hus⟩ : ∃ us, us = nVs (K.take k) := ⟨_, rfl⟩
    rw [HLT.out, ← hus] at ow
    have HUS := Lib.hid hus
    obtain ⟨va, vc, hv⟩ := own_shape ow
    have HV := Lib.hid hv
    have HOW := Lib.hid ow
    have HBT := Lib.hid bt
    have H8 := Lib.hid h8
    have hk1 : k ≤ 1000 := by have := HNE.out; omega
    have C8 : W1.cell? ⟨b2, 0, none⟩ = some v := by rw [cell_of_row W1 b2 0 _ _ _ h8]; simp
    rw [hv] at C8
    have L8 := Lib.hid (show b2 < W1.heap.size from (Array.getElem?_eq_some_iff.1 h8).1)
    obtain ⟨q, hq⟩ : ∃ q, q = W1.heap.size := ⟨_, rfl⟩
    obtain ⟨wb, hwb⟩ : ∃ X, X = W1.alloc (.cells #[nV x] 3) := ⟨_, rfl⟩
    have HBB := Lib.hid (show Below W1.heap.size W1 wb by rw [hwb]; exact (Below.refl _ _).alloc (Nat.le_refl _) _)
    have HI := Lib.hid (show wb.cell? ⟨q, 0, none⟩ = some (nV x) by rw [hwb, hq]; simp)
    obtain ⟨ib, hi, hz0, hz1, hz2⟩ := info_parts infoInt
    have HIN := Lib.hid (And.intro hi (And.intro hz0 (And.intro hz1 hz2)))
    have HK1 := Lib.hid hk1
    clear hi hz0 hz1 hz2 hx hus ow hv bt h8 hkK hk hW
    refine wpIn_block ?_
    gi_wp2_with (gi_at_builtin; rw [← hwb, ← hq]; clear hwb hq; refine wpListIn_append_own wb rfl (.tmp 8) (.tmp 10) 41 rfl w2.heap.size 3 ib (.int .i64 0) 1 8 Try.underlying41 HIN.out.1 HIN.out.2.1 HIN.out.2.2.1 HIN.out.2.2.2 rfl (by decide) v k us (by rw [HV.out]; rfl) (own_below HOW.out HBB.out) ⟨q, 0, none⟩ 1 1 [nV x] rfl rfl ?_ ?_ (by have := HK1.out; unfold maxLen; omega) (by have := HK1.out; omega) (Nat.le_trans HBT.out.size HBB.out.size) ?_)
    · intro j y hj
      cases j with
      | zero =>
        obtain rfl : nV x = y := by simpa using hj
        rw [Addr.add_mid]
        exact HI.out
      | succ j => simp at hj
    · intro u hu
      obtain rfl : u = nV x := by simpa using hu
      rfl
    · intro v' wa ga growa hne
      obtain ⟨a2, c2, hv2⟩ := own_shape ga
      subst hv2
      have HGA := Lib.hid ga
      have HVB := Lib.hid (fun j (hj : v.ownBlock = some j) => (World.ownsRow.lt HOW.out j hj).1)
      have HGW := Lib.hid (show Buts (· = b2) w2 wa from (HBT.out.trans (Buts.of HBB.out)).trans' (Buts.grown (S := fun j => w2.heap.size ≤ j) growa (fun j hj => HVB.out j hj)) (fun j hj hs => by omega))
      have H8A := Lib.hid (show wa.heap[b2]? = some (.cells #[v] 41 (0, 0)) from (growa.block b2 (Nat.lt_of_lt_of_le L8.out HBB.out.size) (fun e => by have := HVB.out b2 e.symm; have := HNE.out; omega)).trans ((HBB.out.block b2 L8.out).trans H8.out))
      have HKO := Lib.hid (show KeepsOthers W1 wa from (keeps_below HBB.out).trans (KeepsOthers.of_grownBy growa (fun j o e ho => by
        obtain ⟨cu, hcu⟩ := own_type (own_below HOW.out HBB.out) e
        rw [hcu] at ho; injection ho with ho; rw [← ho]; rfl)))
      have hc8 : wa.cell? ⟨b2, 0, none⟩ = some (.slice va k vc) := by rw [cell_of_row wa b2 0 _ _ _ H8A.out, HV.out]; simp
      have hf8 : wa.frozen? ⟨b2, 0, none⟩ = false := frozen_of_row wa b2 0 _ _ H8A.out
      clear ga growa hne
      gi_wp2
      have ha8 := heap_setCell_same wa b2 0 _ _ (.slice a2 (k + 1) c2) H8A.out
      refine ⟨(HKO.out.trans (KeepsOthers.setCell _ _ _)).from _, HGW.out.trans (Buts.but (But.set wa b2 0 _) rfl), _, ha8, ?_⟩
      rw [HTK.out, List.length_append, HLT.out, List.length_singleton, show nVs (K.take k ++ [x]) = nVs (K.take k) ++ [nV x] by simp [nVs], ← HUS.out]
      refine HGA.out.kept (But.set wa b2 0 _) (.inr ?_)
      intro e'
      have := (HGA.out.lt b2 e').1
      have := HNE.out
      omega
  case done =>
    rintro D W hD ⟨bt, v, h8, ow⟩ hK
    rw [List.take_of_length_le (by rw [HN.out]; exact Nat.le_refl _), HN.out] at ow
    obtain ⟨va, vc, hv⟩ := own_shape ow
    subst hv
    have q8 : W.cell? ⟨b2, 0, none⟩ = some (.slice va N vc) := by rw [cell_of_row W b2 0 _ _ _ h8]; simp
    have tg := grownBy_putObj' W D (.deferred none)
    have tr : ∀ r', some D = some r' → ∃ o : Obj, W.heap[r']? = some o ∧ o.isCells = false := fun r' e => by cases e; exact ⟨_, hK, rfl⟩
    have HOW := Lib.hid (show (W.putObj D (.deferred none)).ownsRow w.heap.size 3 1 (.slice va N vc) N (nVs K) from own_lower (World.ownsRow.turn ow tg tr) HB2.out.size)
    have HBW := Lib.hid (show Below w.heap.size w (W.putObj D (.deferred none)) from (HB2.out.trans (bt.below (fun i hi => by have := HNE.out; omega) HB2.out.size)).grown tg (Nat.le_trans HB2.out.size bt.size) (fun r' e => by cases e; exact Nat.le_trans HB2.out.size hD))
    have HKD := Lib.hid hK
    clear h8 ow bt hK tg tr
    gi_wp2
    refine ⟨by simp, .inl ⟨_, _, rfl, run_takeDeferred HKD.out, ?_⟩⟩
    exact ⟨_, results_tmp rfl _ _ _, .slice va N vc, rfl, HOW.out, HBW.out⟩
theorem collect_any (w : World) (b : Nat) (t : Tb) (ht : t.L.length ≤ 512) (c : Int) (up : Bool) (h : FromAt w b t c (stepV up)) (hb : b + 2 < w.heap.size) :
    Calls Try.prog 43 #[fromF b] w fun e w' => ∃ v, e = .returned v ∧ w'.ownsRow w.heap.size 3 1 v (sideL t.L c up).length (nVs (sideL t.L c up)) ∧ Below w.heap.size w w' := by
  have C := Lib.hid (seq_any w b t ht c up h hb)
  obtain ⟨K, hK⟩ : ∃ K, K = sideL t.L c up := ⟨_, rfl⟩
  rw [← hK] at C ⊢
  clear h hb ht hK
  go_enter Try.func43, Try.ntmps43
  go_wp2_with fail
  refine C.out.mono ?_
  rintro e w1 ⟨v, rfl, ow, b1⟩
  obtain ⟨va, vc, hv⟩ := own_shape ow
  subst hv
  have HO := Lib.hid ow
  have HB := Lib.hid b1
  clear ow b1 C
  go_wp2
  go_ret
  exact ⟨_, rfl, HO.out, HB.out⟩
abbrev is (K : List Nat) : List Int := K.map (fun n : Nat => (n : Int))
/-- A row of numbers that the call made can be read. -/
theorem isIn_of {w : World} {lo : Nat} {v : Value} {K : List Nat} (h : w.ownsRow lo 3 1 v K.length (nVs K)) : IsIn w v (is K) := by
  obtain ⟨a, c, e⟩ := own_shape h
  refine ⟨a, c, by rw [List.length_map]; exact e, fun h0 => ?_⟩
  rw [List.length_map] at h0
  rcases h.2 with ⟨_, h1⟩ | ⟨g, cap, cur, ev, _, hg, _⟩
  · omega
  · rw [e] at ev
    injection ev with e1 _ _
    refine ⟨g, 0, e1, (Array.getElem?_eq_some_iff.1 hg).1, fun i hi => ?_⟩
    have hi' : i < K.length := by simpa using hi
    have := World.ownsRow.cells h (g := g) (by rw [e, e1]; rfl) i (nV K[i]) (by simp [nVs, hi'])
    rw [Addr.add_mid] at this
    simpa using this
theorem side_all (L : List Bool) : sideL L (-1) true = stops L := by
  unfold sideL inN
  rw [if_pos rfl, show (min (max (-1) (-1)) (L.length : Int) + 1).toNat = 0 by omega, ups_zero]
theorem list_any (t : Tb) (ht : t.L.length ≤ 512) (w : World) :
    Calls Try.prog 15 #[tbV t] w fun e w' => ∃ v, e = .returned v ∧ w'.ownsRow w.heap.size 3 1 v (stops t.L).length (nVs (stops t.L)) ∧ Below w.heap.size w w' := by
  have HF := Lib.hid (fun w => from_any t (-1) 1 w)
  have HT5 := Lib.hid ht
  clear ht
  go_enter Try.func15, Try.ntmps15
  go_wp2_with fail
  refine (HF.out _).mono ?_
  rintro e w2 ⟨rfl, hF, b2, hs⟩
  obtain ⟨w1, hw1⟩ : ∃ x, x = w.alloc (.cells (tbC t) TB) := ⟨_, rfl⟩
  have HB1 := Lib.hid (show Below w.heap.size w w1 by rw [hw1]; exact (Below.refl _ _).alloc (Nat.le_refl _) _)
  rw [← hw1] at hF b2 hs
  have HS := Lib.hid hs
  have HB2 := Lib.hid (HB1.out.trans (b2.mono HB1.out.size))
  have C := collect_any w2 w1.heap.size t HT5.out (-1) true hF (by omega)
  rw [side_all] at C
  have HC := Lib.hid C
  clear hF hs C b2
  rw [← hw1]
  clear hw1
  go_wp2_with fail
  refine HC.out.mono ?_
  rintro e w3 ⟨v, rfl, ow, b3⟩
  obtain ⟨va, vc, hv⟩ := own_shape ow
  have HO := Lib.hid ow
  have HB := Lib.hid b3
  have HV := Lib.hid hv
  subst hv
  clear ow b3 HC
  go_wp2
  go_ret
  exact ⟨_, rfl, own_lower HO.out HB2.out.size, HB2.out.trans (HB.out.mono HB2.out.size)⟩
end Go.Proofs.Ytmfbknmcmopjnaa.Lab
