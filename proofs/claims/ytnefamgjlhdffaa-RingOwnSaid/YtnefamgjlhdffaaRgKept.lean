/- slices.AppendSeq, slices.Collect over the project's each; kept. -/
import Derived.Test.YtnefamgjlhdffaaRgEach
set_option linter.unusedVariables false
namespace Go.Proofs.Ytnefamgjlhdffaa.Lab
open Go Go.RowKit Go.Shelf
attribute [local go_sem] Oper.semAt_some

theorem keeps_below {w w' : World} (h : Below w.heap.size w w') : KeepsOthers w w' :=
  KeepsOthers.of_grownBy (row := none) ⟨h.os, h.tape, h.output, h.size, fun k hk _ => h.block k hk⟩ (fun _ _ e _ => by cases e)
abbrev lnK (K : List Ln) (k : Nat) : Ln := K.getD k ⟨undef, []⟩
theorem lnK_eq {K : List Ln} {k : Nat} (h : k < K.length) : lnK K k = K[k] := by
  unfold lnK
  rw [List.getD_eq_getElem?_getD, List.getElem?_eq_getElem h]
  rfl
abbrev eachF (rv : Value) : Value := .func (.func 43) #[rv] #[]
/-- Headers gathered behind a pointer b. -/
def AccAt (w2 : World) (b : Nat) (K : List Ln) (W : World) : Prop :=
  Buts (· = b) w2 W ∧ ∃ v, W.heap[b]? = some (.cells #[v] 27 (0, 0)) ∧ W.ownsRow w2.heap.size 38 1 v K.length (vls K)
theorem AccAt.turn {w2 W W' : World} {b B : Nat} {K : List Ln} {row : Option Nat} (h : AccAt w2 b K W) (hg : W.grownBy W' row) (hB : w2.heap.size ≤ B) (hr : ∀ r, row = some r → B ≤ r ∧ ∃ o : Obj, W.heap[r]? = some o ∧ o.isCells = false) : AccAt w2 b K W' := by
  obtain ⟨h1, v, h2, h3⟩ := h
  refine ⟨h1.turn hg hB hr, v, (hg.block b (Array.getElem?_eq_some_iff.1 h2).1 ?_).trans h2, World.ownsRow.turn h3 hg (fun r e => (hr r e).2)⟩
  intro e
  obtain ⟨o, ho, hc⟩ := (hr b e.symm).2
  rw [h2] at ho
  injection ho with ho
  rw [← ho] at hc
  cases hc
set_option maxHeartbeats 4000000 in
set_option maxRecDepth 100000 in
theorem seq_any (w : World) (rv : Value) (N : Nat) (K : List Ln) (Hr : Nat → World → Prop) (hN : K.length = N) (hit : IterA Try.prog 43 #[rv] #[] N (fun k => #[(lnK K k).v]) Hr)
    (hHr : ∀ W, Buts (fun j => w.heap.size ≤ j) w W → ∀ k, Hr k W) (hK : ∀ x ∈ K, ∃ a n c, x.v = .slice a n c) (hl : N ≤ 1000) :
    Calls Try.prog 61 #[.slice none 0 0, eachF rv] w fun e w' => ∃ v, e = .returned v ∧ w'.ownsRow w.heap.size 38 1 v N (vls K) ∧ Below w.heap.size w w' := by
  obtain ⟨b2, hb2⟩ : ∃ b, b = w.heap.size := ⟨_, rfl⟩
  obtain ⟨w2, hw2⟩ : ∃ x, x = w.alloc (.cells #[.slice none 0 0] 27) := ⟨_, rfl⟩
  have B2 : Below w.heap.size w w2 := by rw [hw2]; exact (Below.refl _ _).alloc (Nat.le_refl _) _
  have q8 : w2.heap[b2]? = some (.cells #[.slice none 0 0] 27 (0, 0)) := by rw [hw2, hb2]; exact World.alloc_heap_new w _
  have HB2 := Lib.hid B2
  have HNE := Lib.hid (show b2 = w.heap.size ∧ w2.heap.size = w.heap.size + 1 ∧ N ≤ 1000 from ⟨hb2, by rw [hw2]; simp, hl⟩)
  have HST := Lib.hid (show AccAt w2 b2 (K.take 0) w2 from ⟨Buts.refl _ _, _, q8, World.ownsRow_nil _ _ _ 1⟩)
  have HN := Lib.hid hN
  have HKV := Lib.hid hK
  have HIT := Lib.hid hit
  have HHR := Lib.hid (show ∀ W, Buts (· = b2) w2 W → ∀ k, Hr k W from fun W hb k => hHr W ((Buts.of B2).trans' hb (fun j hj (e : j = b2) => by omega)) k)
  clear B2 q8 hl hN hK hit hHr
  refine (callsIn_wide (n := 0)).1 ?_
  refine callsIn_of_wp_marks Try.func61 rfl trivial ?_ rfl
  simp only [Try.ntmps61, List.size_toArray, List.length_cons, List.length_nil, Nat.reduceAdd, Nat.reduceSub, Array.replicate_succ, Array.replicate_zero, List.push_toArray, List.append_toArray, List.nil_append, List.cons_append]
  gi_wp2
  rw [← hw2, ← hb2]
  clear hw2 hb2
  refine wp_rangeA (gf := 43) (pre := #[rv]) (post := #[]) rfl (enters_of Try.func43 (by kernel_rfl) rfl) HIT.out (fun _ => rfl)
    (fun k W => AccAt w2 b2 (K.take k) W)
    (fun k a' W => a' = { tmps := #[.slice none 0 0, eachF rv, .pointer (some ⟨b2, 0, none⟩), undef, .slice none 0 0, (lnK K k).v, eachF rv, (lnK K k).v, undef, undef, undef, undef, undef], defers := [] } ∧ AccAt w2 b2 (K.take k) W)
    ?hI ?hA ?hH ?h0 ?assign ?body ?done
  case hI => exact fun k W W' row hs hg hr => hs.turn hg (Nat.le_refl _) hr
  case hA => exact fun k a' _ W W' row hs hg hr => ⟨hs.1, hs.2.turn hg (Nat.le_refl _) hr⟩
  case hH => exact fun k W hs => HHR.out W hs.1 k
  case h0 => exact HST.out
  case assign =>
    intro ll k W Kk hk hW hI hK
    have HK := Lib.hid hK
    have HI := Lib.hid hI
    obtain ⟨xa, xn, xc, hx⟩ := HKV.out (lnK K k) (by rw [lnK_eq (by rw [HN.out]; exact hk)]; exact List.getElem_mem _)
    have HX := Lib.hid hx
    rw [hx]
    clear hK hI hx
    gi_wp2
    exact HK.out _ _ (KeepsFrom.refl _ _) ⟨by rw [HX.out], HI.out⟩
  case body =>
    rintro ll k a' W1 hk hW ⟨rfl, bt, v, h8, ow⟩
    have hkK : k < K.length := by rw [HN.out]; exact hk
    obtain ⟨xa, xn, xc, hx⟩ := HKV.out (lnK K k) (by rw [lnK_eq hkK]; exact List.getElem_mem _)
    have HTK := Lib.hid (show K.take (k + 1) = K.take k ++ [lnK K k] by rw [lnK_eq hkK, List.take_succ_eq_append_getElem hkK])
    have HLT := Lib.hid (show (K.take k).length = k by rw [List.length_take]; omega)
    have HX := Lib.hid hx
    rw [hx]
    obtain ⟨us, hus⟩ : ∃ us, us = vls (K.take k) := ⟨_, rfl⟩
    rw [HLT.out, ← hus] at ow
    have HUS := Lib.hid hus
    obtain ⟨va, vc, hv⟩ := own_shape ow
    have HV := Lib.hid hv
    have HOW := Lib.hid ow
    have HBT := Lib.hid bt
    have H8 := Lib.hid h8
    have hk1 : k ≤ 1000 := by have := HNE.out; omega
    have C8 : W1.cell? ⟨b2, 0, none⟩ = some v := by rw [cell_of_row W1 b2 0 _ _ _ h8]; simp
    rw [hv] at C8
    have L8 := Lib.hid (show b2 < W1.heap.size from (Array.getElem?_eq_some_iff.1 h8).1)
    obtain ⟨q, hq⟩ : ∃ q, q = W1.heap.size := ⟨_, rfl⟩
    obtain ⟨wb, hwb⟩ : ∃ X, X = W1.alloc (.cells #[.slice xa xn xc] 38) := ⟨_, rfl⟩
    have HBB := Lib.hid (show Below W1.heap.size W1 wb by rw [hwb]; exact (Below.refl _ _).alloc (Nat.le_refl _) _)
    have HI := Lib.hid (show wb.cell? ⟨q, 0, none⟩ = some (.slice xa xn xc) by rw [hwb, hq]; simp)
    obtain ⟨ib, hi, hz0, hz1, hz2⟩ := info_parts infoRow
    have HIN := Lib.hid (And.intro hi (And.intro hz0 (And.intro hz1 hz2)))
    have HK1 := Lib.hid hk1
    clear hi hz0 hz1 hz2 hx hus ow hv bt h8 hkK hk hW
    refine wpIn_block ?_
    gi_wp2_with (gi_at_builtin; rw [← hwb, ← hq]; clear hwb hq; refine wpListIn_append_own wb rfl (.tmp 8) (.tmp 10) 27 rfl w2.heap.size 38 ib (.slice none 0 0) 1 24 Try.underlying27 HIN.out.1 HIN.out.2.1 HIN.out.2.2.1 HIN.out.2.2.2 rfl (by decide) v k us (by rw [HV.out]; rfl) (own_below HOW.out HBB.out) ⟨q, 0, none⟩ 1 1 [.slice xa xn xc] rfl rfl ?_ ?_ (by have := HK1.out; unfold maxLen; omega) (by have := HK1.out; omega) (Nat.le_trans HBT.out.size HBB.out.size) ?_)
    · intro j y hj
      cases j with
      | zero =>
        obtain rfl : Value.slice xa xn xc = y := by simpa using hj
        rw [Addr.add_mid]
        exact HI.out
      | succ j => simp at hj
    · intro u hu
      obtain rfl : u = .slice xa xn xc := by simpa using hu
      rfl
    · intro v' wa ga growa hne
      obtain ⟨a2, c2, hv2⟩ := own_shape ga
      subst hv2
      have HGA := Lib.hid ga
      have HVB := Lib.hid (fun j (hj : v.ownBlock = some j) => (World.ownsRow.lt HOW.out j hj).1)
      have HGW := Lib.hid (show Buts (· = b2) w2 wa from (HBT.out.trans (Buts.of HBB.out)).trans' (Buts.grown (S := fun j => w2.heap.size ≤ j) growa (fun j hj => HVB.out j hj)) (fun j hj hs => by omega))
      have H8A := Lib.hid (show wa.heap[b2]? = some (.cells #[v] 27 (0, 0)) from (growa.block b2 (Nat.lt_of_lt_of_le L8.out HBB.out.size) (fun e => by have := HVB.out b2 e.symm; have := HNE.out; omega)).trans ((HBB.out.block b2 L8.out).trans H8.out))
      have HKO := Lib.hid (show KeepsOthers W1 wa from (keeps_below HBB.out).trans (KeepsOthers.of_grownBy growa (fun j o e ho => by
        obtain ⟨cu, hcu⟩ := own_type (own_below HOW.out HBB.out) e
        rw [hcu] at ho; injection ho with ho; rw [← ho]; rfl)))
      have hc8 : wa.cell? ⟨b2, 0, none⟩ = some (.slice va k vc) := by rw [cell_of_row wa b2 0 _ _ _ H8A.out, HV.out]; simp
      have hf8 : wa.frozen? ⟨b2, 0, none⟩ = false := frozen_of_row wa b2 0 _ _ H8A.out
      clear ga growa hne
      gi_wp2
      have ha8 := heap_setCell_same wa b2 0 _ _ (.slice a2 (k + 1) c2) H8A.out
      refine ⟨(HKO.out.trans (KeepsOthers.setCell _ _ _)).from _, HGW.out.trans (Buts.but (But.set wa b2 0 _) rfl), _, ha8, ?_⟩
      rw [HTK.out, List.length_append, HLT.out, List.length_singleton, show vls (K.take k ++ [lnK K k]) = vls (K.take k) ++ [(lnK K k).v] by simp [vls], ← HUS.out, HX.out]
      refine HGA.out.kept (But.set wa b2 0 _) (.inr ?_)
      intro e'
      have := (HGA.out.lt b2 e').1
      have := HNE.out
      omega
  case done =>
    rintro D W hD ⟨bt, v, h8, ow⟩ hK
    rw [List.take_of_length_le (by rw [HN.out]; exact Nat.le_refl _), HN.out] at ow
    obtain ⟨va, vc, hv⟩ := own_shape ow
    subst hv
    have q8 : W.cell? ⟨b2, 0, none⟩ = some (.slice va N vc) := by rw [cell_of_row W b2 0 _ _ _ h8]; simp
    have tg := grownBy_putObj' W D (.deferred none)
    have tr : ∀ r', some D = some r' → ∃ o : Obj, W.heap[r']? = some o ∧ o.isCells = false := fun r' e => by cases e; exact ⟨_, hK, rfl⟩
    have HOW := Lib.hid (show (W.putObj D (.deferred none)).ownsRow w.heap.size 38 1 (.slice va N vc) N (vls K) from own_lower (World.ownsRow.turn ow tg tr) HB2.out.size)
    have HBW := Lib.hid (show Below w.heap.size w (W.putObj D (.deferred none)) from (HB2.out.trans (bt.below (fun i hi => by have := HNE.out; omega) HB2.out.size)).grown tg (Nat.le_trans HB2.out.size bt.size) (fun r' e => by cases e; exact Nat.le_trans HB2.out.size hD))
    have HKD := Lib.hid hK
    clear h8 ow bt hK tg tr
    gi_wp2
    refine ⟨by simp, .inl ⟨_, _, rfl, run_takeDeferred HKD.out, ?_⟩⟩
    exact ⟨_, results_tmp rfl _ _ _, .slice va N vc, rfl, HOW.out, HBW.out⟩
/-- What Collect gathers. -/
theorem collect_any (w : World) (rv : Value) (N : Nat) (K : List Ln) (Hr : Nat → World → Prop) (hN : K.length = N) (hit : IterA Try.prog 43 #[rv] #[] N (fun k => #[(lnK K k).v]) Hr)
    (hHr : ∀ W, Buts (fun j => w.heap.size ≤ j) w W → ∀ k, Hr k W) (hK : ∀ x ∈ K, ∃ a n c, x.v = .slice a n c) (hl : N ≤ 1000) :
    Calls Try.prog 52 #[eachF rv] w fun e w' => ∃ v, e = .returned v ∧ w'.ownsRow w.heap.size 38 1 v N (vls K) ∧ Below w.heap.size w w' := by
  have C := Lib.hid (seq_any w rv N K Hr hN hit hHr hK hl)
  clear hit hHr hK hl hN
  go_enter Try.func52, Try.ntmps52
  go_wp2_with fail
  refine C.out.mono ?_
  rintro e w1 ⟨v, rfl, ow, b1⟩
  obtain ⟨va, vc, hv⟩ := own_shape ow
  subst hv
  have HO := Lib.hid ow
  have HB := Lib.hid b1
  clear ow b1 C
  go_wp2
  go_ret
  exact ⟨_, rfl, HO.out, HB.out⟩
theorem kept_of (w : World) (rv : Value) (N : Nat) (K : List Ln) (Hr : Nat → World → Prop) (hN : K.length = N) (hit : IterA Try.prog 43 #[rv] #[] N (fun k => #[(lnK K k).v]) Hr)
    (hHr : ∀ W, Buts (fun j => w.heap.size ≤ j) w W → ∀ k, Hr k W) (hK : ∀ x ∈ K, ∃ a n c, x.v = .slice a n c) (hl : N ≤ 1000) :
    Calls Try.prog 40 #[rv] w fun e w' => ∃ v, e = .returned v ∧ w'.ownsRow w.heap.size 38 1 v N (vls K) ∧ Below w.heap.size w w' := by
  have C := Lib.hid (collect_any w rv N K Hr hN hit hHr hK hl)
  clear hit hHr hK hl hN
  go_enter Try.func40, Try.ntmps40
  go_wp2_with fail
  refine C.out.mono ?_
  rintro e w1 ⟨v, rfl, ow, b1⟩
  obtain ⟨va, vc, hv⟩ := own_shape ow
  subst hv
  have HO := Lib.hid ow
  have HB := Lib.hid b1
  clear ow b1 C
  go_wp2
  go_ret
  exact ⟨_, rfl, HO.out, HB.out⟩
theorem rg_values {X : Nat → Prop} {w : World} {p n f : Nat} {v : Value} {H : List Ln} {l : Int} (h : RgAt X w p n v H f l) : ∀ x ∈ turnL f H, ∃ a n c, x.v = .slice a n c := fun x hx => by
  obtain ⟨a, c, e⟩ := own_shape (h.rws.ok x ((turnL_perm f H).mem_iff.1 hx))
  exact ⟨a, _, c, e⟩
theorem rg_reads {X : Nat → Prop} {w : World} {p n f : Nat} {v : Value} {H : List Ln} {l : Int} (h : RgAt X w p n v H f l) : ∀ W, Buts (fun j => w.heap.size ≤ j) w W → ∀ _k : Nat, RgAt X W p n v H f l := fun W hb _ => h.buts hb (fun j hj e => by have := h.now j hj; omega)
/-- A row of its own of the ring's rows, the oldest one first. -/
theorem kept_any (X : Nat → Prop) (w : World) (p n f : Nat) (v : Value) (H : List Ln) (l : Int) (h : RgAt X w p n v H f l) :
    Calls Try.prog 40 #[pV p] w fun e w' => ∃ v', e = .returned v' ∧ w'.ownsRow w.heap.size 38 1 v' H.length (vls (turnL f H)) ∧ Below w.heap.size w w' :=
  kept_of w (pV p) H.length (turnL f H) (fun _ W => RgAt X W p n v H f l) (turnL_len f H) (each_iter X p n f v H l) (rg_reads h) (rg_values h) (by have := h.len; have := h.n1; omega)
end Go.Proofs.Ytnefamgjlhdffaa.Lab
