/- The project's Level of rectangles. The project's Sum, whole. -/
import Derived.Test.YtlaafmjiiiaceaaDoorRcSum
set_option linter.unusedVariables false
namespace Go.Proofs.YtlaafmjiiiaceaaDoor.Lab
open Go Go.RowKit

open Go Go.RowKit Go.Shelf
attribute [local go_sem] Oper.semAt_some

def b01 (s : Bool) : Int := if s then 1 else 0
theorem b01_or (s : Bool) : b01 s = 0 ∨ b01 s = 1 := by cases s <;> simp [b01]
theorem b01_max (s t : Bool) : max (b01 s) (b01 t) = b01 (s || t) := by cases s <;> cases t <;> decide
theorem fold_any : ∀ (L : Cls) (s : Bool), (∀ c ∈ L, c.l = 0 ∨ c.l = 1) → L.foldl (fun l c => max l c.l) (b01 s) = b01 (s || L.any fun c => c.l != 0)
  | [], s, _ => by simp
  | c :: L, s, h => by
    have hc : c.l = b01 (c.l != 0) := by
      rcases h c (List.mem_cons_self ..) with e | e <;> rw [e] <;> rfl
    rw [List.foldl_cons]
    have : max (b01 s) c.l = b01 (s || c.l != 0) := by
      conv => lhs; rw [hc]
      exact b01_max _ _
    rw [this, fold_any L _ (fun d hd => h d (List.mem_cons_of_mem _ hd)), List.any_cons, Bool.or_assoc]
theorem level_row {R : Cls} (h : Lv R) {n : Nat} (hn : n = R.length) : levelM R 0 (n : Nat) = b01 (R.any fun c => c.l != 0) := by
  unfold levelM
  rw [show inN 0 R.length = 0 by unfold inN; omega, show inN (n : Nat) R.length = R.length by unfold inN; omega, List.drop_zero, Nat.sub_zero, List.take_length]
  exact fold_any R false (mem_lv h)
theorem levB_step (G : List Cls) (k : Rk) (i : Nat) : levB G k (i + 1) = (levB G k i || (cellsK G k i).any fun c => c.l != 0) := by
  unfold levB
  rw [List.range_succ, List.any_append]
  simp
/-- Rectangles, as they come in. -/
def RectsIn (w : World) (a : Option Addr) (Rs : List R4) : Prop := ∀ j, j < Rs.length → ∃ s o, a = some ⟨s, o, none⟩ ∧ s < w.heap.size ∧ (w.cell? ⟨s, o + j * 4, none⟩ = some (.int .i64 (Rs.getD j ⟨0, 0, 0, 0⟩).t) ∧ w.cell? ⟨s, o + j * 4 + 1, none⟩ = some (.int .i64 (Rs.getD j ⟨0, 0, 0, 0⟩).l) ∧ w.cell? ⟨s, o + j * 4 + 2, none⟩ = some (.int .i64 (Rs.getD j ⟨0, 0, 0, 0⟩).n) ∧ w.cell? ⟨s, o + j * 4 + 3, none⟩ = some (.int .i64 (Rs.getD j ⟨0, 0, 0, 0⟩).c)) ∧ (Rs.getD j ⟨0, 0, 0, 0⟩).Ok
def levA (G : List Cls) (m : Nat) (Rs : List R4) : Bool := Rs.any fun r => levB G (clipM r G.length m) (clipM r G.length m).n
theorem levA_step (G : List Cls) (m : Nat) (Rs : List R4) (j : Nat) (h : j < Rs.length) : levA G m (Rs.take (j + 1)) = (levA G m (Rs.take j) || levB G (clipM (Rs.getD j ⟨0, 0, 0, 0⟩) G.length m) (clipM (Rs.getD j ⟨0, 0, 0, 0⟩) G.length m).n) := by
  unfold levA
  rw [List.take_succ_eq_append_getElem h, List.any_append, List.getD_eq_getElem?_getD, List.getElem?_eq_getElem h]
  simp
/-- The marks of loops that are done, each of its own. -/
def mk1 (D : Nat) : Deferred := { target := .collected D, args := #[] }
def MarksAt (B : Nat) (W : World) (Ds : List Nat) : Prop := (∀ D ∈ Ds, B ≤ D ∧ W.heap[D]? = some (.deferred (some []))) ∧ Ds.Nodup
theorem MarksAt.below {B : Nat} {W W' : World} {Ds : List Nat} (h : MarksAt B W Ds) (k : Below W.heap.size W W') : MarksAt B W' Ds := ⟨fun D hD => ⟨(h.1 D hD).1, (k.block D (Array.getElem?_eq_some_iff.1 (h.1 D hD).2).1).trans (h.1 D hD).2⟩, h.2⟩
theorem MarksAt.but {B g : Nat} {W W' : World} {Ds : List Nat} (h : MarksAt B W Ds) (k : But g W W') {v : Value} (hg : W.cell? ⟨g, 0, none⟩ = some v) : MarksAt B W' Ds := ⟨fun D hD => ⟨(h.1 D hD).1, (k.block D (Array.getElem?_eq_some_iff.1 (h.1 D hD).2).1 (fun e => by
  obtain ⟨o, ho, hc⟩ := cells_of_cell hg
  have : D = g := by simpa using e
  dsimp only at ho
  rw [← this, (h.1 D hD).2] at ho
  injection ho with ho
  rw [← ho] at hc
  cases hc)).trans (h.1 D hD).2⟩, h.2⟩
theorem leave_marks {F : Fence} {n : Nat} {P : Program} {fn : Func} {tmps : Array Value} {R : Ending → World → Prop} (B : Nat) (I : World → Prop) (hI : ∀ W W' D, I W → B ≤ D → W.grownBy W' (some D) → I W') (hR : ∀ W, I W → LeavesIn F n P fn tmps R [] .returning W) :
    ∀ (Ds : List Nat) (W : World), MarksAt B W Ds → I W → LeavesInM F n P fn tmps R (Ds.map mk1) .returning W
  | [], W, _, h => hR W h
  | D :: Ds, W, hm, h => by
    have hD := hm.1 D (List.mem_cons_self ..)
    have hn := List.nodup_cons.1 hm.2
    refine ⟨by simp, .inl ⟨D, _, rfl, run_takeDeferred hD.2, ?_⟩⟩
    refine leave_marks B I hI hR Ds _ ⟨fun E hE => ⟨(hm.1 E (List.mem_cons_of_mem _ hE)).1, (World.putObj_heap_other (fun e => hn.1 (by rw [← e]; exact hE))).trans (hm.1 E (List.mem_cons_of_mem _ hE)).2⟩, hn.2⟩ (hI W _ D h hD.1 (grownBy_putObj' W D (.deferred none)))
set_option maxHeartbeats 8000000 in
set_option maxRecDepth 100000 in
theorem level12_any (w : World) (v : Value) (G : List Cls) (U : Nat → Value) (m : Nat) (la : Option Addr) (lc n : Nat) (Rs : List R4) (h : GSee w v G U) (hg : GG G m) (hRs : RectsIn w la Rs) (hn : n = Rs.length) (hnc : n ≤ lc) (hn4 : n ≤ 1000) :
    Calls Tryd.prog 18 #[v, .slice la n lc] w fun x w' => x = .returned (.int .u8 (b01 (levA G m Rs))) ∧ Below w.heap.size w w' := by
  have HPI := Lib.hid (fun (wx : World) (hb : Below w.heap.size w wx) (r : R4) (hr : r.Ok) => pieces_any wx v G U m r (h.below hb) hg hr)
  have HS := Lib.hid h
  have HGG := Lib.hid hg
  have HRS := Lib.hid hRs
  have HNL := Lib.hid hn
  have HNC := Lib.hid hnc
  obtain ⟨fin, hfin⟩ : ∃ fin, fin = b01 (levA G m Rs) := ⟨_, rfl⟩
  have HFIN := Lib.hid hfin
  rw [← hfin]
  obtain ⟨a, c, hv⟩ := h.shape
  obtain ⟨N, hN⟩ : ∃ N, N = G.length := ⟨_, rfl⟩
  rw [← hN] at hv
  subst hv
  have HN := Lib.hid hN
  obtain ⟨w0, hw0⟩ : ∃ W0, W0 = w.alloc (.cells #[.int .u8 0] 43) := ⟨_, rfl⟩
  obtain ⟨b5, hb5⟩ : ∃ b, b = w.heap.size := ⟨_, rfl⟩
  have HB0 := Lib.hid (show Below w.heap.size w w0 by rw [hw0]; exact (Below.refl _ _).alloc (Nat.le_refl _) _)
  have HC5 := Lib.hid (show w0.heap[b5]? = some (.cells #[.int .u8 0] 43 (0, 0)) by rw [hw0, hb5]; exact World.alloc_heap_new _ _)
  have HC0 := Lib.hid (show w0.cell? ⟨b5, 0, none⟩ = some (.int .u8 0) ∧ w0.frozen? ⟨b5, 0, none⟩ = false by rw [hw0, hb5]; exact ⟨by simp, by simp⟩)
  have HL5 := Lib.hid (show b5 < w0.heap.size ∧ w.heap.size ≤ b5 ∧ w.heap.size ≤ w0.heap.size by rw [hw0, hb5]; exact ⟨by simp, by omega, by simp⟩)
  clear h hg hRs hn hN hfin hnc
  refine (callsIn_wide (n := 0)).1 ?_
  refine callsIn_of_wp_marks Tryd.func18 rfl trivial ?_ rfl
  simp only [Tryd.ntmps18, List.size_toArray, List.length_cons, List.length_nil, Nat.reduceAdd, Nat.reduceSub, Array.replicate_succ, Array.replicate_zero, List.push_toArray, List.append_toArray, List.nil_append, List.cons_append]
  gi_wp2_with fail
  refine ⟨trivial, rfl, ?_⟩
  refine (callsIn_wide.2 (join_none w)).mono ?_
  rintro e w1 ⟨rfl, rfl⟩
  gi_wp2
  rw [← hw0, ← hb5]
  clear hw0 hb5
  refine wpIn_loop (fun a0 W => ∃ (j : Nat) (Ds : List Nat) (US : Value), (∃ u6 u7 u8 u9 u14 u15 u16 u17 u18 u19 u20 u21 u22 u23 u24 u25 u26 u27 u28 u29 u30 : Value, a0 = { tmps := #[Value.slice a N c, .slice la n lc, undef, undef, .int .u8 0, .pointer (some ⟨b5, 0, none⟩), u6, u7, u8, u9, .int .u8 0, .slice la n lc, .int .i64 (n : Nat), .int .i64 (j : Nat), u14, u15, u16, u17, u18, u19, u20, u21, u22, u23, u24, u25, u26, u27, u28, u29, u30], defers := Ds.map mk1 }) ∧ j ≤ n ∧ MarksAt w0.heap.size W Ds ∧ But b5 w0 W ∧ W.cell? ⟨b5, 0, none⟩ = some (.int .u8 (b01 (levA G m (Rs.take j)))) ∧ W.frozen? ⟨b5, 0, none⟩ = false) (fun a0 _ => n - (intOf (a0.tmps.getD 13 undef)).toNat) ?start ?round
  case start => exact ⟨0, [], undef, ⟨_, _, _, _, _, _, _, _, _, _, _, _, _, _, _, _, _, _, _, _, _, rfl⟩, Nat.zero_le _, ⟨fun _ h => (by cases h), List.nodup_nil⟩, But.refl _ _, by rw [List.take_zero]; exact HC0.out.1, HC0.out.2⟩
  case round =>
    rintro a0 W ⟨j, Ds, _, ⟨u6, u7, u8, u9, u14, u15, u16, u17, u18, u19, u20, u21, u22, u23, u24, u25, u26, u27, u28, u29, u30, rfl⟩, hj, hM, hB, hC, hF⟩
    have HM := Lib.hid hM
    have HB := Lib.hid hB
    have HC := Lib.hid (And.intro hC hF)
    clear hM hB hC hF
    by_cases hlt : j < n
    · have hltR : j < Rs.length := by rw [← HNL.out]; exact hlt
      obtain ⟨s, o, rfl, hs, ⟨r0, r1, r2, r3⟩, hok⟩ := HRS.out j hltR
      obtain ⟨r, hr⟩ : ∃ r, r = Rs.getD j ⟨0, 0, 0, 0⟩ := ⟨_, rfl⟩
      have HLA := Lib.hid (levA_step G m Rs j hltR)
      rw [← hr] at r0 r1 r2 r3 hok HLA
      obtain ⟨k, hk⟩ : ∃ k, k = clipM r G.length m := ⟨_, rfl⟩
      have HKI := Lib.hid (show k.In G.length m by rw [hk]; exact clip_in _ _ _)
      obtain ⟨sb, hsb⟩ : ∃ sb, sb = levA G m (Rs.take j) := ⟨_, rfl⟩
      rw [← hk, ← hsb] at HLA
      rw [← hsb] at HC
      have HBW := Lib.hid (show Below w.heap.size w W from HB0.out.trans (HB.out.below HL5.out.2.1 HL5.out.2.2))
      have HP := Lib.hid (fun (wx : World) (hb : Below w.heap.size w wx) => HPI.out wx hb r hok)
      rw [← hk] at HP
      obtain ⟨t, l, nn, cc⟩ := r
      dsimp only at r0 r1 r2 r3
      have q0 := (HBW.out.cell (p := ⟨s, o + j * 4, none⟩) hs).trans r0
      have q1 := (HBW.out.cell (p := ⟨s, o + j * 4 + 1, none⟩) hs).trans r1
      have q2 := (HBW.out.cell (p := ⟨s, o + j * 4 + 2, none⟩) hs).trans r2
      have q3 := (HBW.out.cell (p := ⟨s, o + j * 4 + 3, none⟩) hs).trans r3
      obtain ⟨w7, hw7⟩ : ∃ x, x = W.alloc (.cells #[.int .i64 t, .int .i64 l, .int .i64 nn, .int .i64 cc] 30) := ⟨_, rfl⟩
      obtain ⟨b7, hb7⟩ : ∃ b, b = W.heap.size := ⟨_, rfl⟩
      have HB7 := Lib.hid (show Below W.heap.size W w7 by rw [hw7]; exact (Below.refl _ _).alloc (Nat.le_refl _) _)
      have HBW7 := Lib.hid (show Below w.heap.size w w7 from HBW.out.trans (HB7.out.mono HBW.out.size))
      have HJN := Lib.hid hlt
      have HP7 := Lib.hid (HP.out w7 HBW7.out)
      have hnc := HNC.out
      clear hs r0 r1 r2 r3 hok hr hk hsb hltR HP
      gi_wp2_with fail
      rw [← hw7, ← hb7]
      clear hw7 hb7
      refine ⟨trivial, rfl, ?_⟩
      refine (callsIn_wide.2 HP7.out).mono ?_
      rintro e wp ⟨br, bg, rfl, hbr, hbg, hq, hcg, bp⟩
      have HBR := Lib.hid hbr
      have HBG := Lib.hid hbg
      have HQ := Lib.hid hq
      have HCG := Lib.hid hcg
      have HBP := Lib.hid (show Below W.heap.size W wp from HB7.out.trans (bp.mono HB7.out.size))
      have HPB := Lib.hid (show Below w.heap.size w wp from HBW.out.trans (HBP.out.mono HBW.out.size))
      have HL5W := Lib.hid (show b5 < W.heap.size from Nat.lt_of_lt_of_le HL5.out.1 HB.out.size)
      have HNB := Lib.hid (show br ≠ b5 ∧ bg ≠ b5 ∧ b5 < wp.heap.size ∧ W.heap.size ≤ wp.heap.size by have := HL5W.out; have := HB7.out.size; have := HBP.out.size; exact ⟨by omega, by omega, by omega, by omega⟩)
      have HCP := Lib.hid (show wp.cell? ⟨b5, 0, none⟩ = some (.int .u8 (b01 sb)) ∧ wp.frozen? ⟨b5, 0, none⟩ = false from ⟨(HBP.out.cell (p := ⟨b5, 0, none⟩) HL5W.out).trans HC.out.1, (HBP.out.frozen (p := ⟨b5, 0, none⟩) HL5W.out).trans HC.out.2⟩)
      have HSP := Lib.hid (HS.out.below HPB.out)
      have HIT := Lib.hid (pieces_iter br bg (.slice a N c) k U (by have := HKI.out.r; have := HGG.out.n1; omega) (by have := HKI.out.c; have := HGG.out.m1; omega) (heads_of HS.out HGG.out HKI.out))
      clear hbr hbg hq hcg bp HP7 q0 q1 q2 q3
      gi_wp2
      refine wp_rangeA (gf := 55) (pre := #[]) (post := #[.pointer (some ⟨br, 0, none⟩), .pointer (some ⟨bg, 0, none⟩)]) rfl (enters_of Tryd.func55 (by kernel_rfl) rfl) HIT.out (fun _ => rfl)
        (fun i X => i ≤ k.n ∧ But b5 wp X ∧ X.cell? ⟨b5, 0, none⟩ = some (.int .u8 (b01 (sb || levB G k i))) ∧ X.frozen? ⟨b5, 0, none⟩ = false)
        (fun i a' X => a' = { tmps := #[Value.slice a N c, .slice (some ⟨s, o, none⟩) n lc, undef, undef, .int .u8 0, .pointer (some ⟨b5, 0, none⟩), u6, .pointer (some ⟨b7, 0, none⟩), u8, cutV (U (k.t + i)) k.l k.c, .int .u8 0, .slice (some ⟨s, o, none⟩) n lc, .int .i64 (n : Nat), .int .i64 (j : Nat), .bool true, .pointer (some ⟨s, o + j * 4, none⟩), .agg #[.int .i64 t, .int .i64 l, .int .i64 nn, .int .i64 cc], .slice a N c, .agg #[.int .i64 t, .int .i64 l, .int .i64 nn, .int .i64 cc], .func (.func 55) #[] #[.pointer (some ⟨br, 0, none⟩), .pointer (some ⟨bg, 0, none⟩)], posV (k.t + i) k.l, cutV (U (k.t + i)) k.l k.c, u22, u23, u24, u25, u26, u27, u28, u29, u30], defers := [] } ∧ i ≤ k.n ∧ But b5 wp X ∧ X.cell? ⟨b5, 0, none⟩ = some (.int .u8 (b01 (sb || levB G k i))) ∧ X.frozen? ⟨b5, 0, none⟩ = false)
        ?hI ?hA ?hH ?h0 ?assign ?body ?done
      case hI =>
        rintro i X X' row ⟨s1, s2, s3, s4⟩ hg hr
        have hr' := fun r e => (hr r e).2
        exact ⟨s1, s2.turn hg (Nat.le_refl _) (fun r e => (hr r e).1), cell_kept s3 hg hr', (frozen_kept s3 hg hr').trans s4⟩
      case hA =>
        rintro i a' _ X X' row ⟨e, s1, s2, s3, s4⟩ hg hr
        have hr' := fun r e => (hr r e).2
        exact ⟨e, s1, s2.turn hg (Nat.le_refl _) (fun r e => (hr r e).1), cell_kept s3 hg hr', (frozen_kept s3 hg hr').trans s4⟩
      case hH =>
        rintro i X ⟨s1, s2, s3, s4⟩
        refine hrp_of (HQ.out.but s2 HNB.out.1) (s2.cell HCG.out HNB.out.2.1) fun h0 => ?_
        have hN0 : 0 < N := by have := HKI.out.r; rw [← HN.out] at this; omega
        obtain ⟨g, og, cp, e1, e2, _, e4⟩ := HSP.out.open (by rw [← HN.out]; exact hN0)
        rw [← HN.out] at e1 e2 e4
        refine ⟨g, og, N, cp, e1, by have := HKI.out.r; rw [← HN.out] at this; exact this, e2, fun q hq => s2.cell (e4 q hq) ?_⟩
        obtain ⟨g', o', _, e5, _, e6, _⟩ := HS.out.open (by rw [← HN.out]; exact hN0)
        rw [e1] at e5
        injection e5 with e5
        injection e5 with e5
        injection e5 with e5
        show g ≠ b5
        have := HL5.out
        omega
      case h0 => exact ⟨Nat.zero_le _, But.refl _ _, by simpa [levB] using HCP.out.1, HCP.out.2⟩
      case assign =>
        intro ll i X K hk hW hI hK
        have HK := Lib.hid hK
        have HI := Lib.hid hI
        have HE := Lib.hid (show encP k U i = #[posV (k.t + i) k.l, cutV (U (k.t + i)) k.l k.c] from rfl)
        clear hK hI
        rw [HE.out]
        obtain ⟨cv, hcv⟩ : ∃ cv, cv = cutV (U (k.t + i)) k.l k.c := ⟨_, rfl⟩
        have HCV := Lib.hid hcv
        rw [← hcv]
        clear hcv
        gi_wp2
        exact HK.out _ _ (KeepsFrom.refl _ _) ⟨by rw [HCV.out], HI.out⟩
      case body =>
        rintro ll i a' X hk hW ⟨rfl, s1, s2, s3, s4⟩
        obtain ⟨hpi, hpl⟩ := piece_in HS.out HGG.out HKI.out hk
        have hlv : Lv (cellsK G k i) := by
          have hr := HKI.out.r
          exact ((HGG.out.at (show k.t + i < G.length by omega)).2.2.drop _).take _
        obtain ⟨R, hR⟩ : ∃ R, R = cellsK G k i := ⟨_, rfl⟩
        have HSR := Lib.hid (levB_step G k i)
        rw [← hR] at hpi hpl hlv HSR
        obtain ⟨y, hy⟩ : ∃ y, y = b01 (sb || levB G k i) := ⟨_, rfl⟩
        rw [← hy] at s3
        obtain ⟨lr, hlr⟩ : ∃ lr, lr = b01 (R.any fun c => c.l != 0) := ⟨_, rfl⟩
        obtain ⟨z, hz⟩ : ∃ z, z = max y lr := ⟨_, rfl⟩
        have HZ := Lib.hid (show max y lr = z from hz.symm)
        have HNEW := Lib.hid (show b01 (sb || levB G k (i + 1)) = z by rw [HSR.out, hz, hy, hlr, b01_max, Bool.or_assoc])
        have HY01 := Lib.hid (show y = 0 ∨ y = 1 by rw [hy]; exact b01_or _)
        have HR01 := Lib.hid (show lr = 0 ∨ lr = 1 by rw [hlr]; exact b01_or _)
        obtain ⟨cv, hcv⟩ : ∃ cv, cv = cutV (U (k.t + i)) k.l k.c := ⟨_, rfl⟩
        rw [← hcv] at hpi ⊢
        obtain ⟨ca, cp, hcs⟩ := hpi.shape
        obtain ⟨q, hq⟩ : ∃ q, q = R.length := ⟨_, rfl⟩
        rw [← hq] at hcs
        subst hcs
        have HLEV := Lib.hid (fun (wx : World) (hb : Below w.heap.size w wx) => (show Calls Tryd.prog 39 #[.slice ca q cp, .int .i64 0, .int .i64 (q : Nat)] wx fun e w' => e = .returned (.int .u8 lr) ∧ Below wx.heap.size wx w' by
          have := level_any wx (.slice ca q cp) R 0 (q : Nat) (hpi.below hb) hlv (by rw [hpl]; have := HKI.out.c; have := HGG.out.m1; omega)
          rw [level_row hlv hq, ← hlr] at this
          exact this))
        have HBX := Lib.hid s2
        have HIK := Lib.hid hk
        have HWW := Lib.hid hW
        have HCX := Lib.hid (And.intro s3 s4)
        obtain ⟨wd, hwd⟩ : ∃ wd, wd = X.drew := ⟨_, rfl⟩
        have HDW := Lib.hid (show Below X.heap.size X wd by rw [hwd]; exact (Below.refl _ _).drew)
        have HL5X := Lib.hid (show b5 < X.heap.size from Nat.lt_of_lt_of_le HNB.out.2.2.1 s2.size)
        have HL5D := Lib.hid (show b5 < wd.heap.size from Nat.lt_of_lt_of_le HL5X.out HDW.out.size)
        have HCD := Lib.hid (show wd.cell? ⟨b5, 0, none⟩ = some (.int .u8 y) ∧ wd.frozen? ⟨b5, 0, none⟩ = false from ⟨(HDW.out.cell (p := ⟨b5, 0, none⟩) HL5X.out).trans s3, (HDW.out.frozen (p := ⟨b5, 0, none⟩) HL5X.out).trans s4⟩)
        have HBWD := Lib.hid (show Below w.heap.size w wd from (HPB.out.trans (s2.below HL5.out.2.1 HPB.out.size)).trans (HDW.out.mono (Nat.le_trans HPB.out.size s2.size)))
        clear hcv hpi hR hpl hq hy hlr hz hlv s1 s2 s3 s4 hk hW
        refine wpIn_block ?_
        refine region_round ll 0 (S := fun _ => True) (by kernel_rfl) (by kernel_rfl) (fun ⟨_, _, h⟩ => h) trivial (fun hHeld => ?_)
        rw [← hwd]
        clear hwd
        refine tk 1 rfl (fun w hSw => by (try dsimp only at hSw); go_simp; try with_reducible rfl) ?_
        go_frame
        refine tk 2 rfl (fun w hSw => by (try dsimp only at hSw); go_simp; try with_reducible rfl) ?_
        go_frame
        refine tk 3 rfl (fun w hSw => by (try dsimp only at hSw); go_simp; try with_reducible rfl) ?_
        go_frame
        refine two_at (i := 0) (j := 4) rfl rfl (by kernel_rfl) (by kernel_rfl) (by kernel_rfl) (fun K hK => ?_) (fun K hK => ?_)
        · have hc := HCD.out.1
          go_simp
          clear hc
          refine hK.out _ _ ?_ (fun hHeld => ?_)
          · trivial
          clear hK K
          try go_frame
          refine do_at (i := 4) rfl (by kernel_rfl) (by kernel_rfl) (fun K hK => ?_)
          go_simp
          refine (HLEV.out wd HBWD.out).mono ?_
          rintro e w6 ⟨rfl, b6⟩
          have HB6 := Lib.hid b6
          clear b6
          go_wp2_with fail
          refine hK.out _ _ ?_ (fun hHeld => ?_)
          · trivial
          clear hK K
          try go_frame
          have HC6 := Lib.hid (show w6.cell? ⟨b5, 0, none⟩ = some (.int .u8 y) ∧ w6.frozen? ⟨b5, 0, none⟩ = false from ⟨(HB6.out.cell (p := ⟨b5, 0, none⟩) HL5D.out).trans HCD.out.1, (HB6.out.frozen (p := ⟨b5, 0, none⟩) HL5D.out).trans HCD.out.2⟩)
          obtain ⟨b9, hb9⟩ : ∃ b, b = w6.heap.size := ⟨_, rfl⟩
          obtain ⟨w8, hw8⟩ : ∃ x, x = w6.alloc (.cells #[.int .u8 y, .int .u8 lr] 43) := ⟨_, rfl⟩
          have HB8 := Lib.hid (show Below w6.heap.size w6 w8 by rw [hw8]; exact (Below.refl _ _).alloc (Nat.le_refl _) _)
          have HJ8 := Lib.hid (show Calls Tryd.prog 38 #[.slice (some ⟨b9, 0, none⟩) 2 2] w8 fun e w' => e = .returned (.int .u8 z) ∧ w8 = w' by rw [← HZ.out]; exact join_two w8 b9 y lr HY01.out HR01.out (by rw [hw8, hb9]; simp) (by rw [hw8, hb9]; simp))
          have HC8 := Lib.hid (show w8.cell? ⟨b5, 0, none⟩ = some (.int .u8 y) ∧ w8.frozen? ⟨b5, 0, none⟩ = false from ⟨(HB8.out.cell (p := ⟨b5, 0, none⟩) (World.block_lt_of_cell? w6 ⟨b5, 0, none⟩ HC6.out.1)).trans HC6.out.1, (HB8.out.frozen (p := ⟨b5, 0, none⟩) (World.block_lt_of_cell? w6 ⟨b5, 0, none⟩ HC6.out.1)).trans HC6.out.2⟩)
          refine do_at (i := 5) rfl (by kernel_rfl) (by kernel_rfl) (fun K hK => ?_)
          go_simp
          rw [← hw8, ← hb9]
          clear hw8 hb9
          refine hK.out _ _ ?_ (fun hHeld => ?_)
          · trivial
          clear hK K
          try go_frame
          refine do_at (i := 6) rfl (by kernel_rfl) (by kernel_rfl) (fun K hK => ?_)
          go_simp
          refine HJ8.out.mono ?_
          rintro e w9 ⟨rfl, rfl⟩
          go_wp2_with fail
          refine hK.out _ _ ?_ (fun hHeld => ?_)
          · trivial
          clear hK K
          try go_frame
          refine do_at (i := 7) rfl (by kernel_rfl) (by kernel_rfl) (fun K hK => ?_)
          have hc8 := HC8.out.1
          have hf8 := HC8.out.2
          go_simp
          clear hc8 hf8
          refine hK.out _ _ ?_ (fun hHeld => ?_)
          · trivial
          clear hK K
          try go_frame
          refine wpAnyH_done (by kernel_rfl) ?_ _
          have HBF := Lib.hid (show Below X.heap.size X w8 from (HDW.out.trans (HB6.out.mono HDW.out.size)).trans (HB8.out.mono (Nat.le_trans HDW.out.size HB6.out.size)))
          refine ⟨((keeps_below HBF.out).trans (KeepsOthers.setCell _ _ _)).from _, by have := HIK.out; omega, (HBX.out.trans (But.of HBF.out)).trans (But.set w8 b5 0 _), ?_, ?_⟩
          · rw [HNEW.out]
            exact World.cell?_setCell_same' w8 ⟨b5, 0, none⟩ (.int .u8 z) (by rw [HC8.out.1]; rfl)
          · rw [World.frozen?_setCell]
            exact HC8.out.2
        · go_simp
          refine (HLEV.out wd HBWD.out).mono ?_
          rintro e w6 ⟨rfl, b6⟩
          have HB6 := Lib.hid b6
          clear b6
          go_wp2_with fail
          refine hK.out _ _ ?_ (fun hHeld => ?_)
          · trivial
          clear hK K
          try go_frame
          refine do_at (i := 0) rfl (by kernel_rfl) (by kernel_rfl) (fun K hK => ?_)
          have hc : w6.cell? ⟨b5, 0, none⟩ = some (.int .u8 y) := (HB6.out.cell (p := ⟨b5, 0, none⟩) HL5D.out).trans HCD.out.1
          go_simp
          clear hc
          refine hK.out _ _ ?_ (fun hHeld => ?_)
          · trivial
          clear hK K
          try go_frame
          have HC6 := Lib.hid (show w6.cell? ⟨b5, 0, none⟩ = some (.int .u8 y) ∧ w6.frozen? ⟨b5, 0, none⟩ = false from ⟨(HB6.out.cell (p := ⟨b5, 0, none⟩) HL5D.out).trans HCD.out.1, (HB6.out.frozen (p := ⟨b5, 0, none⟩) HL5D.out).trans HCD.out.2⟩)
          obtain ⟨b9, hb9⟩ : ∃ b, b = w6.heap.size := ⟨_, rfl⟩
          obtain ⟨w8, hw8⟩ : ∃ x, x = w6.alloc (.cells #[.int .u8 y, .int .u8 lr] 43) := ⟨_, rfl⟩
          have HB8 := Lib.hid (show Below w6.heap.size w6 w8 by rw [hw8]; exact (Below.refl _ _).alloc (Nat.le_refl _) _)
          have HJ8 := Lib.hid (show Calls Tryd.prog 38 #[.slice (some ⟨b9, 0, none⟩) 2 2] w8 fun e w' => e = .returned (.int .u8 z) ∧ w8 = w' by rw [← HZ.out]; exact join_two w8 b9 y lr HY01.out HR01.out (by rw [hw8, hb9]; simp) (by rw [hw8, hb9]; simp))
          have HC8 := Lib.hid (show w8.cell? ⟨b5, 0, none⟩ = some (.int .u8 y) ∧ w8.frozen? ⟨b5, 0, none⟩ = false from ⟨(HB8.out.cell (p := ⟨b5, 0, none⟩) (World.block_lt_of_cell? w6 ⟨b5, 0, none⟩ HC6.out.1)).trans HC6.out.1, (HB8.out.frozen (p := ⟨b5, 0, none⟩) (World.block_lt_of_cell? w6 ⟨b5, 0, none⟩ HC6.out.1)).trans HC6.out.2⟩)
          refine do_at (i := 5) rfl (by kernel_rfl) (by kernel_rfl) (fun K hK => ?_)
          go_simp
          rw [← hw8, ← hb9]
          clear hw8 hb9
          refine hK.out _ _ ?_ (fun hHeld => ?_)
          · trivial
          clear hK K
          try go_frame
          refine do_at (i := 6) rfl (by kernel_rfl) (by kernel_rfl) (fun K hK => ?_)
          go_simp
          refine HJ8.out.mono ?_
          rintro e w9 ⟨rfl, rfl⟩
          go_wp2_with fail
          refine hK.out _ _ ?_ (fun hHeld => ?_)
          · trivial
          clear hK K
          try go_frame
          refine do_at (i := 7) rfl (by kernel_rfl) (by kernel_rfl) (fun K hK => ?_)
          have hc8 := HC8.out.1
          have hf8 := HC8.out.2
          go_simp
          clear hc8 hf8
          refine hK.out _ _ ?_ (fun hHeld => ?_)
          · trivial
          clear hK K
          try go_frame
          refine wpAnyH_done (by kernel_rfl) ?_ _
          have HBF := Lib.hid (show Below X.heap.size X w8 from (HDW.out.trans (HB6.out.mono HDW.out.size)).trans (HB8.out.mono (Nat.le_trans HDW.out.size HB6.out.size)))
          refine ⟨((keeps_below HBF.out).trans (KeepsOthers.setCell _ _ _)).from _, by have := HIK.out; omega, (HBX.out.trans (But.of HBF.out)).trans (But.set w8 b5 0 _), ?_, ?_⟩
          · rw [HNEW.out]
            exact World.cell?_setCell_same' w8 ⟨b5, 0, none⟩ (.int .u8 z) (by rw [HC8.out.1]; rfl)
          · rw [World.frozen?_setCell]
            exact HC8.out.2
      case done =>
        rintro D X hD ⟨s1, s2, s3, s4⟩ hK
        have HK := Lib.hid hK
        have HB6 := Lib.hid s2
        have HCX := Lib.hid (And.intro s3 s4)
        have HDD := Lib.hid hD
        clear s1 s2 s3 s4 hK hD
        gi_wp2
        have hm := (HM.out.below HBP.out).but HB6.out HCP.out.1
        have hw0 := HB.out.size
        refine ⟨⟨j + 1, D :: Ds, undef, ⟨_, _, _, _, _, _, _, _, _, _, _, _, _, _, _, _, _, _, _, _, _, rfl⟩, by have := HJN.out; omega, ⟨fun E hE => ?_, List.nodup_cons.2 ⟨fun hE => ?_, hm.2⟩⟩, (HB.out.trans (But.of HBP.out)).trans HB6.out, by rw [HLA.out]; exact HCX.out.1, HCX.out.2⟩, ?_⟩
        · rcases List.mem_cons.1 hE with e | e
          · subst e
            exact ⟨by have := HDD.out; have := HNB.out.2.2.2; omega, HK.out⟩
          · exact hm.1 E e
        · have h1 := (Array.getElem?_eq_some_iff.1 (HM.out.1 D hE).2).1
          have := HDD.out
          have := HNB.out.2.2.2
          omega
        · have := HJN.out
          simp [intOf]
          omega
    · obtain rfl : j = n := by omega
      have hfin : levA G m (Rs.take j) = levA G m Rs := by rw [HNL.out, List.take_length]
      have HC9 := Lib.hid (show W.cell? ⟨b5, 0, none⟩ = some (.int .u8 fin) by rw [HFIN.out, ← hfin]; exact HC.out.1)
      have hc9 := HC9.out
      clear hfin
      gi_wp2
      exact leave_marks w0.heap.size (fun X => Below w.heap.size w X) (fun X X' D h hD hg => Below.grown (row := some D) h hg h.size (fun r e => by cases e; exact Nat.le_trans HL5.out.2.2 hD)) (fun X h => ⟨_, results_tmp rfl _ _ _, rfl, h⟩) Ds W HM.out (HB0.out.trans (HB.out.below HL5.out.2.1 HL5.out.2.2))

theorem levA_one (G : List Cls) (m : Nat) (r : R4) : b01 (levA G m [r]) = levK G (clipM r G.length m) := by
  unfold levA levK b01
  simp
theorem suml_any (w : World) (v : Value) (G : List Cls) (U : Nat → Value) (m : Nat) (r : R4) (h : GSee w v G U) (hg : GG G m) (hr : r.Ok) :
    Calls Tryd.prog 15 #[v, r4V r] w fun x w' => x = .returned (.tuple #[.int .u16 (sumK G (clipM r G.length m)), .int .u8 (levK G (clipM r G.length m))]) ∧ Below w.heap.size w w' := by
  refine sum12_any w v G U m r h hg hr fun wx hb s c0 c1 c2 c3 => ?_
  have hs : s < wx.heap.size := by
    obtain ⟨o, ho, _⟩ := cells_of_cell c0
    exact (Array.getElem?_eq_some_iff.1 ho).1
  have := level12_any wx v G U m (some ⟨s, 0, none⟩) 1 1 [r] (h.below hb) hg (fun j hj => by
    obtain rfl : j = 0 := by simpa using hj
    exact ⟨s, 0, rfl, hs, ⟨c0, c1, c2, c3⟩, hr⟩) rfl (Nat.le_refl _) (by omega)
  rwa [levA_one] at this
end Go.Proofs.YtlaafmjiiiaceaaDoor.Lab
