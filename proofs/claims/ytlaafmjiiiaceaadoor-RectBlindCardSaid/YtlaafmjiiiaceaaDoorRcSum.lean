/- The project's number, Sum and Level of rectangles. -/
import Derived.Test.YtlaafmjiiiaceaaDoorRcLaid
import Derived.Test.YtlaafmjiiiaceaaDoorRpLev
set_option linter.unusedVariables false
namespace Go.Proofs.YtlaafmjiiiaceaaDoor.Lab
open Go Go.RowKit Go.Shelf
attribute [local go_sem] Oper.semAt_some

theorem wrapu (n : Int) : IntKind.u16.wrap n = n % 65536 := by simp [IntKind.wrap, IntKind.bits, IntKind.signed]
theorem idx_m (x y : Int) (w : World) : (Instr.index 56 (.agg #[.int .i32 x, .int .i32 y]) (.int .i64 0)).run Tryd.prog w = .ok (.int .i32 x) w ∧ (Instr.index 56 (.agg #[.int .i32 x, .int .i32 y]) (.int .i64 1)).run Tryd.prog w = .ok (.int .i32 y) w := by
  constructor <;> simp [Instr.index, run_underlying Tryd.underlying56, asIntOf, part, go_sem]
set_option maxHeartbeats 4000000 in
theorem number_any (w : World) (c : Cel) : Calls Tryd.prog 35 #[celV c] w fun e w' => e = .returned (.int .u16 (numC c % 65536)) ∧ Below w.heap.size w w' := by
  obtain ⟨w0, hw0⟩ : ∃ w0, w0 = w.alloc (.cells #[.int .i32 c.ru, .int .i32 c.m0, .int .i32 c.m1, .int .u8 c.k, .int .u8 c.a.fg.k, .int .u8 c.a.fg.r, .int .u8 c.a.fg.g, .int .u8 c.a.fg.b, .int .u8 c.a.bg.k, .int .u8 c.a.bg.r, .int .u8 c.a.bg.g, .int .u8 c.a.bg.b, .int .u16 (c.a.fl : Nat), .int .u8 c.l] 62) := ⟨_, rfl⟩
  obtain ⟨b, hb⟩ : ∃ b, b = w.heap.size := ⟨_, rfl⟩
  have HB0 := Lib.hid (show Below w.heap.size w w0 by rw [hw0]; exact (Below.refl _ _).alloc (Nat.le_refl _) _)
  have HA := Lib.hid (show BAt w0 b c by rw [hw0]; exact BAt.newAt _ b hb c _)
  obtain ⟨a0, ha⟩ : ∃ a0, a0 = (256 * (c.a.fl : Int)) % 65536 := ⟨_, rfl⟩
  obtain ⟨x0, hx0⟩ : ∃ x0, x0 = c.m0 % 65536 := ⟨_, rfl⟩
  obtain ⟨x1, hx1⟩ : ∃ x1, x1 = c.m1 % 65536 := ⟨_, rfl⟩
  obtain ⟨r0, hr0⟩ : ∃ r0, r0 = c.ru % 65536 := ⟨_, rfl⟩
  obtain ⟨s0, hs0⟩ : ∃ s0, s0 = if c.k = 2 then a0 else if c.ru = 0 then (a0 + 32) % 65536 else (a0 + r0) % 65536 := ⟨_, rfl⟩
  obtain ⟨d0, hd0⟩ : ∃ d0, d0 = (s0 + x0) % 65536 := ⟨_, rfl⟩
  obtain ⟨d1, hd1⟩ : ∃ d1, d1 = (d0 + x1) % 65536 := ⟨_, rfl⟩
  have HE := Lib.hid (show d1 = numC c % 65536 by
    rw [hd1, hd0, hs0, ha, hx0, hx1, hr0]
    unfold numC
    split
    · omega
    · split <;> omega)
  have HEV := Lib.hid (show numC c % 65536 = d1 from HE.out.symm)
  rw [HEV.out]
  have u0 : IntKind.u16.wrap (256 * (c.a.fl : Int)) = a0 := by rw [wrapu]; exact ha.symm
  have u1 : IntKind.u16.wrap c.m0 = x0 := by rw [wrapu]; exact hx0.symm
  have u2 : IntKind.u16.wrap c.m1 = x1 := by rw [wrapu]; exact hx1.symm
  have u3 : IntKind.u16.wrap c.ru = r0 := by rw [wrapu]; exact hr0.symm
  have u4 : IntKind.u16.wrap (s0 + x0) = d0 := by rw [wrapu]; exact hd0.symm
  have u5 : IntKind.u16.wrap (d0 + x1) = d1 := by rw [wrapu]; exact hd1.symm
  have u6 : c.k ≠ 2 → c.ru = 0 → IntKind.u16.wrap (a0 + 32) = s0 := fun h1 h2 => by rw [wrapu, hs0, if_neg h1, if_pos h2]
  have u7 : c.k ≠ 2 → c.ru ≠ 0 → IntKind.u16.wrap (a0 + r0) = s0 := fun h1 h2 => by rw [wrapu, hs0, if_neg h1, if_neg h2]
  have u8 : c.k = 2 → a0 = s0 := fun h1 => by rw [hs0, if_pos h1]
  have H6 := Lib.hid u6
  have H7 := Lib.hid u7
  have H8 := Lib.hid u8
  have i0 := fun w => (idx_m c.m0 c.m1 w).1
  have i1 := fun w => (idx_m c.m0 c.m1 w).2
  clear ha hx0 hx1 hr0 hs0 hd0 hd1 u6 u7 u8
  obtain ⟨_, ⟨y0, y1, y2, y3, y4, y5, y6, y7, y8, y9, y10, y11, y12, y13⟩, _⟩ := HA.out
  by_cases hk : c.k = 2
  · have k1 : (c.k == 2) = true := by simpa using hk
    have e8 := H8.out hk
    clear hk H6 H7 H8
    go_enter Tryd.func35, Tryd.ntmps35
    go_upto_region 1 with (fail)
    rw [← hw0, ← hb]
    clear hw0 hb
    go_wp2
    refine wp_loop_rounds 3 ?_
    rw [rounds_succ]
    go_wp2
    rw [rounds_succ]
    go_wp2
    rw [rounds_succ]
    go_wp2
    go_ret
    exact ⟨rfl, HB0.out⟩
  · have k1 : (c.k == 2) = false := by simpa using hk
    by_cases hru : c.ru = 0
    · have k2 : (c.ru == 0) = true := by simpa using hru
      have e6 := H6.out hk hru
      clear hk hru H6 H7 H8
      go_enter Tryd.func35, Tryd.ntmps35
      go_upto_region 1 with (fail)
      rw [← hw0, ← hb]
      clear hw0 hb
      go_wp2
      refine wp_loop_rounds 3 ?_
      rw [rounds_succ]
      go_wp2
      rw [rounds_succ]
      go_wp2
      rw [rounds_succ]
      go_wp2
      go_ret
      exact ⟨rfl, HB0.out⟩
    · have k2 : (c.ru == 0) = false := by simpa using hru
      have e7 := H7.out hk hru
      clear hk hru H6 H7 H8
      go_enter Tryd.func35, Tryd.ntmps35
      go_upto_region 1 with (fail)
      rw [← hw0, ← hb]
      clear hw0 hb
      go_wp2
      refine wp_loop_rounds 3 ?_
      rw [rounds_succ]
      go_wp2
      rw [rounds_succ]
      go_wp2
      rw [rounds_succ]
      go_wp2
      go_ret
      exact ⟨rfl, HB0.out⟩
theorem But.turn {g B : Nat} {w W W' : World} {row : Option Nat} (h : But g w W) (hg : W.grownBy W' row) (hB : w.heap.size ≤ B) (hr : ∀ r, row = some r → B ≤ r) : But g w W' := by
  refine ⟨hg.os.trans h.os, hg.tape.trans h.tape, hg.output.trans h.output, Nat.le_trans h.size hg.size, fun k hk hn => ?_⟩
  refine (hg.block k (Nat.lt_of_lt_of_le hk h.size) ?_).trans (h.block k hk hn)
  intro e
  have := hr k e.symm
  omega
theorem But.cell {g : Nat} {w w' : World} (h : But g w w') {a : Addr} {v : Value} (hc : w.cell? a = some v) (hn : a.block ≠ g) : w'.cell? a = some v :=
  (World.cell?_of_block (h.block a.block (World.block_lt_of_cell? w a hc) (by simp; omega))).trans hc
theorem keeps_below {w w' : World} (h : Below w.heap.size w w') : KeepsOthers w w' :=
  KeepsOthers.of_grownBy (row := none) ⟨h.os, h.tape, h.output, h.size, fun k hk _ => h.block k hk⟩ (fun _ _ e _ => by cases e)
/-- The piece of a row, as its header is cut. -/
theorem cut_row {w : World} {u : Value} {R : Cls} {l c : Nat} (h : RowIn w u R) (hl : l + c ≤ R.length) : RowIn w (cutV u l c) ((R.drop l).take c) := by
  have hlen : ((R.drop l).take c).length = c := by rw [List.length_take, List.length_drop]; omega
  obtain ⟨a, cap, e, hc, hm, hh⟩ := h
  cases a with
  | none =>
    have h0 : R.length = 0 := by
      by_cases h : 0 < R.length
      · obtain ⟨_, _, e, _⟩ := hh h
        cases e
      · omega
    obtain rfl : R = [] := List.length_eq_zero_iff.1 h0
    obtain rfl : c = 0 := by simp at hl; omega
    rw [e, List.take_zero]
    exact RowIn.nil _ _ _
  | some ad =>
    obtain ⟨g, o, x⟩ := ad
    rw [e]
    show RowIn w (.slice (some ⟨g, o + l * 14, x⟩) c (cap - l)) _
    refine ⟨_, _, by rw [hlen], by rw [hlen]; omega, by rw [hlen]; omega, fun h0 => ?_⟩
    rw [hlen] at h0
    obtain ⟨g', o', ea, hg, hC⟩ := hh (by omega)
    injection ea with ea
    injection ea with e1 e2 e3
    subst e1 e2 e3
    refine ⟨g, o + l * 14, rfl, hg, fun j hj => ?_⟩
    rw [hlen] at hj
    have := hC (l + j) (by omega)
    rw [gc_take hj, gc_drop]
    rw [Nat.add_mul, ← Nat.add_assoc] at this
    exact this
theorem piece_in {w : World} {v : Value} {G : List Cls} {U : Nat → Value} {m : Nat} {k : Rk} (h : GSee w v G U) (hg : GG G m) (hk : k.In G.length m) {i : Nat} (hi : i < k.n) : RowIn w (cutV (U (k.t + i)) k.l k.c) (cellsK G k i) ∧ (cellsK G k i).length = k.c := by
  have hr := hk.r
  have hlt : k.t + i < G.length := by omega
  obtain ⟨_, e2, _⟩ := hg.at hlt
  have hl : k.l + k.c ≤ (rowG G (k.t + i)).length := by rw [e2]; exact hk.c
  exact ⟨cut_row (h.row hlt) hl, by unfold cellsK; rw [List.length_take, List.length_drop]; omega⟩
theorem sumR_take {R : Cls} {j : Nat} (h : j < R.length) : sumR (R.take (j + 1)) = sumR (R.take j) + numC (gc R j) := by
  rw [List.take_succ_eq_append_getElem h, sumR_append, gc_eq h]
  simp [sumR, sumL]
set_option maxHeartbeats 8000000 in
set_option maxRecDepth 100000 in
theorem sum12_any (w : World) (v : Value) (G : List Cls) (U : Nat → Value) (m : Nat) (r : R4) (h : GSee w v G U) (hg : GG G m) (hr : r.Ok)
    (hlev : ∀ wx, Below w.heap.size w wx → ∀ s, wx.cell? ⟨s, 0, none⟩ = some (.int .i64 r.t) → wx.cell? ⟨s, 1, none⟩ = some (.int .i64 r.l) → wx.cell? ⟨s, 2, none⟩ = some (.int .i64 r.n) → wx.cell? ⟨s, 3, none⟩ = some (.int .i64 r.c) → Calls Tryd.prog 18 #[v, .slice (some ⟨s, 0, none⟩) 1 1] wx fun e w' => e = .returned (.int .u8 (levK G (clipM r G.length m))) ∧ Below wx.heap.size wx w') :
    Calls Tryd.prog 15 #[v, r4V r] w fun x w' => x = .returned (.tuple #[.int .u16 (sumK G (clipM r G.length m)), .int .u8 (levK G (clipM r G.length m))]) ∧ Below w.heap.size w w' := by
  have HPI := fun (wx : World) (hb : Below w.heap.size w wx) => pieces_any wx v G U m r (h.below hb) hg hr
  obtain ⟨k, hk⟩ : ∃ k, k = clipM r G.length m := ⟨_, rfl⟩
  have HKI := Lib.hid (show k.In G.length m by rw [hk]; exact clip_in _ _ _)
  rw [← hk] at HPI hlev ⊢
  have HS := Lib.hid h
  have HGG := Lib.hid hg
  have HLV := Lib.hid hlev
  obtain ⟨lv, hlv⟩ : ∃ lv, lv = levK G k := ⟨_, rfl⟩
  rw [← hlv] at HLV ⊢
  obtain ⟨sv, hsv⟩ : ∃ sv, sv = sumK G k := ⟨_, rfl⟩
  have HSV := Lib.hid hsv
  rw [← hsv]
  obtain ⟨t, l, nn, cc⟩ := r
  dsimp only at HLV
  obtain ⟨a, c, hv⟩ := h.shape
  obtain ⟨N, hN⟩ : ∃ N, N = G.length := ⟨_, rfl⟩
  rw [← hN] at hv
  subst hv
  have HN := Lib.hid hN
  obtain ⟨w0, hw0⟩ : ∃ W0, W0 = (w.alloc (.cells #[.int .i64 t, .int .i64 l, .int .i64 nn, .int .i64 cc] 30)).alloc (.cells #[.int .u16 0] 42) := ⟨_, rfl⟩
  obtain ⟨b3, hb3⟩ : ∃ b, b = w.heap.size := ⟨_, rfl⟩
  obtain ⟨b6, hb6⟩ : ∃ b, b = w.heap.size + 1 := ⟨_, rfl⟩
  have HB0 := Lib.hid (show Below w.heap.size w w0 by rw [hw0]; exact ((Below.refl _ _).alloc (Nat.le_refl _) _).alloc (by simp) _)
  have HQ0 := Lib.hid (show Q4 w0 b3 ⟨t, l, nn, cc⟩ by rw [hw0]; exact (Q4.newAt w b3 hb3 _ _ _ _ _).below ((Below.refl _ _).alloc (Nat.le_refl _) _))
  have HC6 := Lib.hid (show w0.cell? ⟨b6, 0, none⟩ = some (.int .u16 0) ∧ w0.frozen? ⟨b6, 0, none⟩ = false by rw [hw0, hb6]; exact ⟨by simp, by simp⟩)
  have HNE := Lib.hid (show b3 < w0.heap.size ∧ b6 < w0.heap.size ∧ b3 ≠ b6 ∧ w.heap.size ≤ b6 by rw [hw0, hb3, hb6]; exact ⟨by simp; omega, by simp, by omega, by omega⟩)
  have C1 := Lib.hid (HPI w0 HB0.out)
  clear h hg hr hk hN HPI hlev hlv hsv
  refine (callsIn_wide (n := 0)).1 ?_
  refine callsIn_of_wp_marks Tryd.func15 rfl trivial ?_ rfl
  simp only [Tryd.ntmps15, List.size_toArray, List.length_cons, List.length_nil, Nat.reduceAdd, Nat.reduceSub, Array.replicate_succ, Array.replicate_zero, List.push_toArray, List.append_toArray, List.nil_append, List.cons_append]
  gi_wp2_with fail
  rw [← hw0, ← hb6, ← hb3]
  clear hw0 hb6 hb3
  refine ⟨trivial, rfl, ?_⟩
  refine (callsIn_wide.2 C1.out).mono ?_
  rintro e wp ⟨br, bg, rfl, hbr, hbg, hq, hcg, bp⟩
  have HBR := Lib.hid hbr
  have HBG := Lib.hid hbg
  have HQ := Lib.hid hq
  have HCG := Lib.hid hcg
  have HBP := Lib.hid bp
  have HPB := Lib.hid (show Below w.heap.size w wp from HB0.out.trans (bp.mono HB0.out.size))
  have HQ3 := Lib.hid (HQ0.out.below bp)
  have HC6P := Lib.hid (show wp.cell? ⟨b6, 0, none⟩ = some (.int .u16 0) ∧ wp.frozen? ⟨b6, 0, none⟩ = false from ⟨(bp.cell (p := ⟨b6, 0, none⟩) HNE.out.2.1).trans HC6.out.1, (bp.frozen (p := ⟨b6, 0, none⟩) HNE.out.2.1).trans HC6.out.2⟩)
  clear hbr hbg hq hcg bp C1 HQ0 HC6
  gi_wp2
  have HSP := Lib.hid (HS.out.below HPB.out)
  have HNB := Lib.hid (show br ≠ b6 ∧ bg ≠ b6 ∧ b6 < wp.heap.size ∧ w.heap.size ≤ wp.heap.size ∧ w.heap.size ≤ b6 by have := HNE.out; have := HBR.out; have := HBG.out; have := HBP.out.size; have := HPB.out.size; exact ⟨by omega, by omega, by omega, by omega, by omega⟩)
  have HIT := Lib.hid (pieces_iter br bg (.slice a N c) k U (by have := HKI.out.r; have := HGG.out.n1; omega) (by have := HKI.out.c; have := HGG.out.m1; omega) (heads_of HS.out HGG.out HKI.out))
  refine wp_rangeA (gf := 55) (pre := #[]) (post := #[.pointer (some ⟨br, 0, none⟩), .pointer (some ⟨bg, 0, none⟩)]) rfl (enters_of Tryd.func55 (by kernel_rfl) rfl) HIT.out (fun _ => rfl)
    (fun i W => i ≤ k.n ∧ But b6 wp W ∧ W.cell? ⟨b6, 0, none⟩ = some (.int .u16 (sumTo G k i % 65536)) ∧ W.frozen? ⟨b6, 0, none⟩ = false)
    (fun i a' W => a' = { tmps := #[Value.slice a N c, r4V ⟨t, l, nn, cc⟩, undef, .pointer (some ⟨b3, 0, none⟩), .int .u16 0, .int .u8 0, .pointer (some ⟨b6, 0, none⟩), undef, cutV (U (k.t + i)) k.l k.c, undef, undef, .slice a N c, .agg #[.int .i64 t, .int .i64 l, .int .i64 nn, .int .i64 cc], .func (.func 55) #[] #[.pointer (some ⟨br, 0, none⟩), .pointer (some ⟨bg, 0, none⟩)], posV (k.t + i) k.l, cutV (U (k.t + i)) k.l k.c, undef, undef, undef, undef, undef, undef, undef, undef, undef, undef, undef, undef, undef, undef, undef, undef, undef], defers := [] } ∧ i ≤ k.n ∧ But b6 wp W ∧ W.cell? ⟨b6, 0, none⟩ = some (.int .u16 (sumTo G k i % 65536)) ∧ W.frozen? ⟨b6, 0, none⟩ = false)
    ?hI ?hA ?hH ?h0 ?assign ?body ?done
  case hI =>
    rintro i W W' row ⟨s1, s2, s3, s4⟩ hg hr
    have hr' := fun r e => (hr r e).2
    exact ⟨s1, s2.turn hg (Nat.le_refl _) (fun r e => (hr r e).1), cell_kept s3 hg hr', (frozen_kept s3 hg hr').trans s4⟩
  case hA =>
    rintro i a' _ W W' row ⟨e, s1, s2, s3, s4⟩ hg hr
    have hr' := fun r e => (hr r e).2
    exact ⟨e, s1, s2.turn hg (Nat.le_refl _) (fun r e => (hr r e).1), cell_kept s3 hg hr', (frozen_kept s3 hg hr').trans s4⟩
  case hH =>
    rintro i W ⟨s1, s2, s3, s4⟩
    refine hrp_of (HQ.out.but s2 HNB.out.1) (s2.cell HCG.out HNB.out.2.1) fun h0 => ?_
    have hN0 : 0 < N := by have := HKI.out.r; rw [← HN.out] at this; omega
    obtain ⟨g, o, cp, e1, e2, _, e4⟩ := HSP.out.open (by rw [← HN.out]; exact hN0)
    rw [← HN.out] at e1 e2 e4
    refine ⟨g, o, N, cp, e1, by have := HKI.out.r; rw [← HN.out] at this; exact this, e2, fun j hj => s2.cell (e4 j hj) ?_⟩
    obtain ⟨g', o', _, e5, _, e6, _⟩ := HS.out.open (by rw [← HN.out]; exact hN0)
    rw [e1] at e5
    injection e5 with e5
    injection e5 with e5
    injection e5 with e5
    show g ≠ b6
    have := HNB.out
    omega
  case h0 => exact ⟨Nat.zero_le _, But.refl _ _, HC6P.out.1, HC6P.out.2⟩
  case assign =>
    intro ll i W K hk hW hI hK
    have HK := Lib.hid hK
    have HI := Lib.hid hI
    have HE := Lib.hid (show encP k U i = #[posV (k.t + i) k.l, cutV (U (k.t + i)) k.l k.c] from rfl)
    clear hK hI
    rw [HE.out]
    obtain ⟨cv, hcv⟩ : ∃ cv, cv = cutV (U (k.t + i)) k.l k.c := ⟨_, rfl⟩
    have HCV := Lib.hid hcv
    rw [← hcv]
    clear hcv
    gi_wp2
    exact HK.out _ _ (KeepsFrom.refl _ _) ⟨by rw [HCV.out], HI.out⟩
  case body =>
    rintro ll i a' W hk hW ⟨rfl, s1, s2, s3, s4⟩
    obtain ⟨hpi, hpl⟩ := piece_in HS.out HGG.out HKI.out hk
    obtain ⟨R, hR⟩ : ∃ R, R = cellsK G k i := ⟨_, rfl⟩
    have HSR := Lib.hid (show sumTo G k (i + 1) = sumTo G k i + sumR R by rw [hR]; rfl)
    rw [← hR] at hpi hpl
    obtain ⟨q, hq⟩ : ∃ q, q = sumTo G k i := ⟨_, rfl⟩
    rw [← hq] at s3 HSR
    obtain ⟨cv, hcv⟩ : ∃ cv, cv = cutV (U (k.t + i)) k.l k.c := ⟨_, rfl⟩
    rw [← hcv] at hpi ⊢
    obtain ⟨ca, cp, hcs⟩ := hpi.shape
    obtain ⟨n, hn⟩ : ∃ n, n = R.length := ⟨_, rfl⟩
    rw [← hn] at hcs
    subst hcs
    have HN1 := Lib.hid hn
    have HPIN := Lib.hid hpi
    have HB2 := Lib.hid s2
    have HIK := Lib.hid hk
    have HWW := Lib.hid hW
    have HC0 := Lib.hid (And.intro s3 s4)
    have hn6 : n ≤ 600 := by rw [hn, hpl]; have := HKI.out.c; have := HGG.out.m1; omega
    clear hcv hq hpi hR hpl hn s1 s2 s3 s4 hk hW
    refine wpIn_block ?_
    gi_wp2
    gi_loopw [18] (fun vi wr => ∃ j : Nat, vi = .int .i64 j ∧ j ≤ n ∧ Hid (But b6 wp wr) ∧ Hid (wr.cell? ⟨b6, 0, none⟩ = some (.int .u16 ((q + sumR (R.take j)) % 65536)) ∧ wr.frozen? ⟨b6, 0, none⟩ = false) ∧ Hid (KeepsFrom wp.heap.size W wr)) (fun vi wr => n - (intOf vi).toNat)
    case atStart => exact ⟨0, rfl, Nat.zero_le _, HB2, Lib.hid ⟨by rw [List.take_zero]; simpa [sumR, sumL] using HC0.out.1, HC0.out.2⟩, Lib.hid (KeepsFrom.refl _ _)⟩
    case round =>
      obtain ⟨j, rfl, hj, HBW, HCW, HKW⟩ := hrel
      by_cases hlt : j < n
      · have HWR := Lib.hid (show Below w.heap.size w wr from HPB.out.trans (HBW.out.below HNB.out.2.2.2.2 HNB.out.2.2.2.1))
        obtain ⟨g, o, cp', e, _, hgw, hC⟩ := (HPIN.out.below HWR.out).open (by rw [← HN1.out]; omega)
        injection e with e1 e2 e3
        subst e1 e3
        obtain ⟨d, hd⟩ : ∃ d, d = gc R j := ⟨_, rfl⟩
        have hat := hC j (by rw [← HN1.out]; exact hlt)
        rw [← hd] at hat
        obtain ⟨y0, y1, y2, y3, y4, y5, y6, y7, y8, y9, y10, y11, y12, y13⟩ := hat
        obtain ⟨x, hx⟩ : ∃ x, x = (q + sumR (R.take j)) % 65536 := ⟨_, rfl⟩
        obtain ⟨y, hy⟩ : ∃ y, y = numC d % 65536 := ⟨_, rfl⟩
        obtain ⟨z, hz⟩ : ∃ z, z = (q + sumR (R.take (j + 1))) % 65536 := ⟨_, rfl⟩
        have HZ := Lib.hid (show (q + sumR (R.take (j + 1))) % 65536 = z from hz.symm)
        have u1 : IntKind.u16.wrap (x + y) = z := by
          rw [wrapu, hx, hy, hz, sumR_take (by rw [← HN1.out]; exact hlt), ← hd]
          omega
        have HNUM := Lib.hid (fun wx => hy ▸ number_any wx d)
        rw [← hx] at HCW
        have HJN := Lib.hid hlt
        obtain ⟨w4, hw4⟩ : ∃ w4, w4 = wr.alloc (.cells #[.int .i32 d.ru, .int .i32 d.m0, .int .i32 d.m1, .int .u8 d.k, .int .u8 d.a.fg.k, .int .u8 d.a.fg.r, .int .u8 d.a.fg.g, .int .u8 d.a.fg.b, .int .u8 d.a.bg.k, .int .u8 d.a.bg.r, .int .u8 d.a.bg.g, .int .u8 d.a.bg.b, .int .u16 (d.a.fl : Nat), .int .u8 d.l] 62) := ⟨_, rfl⟩
        obtain ⟨b10, hb10⟩ : ∃ b, b = wr.heap.size := ⟨_, rfl⟩
        have HL6R := Lib.hid (show b6 < wr.heap.size from Nat.lt_of_lt_of_le HNB.out.2.2.1 HBW.out.size)
        have HN10 := Lib.hid (show b10 ≠ b6 by have := HL6R.out; omega)
        obtain ⟨wd, hwd⟩ : ∃ wd, wd = w4.drew := ⟨_, rfl⟩
        have HDW := Lib.hid (show Below wr.heap.size wr wd by rw [hwd, hw4]; exact ((Below.refl _ _).alloc (Nat.le_refl _) _).drew)
        have HL6 := Lib.hid (show b6 < wd.heap.size from Nat.lt_of_lt_of_le HL6R.out HDW.out.size)
        have HC6D := Lib.hid (show wd.cell? ⟨b6, 0, none⟩ = some (.int .u16 x) ∧ wd.frozen? ⟨b6, 0, none⟩ = false from ⟨(HDW.out.cell (p := ⟨b6, 0, none⟩) HL6R.out).trans HCW.out.1, (HDW.out.frozen (p := ⟨b6, 0, none⟩) HL6R.out).trans HCW.out.2⟩)
        have HDD := Lib.hid (show BAt wd b10 d by rw [hwd, hw4, hb10]; exact (BAt.newAt wr _ rfl d _).below ((Below.refl _ _).drew))
        clear hx hy hz hd hC hgw e2 HWR hlt
        gi_wp2
        rw [← hw4, ← hb10]
        clear hb10 y0 y1 y2 y3 y4 y5 y6 y7 y8 y9 y10 y11 y12 y13
        refine region_round ll 0 (S := fun wx => wx.cell? ⟨b10, 0, none⟩ = some (.int .i32 d.ru) ∧ wx.cell? ⟨b10, 1, none⟩ = some (.int .i32 d.m0) ∧ wx.cell? ⟨b10, 2, none⟩ = some (.int .i32 d.m1) ∧ wx.cell? ⟨b10, 3, none⟩ = some (.int .u8 d.k) ∧ wx.cell? ⟨b10, 4, none⟩ = some (.int .u8 d.a.fg.k) ∧ wx.cell? ⟨b10, 5, none⟩ = some (.int .u8 d.a.fg.r) ∧ wx.cell? ⟨b10, 6, none⟩ = some (.int .u8 d.a.fg.g) ∧ wx.cell? ⟨b10, 7, none⟩ = some (.int .u8 d.a.fg.b) ∧ wx.cell? ⟨b10, 8, none⟩ = some (.int .u8 d.a.bg.k) ∧ wx.cell? ⟨b10, 9, none⟩ = some (.int .u8 d.a.bg.r) ∧ wx.cell? ⟨b10, 10, none⟩ = some (.int .u8 d.a.bg.g) ∧ wx.cell? ⟨b10, 11, none⟩ = some (.int .u8 d.a.bg.b) ∧ wx.cell? ⟨b10, 12, none⟩ = some (.int .u16 (d.a.fl : Nat)) ∧ wx.cell? ⟨b10, 13, none⟩ = some (.int .u8 d.l)) (by kernel_rfl) (by kernel_rfl) (fun ⟨_, _, h⟩ => h) ?_ (fun hHeld => ?_)
        · rw [← hwd]
          exact HDD.out.2.1
        rw [← hwd] at hHeld ⊢
        clear hw4 hwd
        refine tk 1 rfl (fun w hSw => by (try dsimp only at hSw); go_simp; try with_reducible rfl) ?_
        go_frame
        refine two_at (i := 0) (j := 2) rfl rfl (by kernel_rfl) (by kernel_rfl) (by kernel_rfl) (fun K hK => ?_) (fun K hK => ?_)
        · have hc6 := HC6D.out.1
          go_simp
          clear hc6
          refine hK.out _ _ ?_ (fun hHeld => ?_)
          · exact hHeld
          clear hK K
          try go_frame
          refine do_at (i := 2) rfl (by kernel_rfl) (by kernel_rfl) (fun K hK => ?_)
          go_simp
          refine (HNUM.out wd).mono ?_
          rintro e w5 ⟨rfl, b5⟩
          have HB5 := Lib.hid b5
          clear b5
          go_wp2_with fail
          refine hK.out _ _ ?_ (fun hHeld => ?_)
          · exact (HDD.out.below HB5.out).2.1
          clear hK K
          try go_frame
          refine tk 3 rfl (fun w hSw => by (try dsimp only at hSw); go_simp; try with_reducible rfl) ?_
          go_frame
          refine do_at (i := 4) rfl (by kernel_rfl) (by kernel_rfl) (fun K hK => ?_)
          have hc6 : w5.cell? ⟨b6, 0, none⟩ = some (.int .u16 x) := (HB5.out.cell (p := ⟨b6, 0, none⟩) HL6.out).trans HC6D.out.1
          have hf6 : w5.frozen? ⟨b6, 0, none⟩ = false := (HB5.out.frozen (p := ⟨b6, 0, none⟩) HL6.out).trans HC6D.out.2
          go_simp
          clear hc6 hf6
          refine hK.out _ _ ?_ (fun hHeld => ?_)
          · obtain ⟨h0, h1, h2, h3, h4, h5, h6, h7, h8, h9, h10, h11, h12, h13⟩ := hHeld
            have ot : ∀ (i : Nat) (v : Value), w5.cell? ⟨b10, i, none⟩ = some v → (w5.setCell ⟨b6, 0, none⟩ (.int .u16 z)).cell? ⟨b10, i, none⟩ = some v := fun i v h => (World.cell?_setCell_other _ _ _ _ (fun e => HN10.out (by injection e with e _ _; exact e.symm))).trans h
            exact ⟨ot _ _ h0, ot _ _ h1, ot _ _ h2, ot _ _ h3, ot _ _ h4, ot _ _ h5, ot _ _ h6, ot _ _ h7, ot _ _ h8, ot _ _ h9, ot _ _ h10, ot _ _ h11, ot _ _ h12, ot _ _ h13⟩
          clear hK K
          try go_frame
          refine wpAnyH_done (by kernel_rfl) ?_ _
          have HBZ := Lib.hid (show But b6 wp (w5.setCell ⟨b6, 0, none⟩ (.int .u16 z)) from ((HBW.out.trans (But.of HDW.out)).trans (But.of HB5.out)).trans (But.set w5 b6 0 _))
          have HKZ := Lib.hid (show KeepsFrom wp.heap.size W (w5.setCell ⟨b6, 0, none⟩ (.int .u16 z)) from ((HKW.out.trans ((keeps_below HDW.out).from _)).trans ((keeps_below HB5.out).from _)).trans ((KeepsOthers.setCell _ _ _).from _))
          have HCZ := Lib.hid (show (w5.setCell ⟨b6, 0, none⟩ (.int .u16 z)).cell? ⟨b6, 0, none⟩ = some (.int .u16 z) ∧ (w5.setCell ⟨b6, 0, none⟩ (.int .u16 z)).frozen? ⟨b6, 0, none⟩ = false from ⟨World.cell?_setCell_same' w5 ⟨b6, 0, none⟩ (.int .u16 z) (by rw [(HB5.out.cell (p := ⟨b6, 0, none⟩) HL6.out).trans HC6D.out.1]; rfl), by rw [World.frozen?_setCell]; exact (HB5.out.frozen (p := ⟨b6, 0, none⟩) HL6.out).trans HC6D.out.2⟩)
          clear hHeld HB5 HC6D HDW HBW HKW HCW u1
          gi_wp2
          go_roundw
          case rel => exact ⟨j + 1, by go_num, by have := HJN.out; omega, HBZ, Lib.hid (by rw [HZ.out]; exact HCZ.out), HKZ⟩
          case measure => have := HJN.out; simp only [intOf]; omega
        · go_simp
          refine (HNUM.out wd).mono ?_
          rintro e w5 ⟨rfl, b5⟩
          have HB5 := Lib.hid b5
          clear b5
          go_wp2_with fail
          refine hK.out _ _ ?_ (fun hHeld => ?_)
          · exact (HDD.out.below HB5.out).2.1
          clear hK K
          try go_frame
          refine do_at (i := 0) rfl (by kernel_rfl) (by kernel_rfl) (fun K hK => ?_)
          have hc6 : w5.cell? ⟨b6, 0, none⟩ = some (.int .u16 x) := (HB5.out.cell (p := ⟨b6, 0, none⟩) HL6.out).trans HC6D.out.1
          go_simp
          clear hc6
          refine hK.out _ _ ?_ (fun hHeld => ?_)
          · exact hHeld
          clear hK K
          try go_frame
          refine tk 3 rfl (fun w hSw => by (try dsimp only at hSw); go_simp; try with_reducible rfl) ?_
          go_frame
          refine do_at (i := 4) rfl (by kernel_rfl) (by kernel_rfl) (fun K hK => ?_)
          have hc6 : w5.cell? ⟨b6, 0, none⟩ = some (.int .u16 x) := (HB5.out.cell (p := ⟨b6, 0, none⟩) HL6.out).trans HC6D.out.1
          have hf6 : w5.frozen? ⟨b6, 0, none⟩ = false := (HB5.out.frozen (p := ⟨b6, 0, none⟩) HL6.out).trans HC6D.out.2
          go_simp
          clear hc6 hf6
          refine hK.out _ _ ?_ (fun hHeld => ?_)
          · obtain ⟨h0, h1, h2, h3, h4, h5, h6, h7, h8, h9, h10, h11, h12, h13⟩ := hHeld
            have ot : ∀ (i : Nat) (v : Value), w5.cell? ⟨b10, i, none⟩ = some v → (w5.setCell ⟨b6, 0, none⟩ (.int .u16 z)).cell? ⟨b10, i, none⟩ = some v := fun i v h => (World.cell?_setCell_other _ _ _ _ (fun e => HN10.out (by injection e with e _ _; exact e.symm))).trans h
            exact ⟨ot _ _ h0, ot _ _ h1, ot _ _ h2, ot _ _ h3, ot _ _ h4, ot _ _ h5, ot _ _ h6, ot _ _ h7, ot _ _ h8, ot _ _ h9, ot _ _ h10, ot _ _ h11, ot _ _ h12, ot _ _ h13⟩
          clear hK K
          try go_frame
          refine wpAnyH_done (by kernel_rfl) ?_ _
          have HBZ := Lib.hid (show But b6 wp (w5.setCell ⟨b6, 0, none⟩ (.int .u16 z)) from ((HBW.out.trans (But.of HDW.out)).trans (But.of HB5.out)).trans (But.set w5 b6 0 _))
          have HKZ := Lib.hid (show KeepsFrom wp.heap.size W (w5.setCell ⟨b6, 0, none⟩ (.int .u16 z)) from ((HKW.out.trans ((keeps_below HDW.out).from _)).trans ((keeps_below HB5.out).from _)).trans ((KeepsOthers.setCell _ _ _).from _))
          have HCZ := Lib.hid (show (w5.setCell ⟨b6, 0, none⟩ (.int .u16 z)).cell? ⟨b6, 0, none⟩ = some (.int .u16 z) ∧ (w5.setCell ⟨b6, 0, none⟩ (.int .u16 z)).frozen? ⟨b6, 0, none⟩ = false from ⟨World.cell?_setCell_same' w5 ⟨b6, 0, none⟩ (.int .u16 z) (by rw [(HB5.out.cell (p := ⟨b6, 0, none⟩) HL6.out).trans HC6D.out.1]; rfl), by rw [World.frozen?_setCell]; exact (HB5.out.frozen (p := ⟨b6, 0, none⟩) HL6.out).trans HC6D.out.2⟩)
          clear hHeld HB5 HC6D HDW HBW HKW HCW u1
          gi_wp2
          go_roundw
          case rel => exact ⟨j + 1, by go_num, by have := HJN.out; omega, HBZ, Lib.hid (by rw [HZ.out]; exact HCZ.out), HKZ⟩
          case measure => have := HJN.out; simp only [intOf]; omega
      · obtain rfl : j = n := by omega
        gi_wp2
        refine ⟨HKW.out, by have := HIK.out; omega, HBW.out, ?_, HCW.out.2⟩
        rw [HSR.out]
        have := HCW.out.1
        rw [HN1.out, List.take_length] at this
        exact this
  case done =>
    rintro D W hD ⟨s1, s2, s3, s4⟩ hK
    have HK := Lib.hid hK
    have HB6 := Lib.hid s2
    have HQW := Lib.hid (HQ3.out.but s2 HNE.out.2.2.1)
    have HBW := Lib.hid (show Below w.heap.size w W from HPB.out.trans (s2.below HNB.out.2.2.2.2 HNB.out.2.2.2.1))
    obtain ⟨s0, hs0⟩ : ∃ s0, s0 = sumTo G k k.n % 65536 := ⟨_, rfl⟩
    have u1 : IntKind.u16.wrap (-s0) = sv := by rw [wrapu, HSV.out, hs0]; unfold sumK; omega
    rw [← hs0] at s3
    obtain ⟨_, ⟨q0, q1, q2, q3⟩, _⟩ := HQW.out
    dsimp only at q0 q1 q2 q3
    obtain ⟨wd, hwd⟩ : ∃ wd, wd = W.drew := ⟨_, rfl⟩
    have HDW := Lib.hid (show Below W.heap.size W wd by rw [hwd]; exact (Below.refl _ _).drew)
    have HKD := Lib.hid (show wd.heap[D]? = some (.deferred (some [])) from (HDW.out.block D (Array.getElem?_eq_some_iff.1 hK).1).trans hK)
    have HS0 := Lib.hid (show wd.cell? ⟨b6, 0, none⟩ = some (.int .u16 s0) ∧ wd.cell? ⟨b3, 0, none⟩ = some (.int .i64 t) ∧ wd.cell? ⟨b3, 1, none⟩ = some (.int .i64 l) ∧ wd.cell? ⟨b3, 2, none⟩ = some (.int .i64 nn) ∧ wd.cell? ⟨b3, 3, none⟩ = some (.int .i64 cc) by rw [hwd]; exact ⟨s3, q0, q1, q2, q3⟩)
    have HBD := Lib.hid (show Below w.heap.size w wd from HBW.out.trans (HDW.out.mono HBW.out.size))
    clear hs0 s1 s2 s3 s4 q0 q1 q2 q3 hK
    gi_wp2
    refine wpIn_wide.2 (wp_onlyN ?_)
    refine wp_region_held_drew (S := fun wx => wx.cell? ⟨b6, 0, none⟩ = some (.int .u16 s0) ∧ wx.cell? ⟨b3, 0, none⟩ = some (.int .i64 t) ∧ wx.cell? ⟨b3, 1, none⟩ = some (.int .i64 l) ∧ wx.cell? ⟨b3, 2, none⟩ = some (.int .i64 nn) ∧ wx.cell? ⟨b3, 3, none⟩ = some (.int .i64 cc)) (by kernel_rfl) ?_ (fun hHeld => ?_)
    · rw [← hwd]
      exact HS0.out
    rw [← hwd] at hHeld ⊢
    clear hwd
    refine tk 0 rfl (fun w hSw => by (try dsimp only at hSw); go_simp; try with_reducible rfl) ?_
    go_frame
    refine tk 1 rfl (fun w hSw => by (try dsimp only at hSw); go_simp; try with_reducible rfl) ?_
    go_frame
    refine tk 2 rfl (fun w hSw => by (try dsimp only at hSw); go_simp; try with_reducible rfl) ?_
    go_frame
    refine tk 3 rfl (fun w hSw => by (try dsimp only at hSw); go_simp; try with_reducible rfl) ?_
    go_frame
    obtain ⟨b7, hb7⟩ : ∃ b, b = wd.heap.size := ⟨_, rfl⟩
    obtain ⟨w7, hw7⟩ : ∃ x, x = wd.alloc (.cells #[.int .i64 t, .int .i64 l, .int .i64 nn, .int .i64 cc] 30) := ⟨_, rfl⟩
    have HB7 := Lib.hid (show Below wd.heap.size wd w7 by rw [hw7]; exact (Below.refl _ _).alloc (Nat.le_refl _) _)
    have HQ7 := Lib.hid (show Q4 w7 b7 ⟨t, l, nn, cc⟩ by rw [hw7]; exact Q4.newAt wd b7 hb7 _ _ _ _ _)
    have HS7 := Lib.hid (show w7.cell? ⟨b6, 0, none⟩ = some (.int .u16 s0) ∧ w7.cell? ⟨b3, 0, none⟩ = some (.int .i64 t) ∧ w7.cell? ⟨b3, 1, none⟩ = some (.int .i64 l) ∧ w7.cell? ⟨b3, 2, none⟩ = some (.int .i64 nn) ∧ w7.cell? ⟨b3, 3, none⟩ = some (.int .i64 cc) by
      have kp : ∀ (a : Addr) (v : Value), wd.cell? a = some v → w7.cell? a = some v := fun a v h => (HB7.out.cell (World.block_lt_of_cell? wd a h)).trans h
      obtain ⟨h0, h1, h2, h3, h4⟩ := HS0.out
      exact ⟨kp _ _ h0, kp _ _ h1, kp _ _ h2, kp _ _ h3, kp _ _ h4⟩)
    refine do_at (i := 4) rfl (by kernel_rfl) (by kernel_rfl) (fun K hK => ?_)
    go_simp
    rw [← hw7, ← hb7]
    clear hw7 hb7
    refine hK.out _ _ ?_ (fun hHeld => ?_)
    · exact HS7.out
    clear hK K
    try go_frame
    refine do_at (i := 5) rfl (by kernel_rfl) (by kernel_rfl) (fun K hK => ?_)
    go_simp
    refine (HLV.out w7 (HBD.out.trans (HB7.out.mono HBD.out.size)) b7 HQ7.out.2.1.1 HQ7.out.2.1.2.1 HQ7.out.2.1.2.2.1 HQ7.out.2.1.2.2.2).mono ?_
    rintro e w8 ⟨rfl, b8⟩
    have HB8 := Lib.hid b8
    clear b8
    go_wp2_with fail
    refine hK.out _ _ ?_ (fun hHeld => ?_)
    · have kp : ∀ (a : Addr) (v : Value), w7.cell? a = some v → w8.cell? a = some v := fun a v h => (HB8.out.cell (World.block_lt_of_cell? w7 a h)).trans h
      obtain ⟨h0, h1, h2, h3, h4⟩ := HS7.out
      exact ⟨kp _ _ h0, kp _ _ h1, kp _ _ h2, kp _ _ h3, kp _ _ h4⟩
    clear hK K
    try go_frame
    refine tk 6 rfl (fun w hSw => by (try dsimp only at hSw); go_simp; try with_reducible rfl) ?_
    go_frame
    refine tk 7 rfl (fun w hSw => by (try dsimp only at hSw); go_simp; try with_reducible rfl) ?_
    go_frame
    refine wpAnyH_done (by kernel_rfl) ?_ _
    have HK8 := Lib.hid (show w8.heap[D]? = some (.deferred (some [])) from by
      have h7 := (HB7.out.block D (Array.getElem?_eq_some_iff.1 HKD.out).1).trans HKD.out
      exact (HB8.out.block D (Array.getElem?_eq_some_iff.1 h7).1).trans h7)
    have HBF := Lib.hid (show Below w.heap.size w w8 from by
      have h7 := HBD.out.trans (HB7.out.mono HBD.out.size)
      exact h7.trans (HB8.out.mono h7.size))
    clear hHeld HS7 HQ7 HB8 HB7 HS0 HBD HDW HKD HBW HQW HB6 HK
    unfold onlyN
    try dsimp only
    gi_wp2
    refine ⟨by simp, .inl ⟨_, _, rfl, run_takeDeferred HK8.out, ?_⟩⟩
    exact ⟨_, results_tmp2 rfl _ _ _, rfl, Below.grown (row := some D) HBF.out (grownBy_putObj' _ D (.deferred none)) HBF.out.size (fun r e => by cases e; have := HNB.out; omega)⟩
end Go.Proofs.YtlaafmjiiiaceaaDoor.Lab
