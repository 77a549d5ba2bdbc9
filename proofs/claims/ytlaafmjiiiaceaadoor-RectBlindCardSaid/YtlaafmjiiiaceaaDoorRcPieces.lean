/- The project's pieces, as an iterator. -/
import Derived.Test.YtlaafmjiiiaceaaDoorRcBroken
import Derived.Test.YtlaafmjiiiaceaaDoorRfHeld
set_option linter.unusedVariables false
namespace Go.Proofs.YtlaafmjiiiaceaaDoor.Lab
open Go Go.RowKit Go.Shelf
attribute [local go_sem] Oper.semAt_some

/-- A piece of a row's header. -/
def cutV (u : Value) (l c : Nat) : Value := match u with
  | .slice (some ⟨g, o, x⟩) _ cap => .slice (some ⟨g, o + l * 14, x⟩) c (cap - l)
  | v => v
abbrev posV (i j : Nat) : Value := .agg #[.int .i64 (i : Nat), .int .i64 (j : Nat)]
def encP (k : Rk) (U : Nat → Value) (i : Nat) : Array Value := #[posV (k.t + i) k.l, cutV (U (k.t + i)) k.l k.c]
/-- s[l:l+c], where it lies. -/
theorem cut_mid (g o n cap l c : Nat) (hc : 0 < c) (hj : l + c ≤ cap) (w : World) : (Instr.sliceAt 49 (.slice (some ⟨g, o, none⟩) n cap) (some (.int .i64 (l : Nat))) (some (.int .i64 ((l + c : Nat) : Int))) none).run Tryd.prog w = .ok (.slice (some ⟨g, o + l * 14, none⟩) c (cap - l)) w := by
  rw [run_sliceAt_slice w 49 _ _ _ _ unC, run_slice_lh (P := Tryd.prog) (w := w) (t := 49) (ht := unC) (kl := .i64) (kh := .i64) (l := (l : Int)) (h := ((l + c : Nat) : Int)) (h0 := by omega) (h1 := by omega) (h2 := by omega), elC, szC]
  simp only [Result.andThen, sliced, Int.toNat_natCast]
  rw [if_neg (by omega), Option.map_some, Addr.add_mid, show l + c - l = c by omega]
/-- What the iterator reads ahead of a round. -/
def HrP (br bg : Nat) (v : Value) (k : Rk) (U : Nat → Value) (i : Nat) (W : World) : Prop :=
  (i = 0 → W.cell? ⟨br, 2, none⟩ = some (.int .i64 (k.n : Nat))) ∧
  (i < k.n → W.cell? ⟨br, 0, none⟩ = some (.int .i64 (k.t : Nat)) ∧ W.cell? ⟨br, 1, none⟩ = some (.int .i64 (k.l : Nat)) ∧ W.cell? ⟨br, 3, none⟩ = some (.int .i64 (k.c : Nat)) ∧ W.cell? ⟨bg, 0, none⟩ = some v ∧
    ∃ g o n cap, v = .slice (some ⟨g, o, none⟩) n cap ∧ k.t + k.n ≤ n ∧ n ≤ cap ∧ W.cell? ⟨g, o + (k.t + i), none⟩ = some (U (k.t + i)))
def HeadsOk (k : Rk) (U : Nat → Value) : Prop := ∀ i, i < k.n → ∃ g o n cap, U (k.t + i) = .slice (some ⟨g, o, none⟩) n cap ∧ k.l + k.c ≤ n ∧ n ≤ cap ∧ 0 < k.c
set_option maxHeartbeats 4000000 in
theorem pieces_iter (br bg : Nat) (v : Value) (k : Rk) (U : Nat → Value) (hk : k.t + k.n ≤ 600) (hk2 : k.l + k.c ≤ 600) (hU : HeadsOk k U) :
    IterA Tryd.prog 55 #[] #[.pointer (some ⟨br, 0, none⟩), .pointer (some ⟨bg, 0, none⟩)] k.n (encP k U) (HrP br bg v k U) := by
  intro ll J W hH hgrow hY h0
  have hc0 := (hH 0 W h0).1 rfl
  have HJ := Lib.hid h0
  obtain ⟨t, l, n, c⟩ := k
  dsimp only at hk hk2 hc0 hY hH ⊢
  clear h0
  refine callsIn_of_wp Tryd.func55 rfl trivial ?_ rfl
  simp only [Tryd.ntmps55, List.size_toArray, List.length_cons, List.length_nil, Nat.reduceAdd, Nat.reduceSub, Array.replicate_succ, Array.replicate_zero, List.push_toArray, List.append_toArray, List.nil_append, List.cons_append]
  gi_wp2
  clear hc0
  gi_loopw [8] (fun v wr => ∃ i : Nat, v = .int .i64 i ∧ i ≤ n ∧ Hid (J i wr)) (fun v wr => n - (intOf v).toNat)
  case atStart => exact ⟨0, rfl, Nat.zero_le _, HJ⟩
  case round =>
    obtain ⟨i, rfl, hin, HK⟩ := hrel
    clear HJ
    by_cases hlt : i < n
    · obtain ⟨r0, r1, r3, rg, gg, go, gn, gc, hv, hgn, hgc, hu⟩ := (hH i wr HK.out).2 hlt
      dsimp only at r0 r1 r3 hgn hu
      obtain ⟨ug, uo, un, uc, hud, hul, huc, hcp⟩ := hU i hlt
      dsimp only at hud hul hcp
      have HY := Lib.hid (hY i)
      have HYK := Lib.hid (show encP ⟨t, l, n, c⟩ U i = #[posV (t + i) l, .slice (some ⟨ug, uo + l * 14, none⟩) c (uc - l)] by unfold encP cutV; dsimp only; rw [hud])
      obtain ⟨p, hp⟩ : ∃ p, p = t + i := ⟨_, rfl⟩
      have HPI := Lib.hid (show i < n from hlt)
      rw [← hp] at hud hu HYK
      have u1 : IntKind.i64.wrap ((t : Int) + (i : Int)) = (p : Int) := by rw [IntKind.wrap_i64]; omega
      obtain ⟨q, hq⟩ : ∃ q, q = l + c := ⟨_, rfl⟩
      have u2 : IntKind.i64.wrap ((l : Int) + (c : Int)) = (q : Int) := by rw [IntKind.wrap_i64]; omega
      have hcut := fun w => cut_mid ug uo un uc l c hcp (by omega) w
      rw [← hq] at hcut
      have hpn : p < gn := by omega
      rw [hud] at hu
      subst hv
      obtain ⟨w4, hw4⟩ : ∃ x, x = wr.alloc (.cells #[.int .i64 (p : Int), .int .i64 (l : Nat)] 32) := ⟨_, rfl⟩
      obtain ⟨b5, hb5⟩ : ∃ b, b = wr.heap.size := ⟨_, rfl⟩
      obtain ⟨wd, hwd⟩ : ∃ x, x = w4.drew := ⟨_, rfl⟩
      have HGR := Lib.hid (show J i wd by rw [hwd, hw4]; exact hgrow i _ _ (hgrow i _ _ HK.out (grown_alloc _ _)) (grown_drew _))
      have hbd : Below wr.heap.size wr wd := by rw [hwd, hw4]; exact ((Below.refl _ _).alloc (Nat.le_refl _) _).drew
      have d0 : wd.cell? ⟨b5, 0, none⟩ = some (.int .i64 (p : Int)) := by rw [hwd, hw4, hb5]; simp
      have d1 : wd.cell? ⟨b5, 1, none⟩ = some (.int .i64 (l : Nat)) := by rw [hwd, hw4, hb5]; simp
      have cell := fun (a : Addr) (v : Value) (h : wr.cell? a = some v) => (hbd.cell (World.block_lt_of_cell? wr a h)).trans h
      have e0 := cell _ _ r0
      have e1 := cell _ _ r1
      have e3 := cell _ _ r3
      have eg := cell _ _ rg
      have eu := cell _ _ hu
      clear hY cell hbd HK hp hq hud hul hgrow hH hU
      gi_wp2
      rw [← hw4, ← hb5]
      clear hw4 hb5 r0 r1 r3 rg hu hlt
      refine region_heldX (S := fun wx => wx = wd) 15 (by kernel_rfl) (fun hS => ?_) hwd.symm
      rw [← hwd]
      replace hS : wd = wd := rfl
      clear hwd
      refine ti 0 rfl (fun w hSw => by (try dsimp only at hSw); subst hSw; go_simp; try with_reducible rfl) ?_
      go_frame
      refine ti 1 rfl (fun w hSw => by (try dsimp only at hSw); subst hSw; go_simp; try with_reducible rfl) ?_
      go_frame
      refine ti 2 rfl (fun w hSw => by (try dsimp only at hSw); subst hSw; go_simp; try with_reducible rfl) ?_
      go_frame
      refine ti 3 rfl (fun w hSw => by (try dsimp only at hSw); subst hSw; go_simp; try with_reducible rfl) ?_
      go_frame
      refine ti 4 rfl (fun w hSw => by (try dsimp only at hSw); subst hSw; go_simp; try with_reducible rfl) ?_
      go_frame
      refine ti 5 rfl (fun w hSw => by (try dsimp only at hSw); subst hSw; go_simp; try with_reducible rfl) ?_
      go_frame
      refine ti 6 rfl (fun w hSw => by (try dsimp only at hSw); subst hSw; go_simp; try with_reducible rfl) ?_
      go_frame
      refine ti 7 rfl (fun w hSw => by (try dsimp only at hSw); subst hSw; go_simp; try with_reducible rfl) ?_
      go_frame
      refine ti 8 rfl (fun w hSw => by (try dsimp only at hSw); subst hSw; go_simp; try with_reducible rfl) ?_
      go_frame
      refine ti 9 rfl (fun w hSw => by (try dsimp only at hSw); subst hSw; go_simp; try with_reducible rfl) ?_
      go_frame
      refine ti 10 rfl (fun w hSw => by (try dsimp only at hSw); subst hSw; go_simp; try with_reducible rfl) ?_
      go_frame
      refine ti 11 rfl (fun w hSw => by (try dsimp only at hSw); subst hSw; go_simp; try with_reducible rfl) ?_
      go_frame
      refine ti 12 rfl (fun w hSw => by (try dsimp only at hSw); subst hSw; go_simp; try with_reducible rfl) ?_
      go_frame
      refine ti 13 rfl (fun w hSw => by (try dsimp only at hSw); subst hSw; go_simp; try with_reducible rfl) ?_
      go_frame
      refine ti 14 rfl (fun w hSw => by (try dsimp only at hSw); subst hSw; go_simp; try with_reducible rfl) ?_
      go_frame
      obtain ⟨fn, tmps, assign, body, hy, hR⟩ := HY.out wd HPI.out HGR.out
      rw [HYK.out] at hy
      clear HY HYK hcut HGR d0 d1 e0 e1 e3 eg eu
      refine dx rfl (by kernel_rfl) (by kernel_rfl) (fun K hK => ?_)
      gi_wp2
      refine ⟨rfl, hR.mono ?_⟩
      rintro e W3 ⟨rfl, hJ3⟩
      have HJ3 := Lib.hid hJ3
      clear hJ3 hy hR
      gi_wp2
      refine hK.out _ _ ?_
      clear hK K
      refine d1 (i := 16) rfl (by kernel_rfl) (by kernel_rfl) (fun K hK => ?_)
      gi_wp2
      refine hK.out _ _ ?_
      clear hK K
      refine wpAnyIn_done (by kernel_rfl) ?_ _
      gi_wp2
      go_roundw
      case rel => exact ⟨i + 1, by go_num, by have := HPI.out; omega, HJ3⟩
      case measure => have := HPI.out; simp only [intOf]; omega
    · obtain rfl : i = n := by omega
      gi_wp2
      go_end0
      exact ⟨⟨_, rfl⟩, HK.out⟩
theorem heads_of {w : World} {v : Value} {G : List Cls} {U : Nat → Value} {m : Nat} {k : Rk} (h : GSee w v G U) (hg : GG G m) (hk : k.In G.length m) : HeadsOk k U := fun i hi => by
  have hr := hk.r
  have hc := hk.c
  have hlt : k.t + i < G.length := by omega
  have h0 : 0 < k.c := by
    rcases Nat.eq_zero_or_pos k.c with e | e
    · have := hk.e (.inr e)
      subst this
      exact absurd hi (by simp)
    · exact e
  obtain ⟨_, e2, _⟩ := hg.at hlt
  obtain ⟨g, o, c, e, hcap, _, _⟩ := (h.row hlt).open (by omega)
  exact ⟨g, o, _, c, e, by omega, hcap, h0⟩
theorem hrp_of {W : World} {br bg i : Nat} {v : Value} {k : Rk} {U : Nat → Value} (hq : Q4 W br k.r4) (hc : W.cell? ⟨bg, 0, none⟩ = some v)
    (hs : 0 < k.n → ∃ g o n cap, v = .slice (some ⟨g, o, none⟩) n cap ∧ k.t + k.n ≤ n ∧ n ≤ cap ∧ ∀ j, j < n → W.cell? ⟨g, o + j, none⟩ = some (U j)) : HrP br bg v k U i W := by
  obtain ⟨_, ⟨q0, q1, q2, q3⟩, _⟩ := hq
  refine ⟨fun _ => q2, fun hi => ⟨q0, q1, q3, hc, ?_⟩⟩
  obtain ⟨g, o, n, cap, e, h1, h2, h3⟩ := hs (by omega)
  exact ⟨g, o, n, cap, e, h1, h2, h3 _ (by omega)⟩
set_option maxHeartbeats 4000000 in
theorem pieces_any (w : World) (v : Value) (G : List Cls) (U : Nat → Value) (m : Nat) (r : R4) (h : GSee w v G U) (hg : GG G m) (hr : r.Ok) :
    Calls Tryd.prog 34 #[v, r4V r] w fun x w' => ∃ br bg, x = .returned (.func (.func 55) #[] #[.pointer (some ⟨br, 0, none⟩), .pointer (some ⟨bg, 0, none⟩)]) ∧ w.heap.size ≤ br ∧ w.heap.size ≤ bg ∧ Q4 w' br (clipM r G.length m).r4 ∧ w'.cell? ⟨bg, 0, none⟩ = some v ∧ Below w.heap.size w w' := by
  have HC := fun (wx : World) (hb : Below w.heap.size w wx) => clipped_any wx v G U m r (h.below hb) hg hr
  obtain ⟨k, hk⟩ : ∃ k, k = clipM r G.length m := ⟨_, rfl⟩
  rw [← hk] at HC ⊢
  obtain ⟨t, l, nn, cc⟩ := r
  obtain ⟨a, c, hv⟩ := h.shape
  obtain ⟨n, hn⟩ : ∃ n, n = G.length := ⟨_, rfl⟩
  rw [← hn] at hv
  subst hv
  obtain ⟨w0, hw0⟩ : ∃ W0, W0 = (w.alloc (.cells #[.slice a n c] 27)).alloc (.cells #[.int .i64 t, .int .i64 l, .int .i64 nn, .int .i64 cc] 30) := ⟨_, rfl⟩
  obtain ⟨b2, hb2⟩ : ∃ b, b = w.heap.size := ⟨_, rfl⟩
  obtain ⟨b3, hb3⟩ : ∃ b, b = w.heap.size + 1 := ⟨_, rfl⟩
  have HB0 := Lib.hid (show Below w.heap.size w w0 by rw [hw0]; exact ((Below.refl _ _).alloc (Nat.le_refl _) _).alloc (by simp) _)
  have HQ0 := Lib.hid (show Q4 w0 b3 ⟨t, l, nn, cc⟩ by rw [hw0]; exact Q4.newAt _ b3 (by rw [hb3]; simp) _ _ _ _ _)
  have c2 : w0.cell? ⟨b2, 0, none⟩ = some (.slice a n c) := by rw [hw0, hb2]; simp
  have HNE := Lib.hid (show b2 < w0.heap.size ∧ w.heap.size ≤ b2 ∧ w.heap.size ≤ b3 ∧ b2 ≠ b3 by rw [hw0, hb2, hb3]; exact ⟨by simp; omega, by omega, by omega, by omega⟩)
  have HC1 := Lib.hid (HC w0 HB0.out)
  have C2 := Lib.hid c2
  clear h hg hr hn hk HC
  go_enter Tryd.func34, Tryd.ntmps34
  go_upto_region 1 with (fail)
  rw [← hw0, ← hb3, ← hb2]
  obtain ⟨_, ⟨q0, q1, q2, q3⟩, _⟩ := HQ0.out
  dsimp only at q0 q1 q2 q3
  clear hw0 hb3 hb2
  go_wp2_with fail
  refine HC1.out.mono ?_
  rintro e w1 ⟨rfl, b1⟩
  have HB1 := Lib.hid (HB0.out.trans (b1.mono HB0.out.size))
  have HQ1 := Lib.hid (HQ0.out.below b1)
  have C3 := Lib.hid ((b1.cell (p := ⟨b2, 0, none⟩) HNE.out.1).trans C2.out)
  obtain ⟨_, ⟨q0, q1, q2, q3⟩, hf⟩ := HQ1.out
  dsimp only at q0 q1 q2 q3
  have f0 := hf 0
  have f1 := hf 1
  have f2 := hf 2
  have f3 := hf 3
  obtain ⟨kt, kl, kn, kc⟩ := k
  obtain ⟨wx, hwx⟩ : ∃ x, x = put4 w1 b3 (kt : Nat) (kl : Nat) (kn : Nat) (kc : Nat) := ⟨_, rfl⟩
  have HQX := Lib.hid (show Q4 wx b3 (Rk.r4 ⟨kt, kl, kn, kc⟩) by rw [hwx]; exact HQ1.out.put _ _ _ _)
  have HBX := Lib.hid (show Below w.heap.size w wx by rw [hwx]; exact HB1.out.trans ((put4_but w1 b3 _ _ _ _).below HNE.out.2.2.1 HB1.out.size))
  have CX := Lib.hid (show wx.cell? ⟨b2, 0, none⟩ = some (.slice a n c) by
    have hlt := World.block_lt_of_cell? w1 ⟨b2, 0, none⟩ C3.out
    rw [hwx]
    exact (World.cell?_of_block (a := ⟨b2, 0, none⟩) ((put4_but w1 b3 _ _ _ _).block b2 hlt (by have := HNE.out.2.2.2; simp; omega))).trans C3.out)
  clear b1 hf HQ0 HQ1 HB1 HB0 HC1 c2
  go_upto_region 2 with (fail)
  unfold put4 at hwx
  rw [← hwx]
  clear hwx q0 q1 q2 q3 f0 f1 f2 f3
  go_wp2
  go_ret
  exact ⟨b3, b2, rfl, HNE.out.2.2.1, HNE.out.2.1, HQX.out, CX.out, HBX.out⟩
end Go.Proofs.YtlaafmjiiiaceaaDoor.Lab
