/- The law AttrSgr's walk. -/
import Derived.Test.YtlmhnebgkginkaaDoorAtFewL
import Derived.Test.YtlmhnebgkginkaaDoorAtRSgr
import Derived.Test.YtlmhnebgkginkaaDoorAtSame
import Derived.Test.YtlmhnebgkginkaaDoorAtWorks
import Derived.Test.YtlmhnebgkginkaaDoorAtRow
import Derived.Test.YtlmhnebgkginkaaDoorAtEq
namespace Go.Proofs.YtlmhnebgkginkaaDoor.Lab
open Go Go.RowKit

theorem idx_arr (T E : TypeId) (n : Nat) (hT : Tryd.prog.underlying T = some (.array n E)) (ha : ∀ w, (isAgg E).run Tryd.prog w = .ok false w) (hz : ∀ w, (sizeOf E).run Tryd.prog w = .ok 1 w) (cs : Array Value) (k : Nat) (hk : k < n) (v : Value) (hv : cs[k]? = some v) (K : IntKind) (i : Int) (hi : i = k) (w : World) :
    (Instr.index T (.agg cs) (.int K i)).run Tryd.prog w = .ok v w := by
  subst hi
  have h : 0 ≤ (k : Int) ∧ (k : Int) < (n : Int) := by omega
  simp [Instr.index, run_underlying hT, asIntOf, part, ha, hz, hv, hk, go_sem]
/-- One row alone. -/
theorem mat_one (g o n c j : Nat) (hj : j < n) (w : World) (X : Nat → Prop) (P : Rws) (h : MatAt w X (.slice (some ⟨g, o, none⟩) n c) P) : MatAt w X (.slice (some ⟨g, o + j, none⟩) 1 (c - j)) [P.getD j []] := by
  obtain ⟨a', c', e, hc', hm, hh⟩ := h
  injection e with e1 e2 e3
  subst e2 e3
  obtain ⟨g', o', ea, hx, hg, hcell⟩ := hh (by omega)
  rw [ea] at e1
  injection e1 with e1
  injection e1 with e1 e4
  subst e1 e4
  refine ⟨_, _, rfl, by simp; omega, by simp [maxLen], fun _ => ⟨g, o + j, rfl, hx, hg, fun i hi => ?_⟩⟩
  obtain rfl : i = 0 := by simpa using hi
  exact hcell j hj
/-- Rows of a size that the law takes. -/
def Fine (Q : Rws) : Prop := RowsI Q ∧ Q.length ≤ 40 ∧ ∀ r ∈ Q, r.length ≤ 9
theorem Fine.few {Q : Rws} (h : Fine Q) : few9 (Q.take 40) = Q := by
  rw [List.take_of_length_le h.2.1, few9]
  have : ∀ l : Rws, (∀ r ∈ l, r.length ≤ 9) → (l.map fun r => r.take 9) = l := by
    intro l
    induction l with
    | nil => intro _; rfl
    | cons r l ih =>
      intro hl
      rw [List.map_cons, ih fun r hr => hl r (List.mem_cons_of_mem _ hr), List.take_of_length_le (hl r (by simp))]
  exact this Q h.2.2
theorem fine_few {P : Rws} (h : RowsI P) : Fine (few9 (P.take 40)) := by
  refine ⟨fun r hr x hx => ?_, by rw [List.length_map, List.length_take]; omega, fun r hr => ?_⟩
  · obtain ⟨q, hq, rfl⟩ := List.mem_map.1 hr
    exact h q (List.mem_of_mem_take hq) x (List.mem_of_mem_take hx)
  · obtain ⟨q, hq, rfl⟩ := List.mem_map.1 hr
    rw [List.length_take]
    omega
theorem fine_row {R : Rws} (h : RowOk R) : Fine R := ⟨h.i64, h.1, fun r hr => by have := (h.2 r hr).2.1; omega⟩
theorem Fine.one {Q : Rws} (h : Fine Q) (j : Nat) (hj : j < Q.length) : RowsI [Q.getD j []] ∧ (Q.getD j []).length ≤ 9 := by
  have hm : Q.getD j [] ∈ Q := by rw [List.getD_eq_getElem?_getD, List.getElem?_eq_getElem hj]; exact List.getElem_mem hj
  exact ⟨fun r hr => by rw [List.mem_singleton.1 hr]; exact h.1 _ hm, h.2.2 _ hm⟩
theorem rsgr_none (w : World) (Y : Nat → Prop) (v : Value) (a : At) (h : MatAt w Y v []) : Calls Tryd.prog 13 #[attV a, v] w (SimOut w (sgrM a [])) := by
  obtain ⟨va, vc, rfl⟩ := h.shape
  have HSM := Lib.hid (show sgrM a [] = At.zero from rfl)
  obtain ⟨w0, hw0⟩ : ∃ w0, w0 = (w.alloc (.cells #[.int .u8 a.fg.k, .int .u8 a.fg.r, .int .u8 a.fg.g, .int .u8 a.fg.b, .int .u8 a.bg.k, .int .u8 a.bg.r, .int .u8 a.bg.g, .int .u8 a.bg.b, .int .u16 (a.fl : Nat)] 26)).alloc (.cells #[.int .u8 0, .int .u8 0, .int .u8 0, .int .u8 0, .int .u8 0, .int .u8 0, .int .u8 0, .int .u8 0, .int .u16 0] 26) := ⟨_, rfl⟩
  have b0 : Below w.heap.size w w0 := by rw [hw0]; exact ((Below.refl _ _).alloc (Nat.le_refl _) _).alloc (by simp) _
  have HZ := Lib.hid (show AtAt w0 (w.heap.size + 1) At.zero by rw [hw0]; exact AtAt.newAt _ _ (by simp) At.zero _)
  have HB := Lib.hid b0
  clear b0 h
  go_enter Tryd.func13, Tryd.ntmps13
  go_upto_region 1 with (fail)
  rw [← hw0]
  clear hw0
  obtain ⟨wq, hwq⟩ : ∃ wq, wq = putA w0 (w.heap.size + 1) At.zero := ⟨_, rfl⟩
  have Z := Lib.hid (show AtAt wq (w.heap.size + 1) At.zero by rw [hwq]; exact HZ.out.putA _)
  have HBQ := Lib.hid (show Below w.heap.size w wq by rw [hwq]; exact HB.out.trans ((putA_but w0 (w.heap.size + 1) At.zero).below (C := w.heap.size) (by omega) HB.out.size))
  replace hwq : wq = ((((((((w0.setCell ⟨w.heap.size + 1, 0, none⟩ (.int .u8 0)).setCell ⟨w.heap.size + 1, 1, none⟩ (.int .u8 0)).setCell ⟨w.heap.size + 1, 2, none⟩ (.int .u8 0)).setCell ⟨w.heap.size + 1, 3, none⟩ (.int .u8 0)).setCell ⟨w.heap.size + 1, 4, none⟩ (.int .u8 0)).setCell ⟨w.heap.size + 1, 5, none⟩ (.int .u8 0)).setCell ⟨w.heap.size + 1, 6, none⟩ (.int .u8 0)).setCell ⟨w.heap.size + 1, 7, none⟩ (.int .u8 0)).setCell ⟨w.heap.size + 1, 8, none⟩ (.int .u16 0) := hwq
  obtain ⟨_, ⟨z1, z2, z3, z4, z5, z6, z7, z8, z9⟩, zf⟩ := HZ.out
  dsimp only at z1 z2 z3 z4 z5 z6 z7 z8 z9
  go_wp2
  rw [← hwq]
  clear z1 z2 z3 z4 z5 z6 z7 z8 z9 zf hwq
  obtain ⟨_, ⟨k1, k2, k3, k4, k5, k6, k7, k8, k9⟩, _⟩ := Z.out
  dsimp only at k1 k2 k3 k4 k5 k6 k7 k8 k9
  exact bodyPost_ret (v := attV At.zero) (by simp [results, Tryd.results13, go_sem, k1, k2, k3, k4, k5, k6, k7, k8, k9]) rfl ⟨by rw [HSM.out], HBQ.out⟩
theorem rsgr_any (w : World) (Y : Nat → Prop) (v : Value) (P : Rws) (a : At) (hok : a.ok) (hl : P.length ≤ 1000) (hr : ∀ r ∈ P, r.length ≤ 1000) (h : MatAt w Y v P) : Calls Tryd.prog 13 #[attV a, v] w (SimOut w (sgrM a P)) := by
  by_cases hP : P = []
  · subst hP
    exact rsgr_none w Y v a h
  · rw [show sgrM a P = loopM a P by unfold sgrM; rw [if_neg hP]]
    exact rsgr_some w Y v P a hok (by cases P with | nil => exact absurd rfl hP | cons r t => simp) hl hr h
set_option maxHeartbeats 16000000 in
set_option maxRecDepth 100000 in
theorem sgr_law (w : World) (a : At) (ha : a.ok) (v : Value) (P : Rws) (hM : MatAt w (fun _ => True) v P) (hPI : RowsI P) (v2 : Value) (l : List Int) (hl : S16 w v2 l) (hP : Pow w) : Calls Tryd.prog 3 #[attV a, v, v2] w fun e w' => e = .returned (.bool true) ∧ Below w.heap.size w w' := by
  obtain ⟨w1, hw1⟩ : ∃ w1, w1 = w.alloc (.cells #[.int .u8 a.fg.k, .int .u8 a.fg.r, .int .u8 a.fg.g, .int .u8 a.fg.b, .int .u8 a.bg.k, .int .u8 a.bg.r, .int .u8 a.bg.g, .int .u8 a.bg.b, .int .u16 (a.fl : Nat)] 26) := ⟨_, rfl⟩
  have b1 : Below w.heap.size w w1 := by rw [hw1]; exact (Below.refl _ _).alloc (Nat.le_refl _) _
  have HA1 := Lib.hid (show AtAt w1 w.heap.size a by rw [hw1]; exact AtAt.newAt w _ rfl a _)
  have HB1 := Lib.hid b1
  have HP1 := Lib.hid (hP.on b1)
  have HM1 := Lib.hid (hM.below b1)
  have HL1 := Lib.hid (hl.below b1)
  have HOA := Lib.hid ha
  have HF1 := Lib.hid (fine_few hPI)
  obtain ⟨va, vc, rfl⟩ := hM.shape
  obtain ⟨vn, hvn⟩ : ∃ vn, vn = P.length := ⟨_, rfl⟩
  rw [← hvn] at HM1 ⊢
  obtain ⟨la, lc, rfl⟩ : ∃ a c, v2 = .slice a l.length c := by
    obtain ⟨a, c, e, _⟩ := hl
    exact ⟨a, c, e⟩
  obtain ⟨ln, hln⟩ : ∃ ln, ln = l.length := ⟨_, rfl⟩
  rw [← hln] at HL1 ⊢
  clear b1 hP hM hl ha hPI hvn hln
  go_enter Tryd.func3, Tryd.ntmps3
  go_upto_region 1 with (fail)
  rw [← hw1]
  clear hw1
  go_wp2_with fail
  refine (few_any w1 _ _ P HM1.out).mono ?_
  rintro e w2 ⟨u1, rfl, R1, b2⟩
  obtain ⟨a1, c1, rfl⟩ := R1.slice
  obtain ⟨Q1, hQ1⟩ : ∃ Q, Q = few9 (P.take 40) := ⟨_, rfl⟩
  rw [← hQ1] at R1 HF1 ⊢
  obtain ⟨n1, hn1⟩ : ∃ n, n = Q1.length := ⟨_, rfl⟩
  have M1 := Lib.hid R1.mat
  rw [← hn1] at M1 ⊢
  have HN1 := Lib.hid hn1
  have HL2 := Lib.hid (HL1.out.below b2)
  have HB2 := Lib.hid b2
  clear b2 R1 HL1 HM1 hQ1 hn1
  go_wp2_with fail
  refine (row_any w2 _ l HL2.out).mono ?_
  rintro e w3 ⟨u2, R, rfl, R2, hok, b3⟩
  obtain ⟨a2, c2, rfl⟩ := R2.slice
  have HF2 := Lib.hid (fine_row hok)
  obtain ⟨n2, hn2⟩ : ∃ n, n = R.length := ⟨_, rfl⟩
  have M2 := Lib.hid R2.mat
  rw [← hn2] at M2 ⊢
  have HN2 := Lib.hid hn2
  replace M1 := Lib.hid (M1.out.below b3)
  have HB3 := Lib.hid (HB2.out.trans (b3.mono HB2.out.size))
  clear b3 R2 HL2 HB2 hok hn2
  have HA3 := Lib.hid (HA1.out.below HB3.out)
  have HB0 := Lib.hid (HB1.out.trans (HB3.out.mono HB1.out.size))
  have HP3 := Lib.hid (HP1.out.on HB3.out)
  clear HA1 HB1 HB3 HP1
  have hst : ∀ w, (isAgg 27).run Tryd.prog w = .ok false w := Tryd.isAgg27
  have hsz : ∀ w, (sizeOf 27).run Tryd.prog w = .ok 1 w := Tryd.sizeOf27
  have HIX := Lib.hid (show ∀ k : Nat, k < 2 → ∃ (ua : Option Addr) (un uc : Nat) (Q : Rws), Fine Q ∧ un = Q.length ∧ MatAt w3 (fun _ => True) (.slice ua un uc) Q ∧ ∀ w, (Instr.index 31 (.agg #[.slice a1 n1 c1, .slice a2 n2 c2]) (.int .i64 (k : Int))).run Tryd.prog w = .ok (.slice ua un uc) w from fun k hk => by
    rcases (show k = 0 ∨ k = 1 by omega) with rfl | rfl
    · exact ⟨a1, n1, c1, Q1, HF1.out, HN1.out, M1.out, fun w => idx_arr 31 27 2 Tryd.underlying31 hst hsz _ 0 (by decide) _ rfl .i64 _ rfl w⟩
    · exact ⟨a2, n2, c2, R, HF2.out, HN2.out, M2.out, fun w => idx_arr 31 27 2 Tryd.underlying31 hst hsz _ 1 (by decide) _ rfl .i64 _ rfl w⟩)
  have HKEEP := Lib.hid (show ∀ W, Below w3.heap.size w3 W → (fun w' => w'.cell? ⟨w.heap.size, 0, none⟩ = some (.int .u8 a.fg.k) ∧ w'.cell? ⟨w.heap.size, 1, none⟩ = some (.int .u8 a.fg.r) ∧ w'.cell? ⟨w.heap.size, 2, none⟩ = some (.int .u8 a.fg.g) ∧ w'.cell? ⟨w.heap.size, 3, none⟩ = some (.int .u8 a.fg.b) ∧ w'.cell? ⟨w.heap.size, 4, none⟩ = some (.int .u8 a.bg.k) ∧ w'.cell? ⟨w.heap.size, 5, none⟩ = some (.int .u8 a.bg.r) ∧ w'.cell? ⟨w.heap.size, 6, none⟩ = some (.int .u8 a.bg.g) ∧ w'.cell? ⟨w.heap.size, 7, none⟩ = some (.int .u8 a.bg.b) ∧ w'.cell? ⟨w.heap.size, 8, none⟩ = some (.int .u16 (a.fl : Nat))) W from fun W hb => by
    obtain ⟨y0, ⟨y1, y2, y3, y4, y5, y6, y7, y8, y9⟩, _⟩ := HA3.out
    exact ⟨(hb.cell (p := ⟨w.heap.size, 0, none⟩) y0).trans y1, (hb.cell (p := ⟨w.heap.size, 1, none⟩) y0).trans y2, (hb.cell (p := ⟨w.heap.size, 2, none⟩) y0).trans y3, (hb.cell (p := ⟨w.heap.size, 3, none⟩) y0).trans y4, (hb.cell (p := ⟨w.heap.size, 4, none⟩) y0).trans y5, (hb.cell (p := ⟨w.heap.size, 5, none⟩) y0).trans y6, (hb.cell (p := ⟨w.heap.size, 6, none⟩) y0).trans y7, (hb.cell (p := ⟨w.heap.size, 7, none⟩) y0).trans y8, (hb.cell (p := ⟨w.heap.size, 8, none⟩) y0).trans y9⟩)
  dsimp only at HKEEP
  clear hst hsz HF1 HN1 M1 HF2 HN2 M2
  go_wp2
  go_loopg [16] 2 (fun G i wr => ∃ k : Nat, i = .int .i64 k ∧ k ≤ 2 ∧ 2 - k ≤ G ∧ Hid (Below w3.heap.size w3 wr))
  case atStart => exact ⟨0, rfl, by decide, by decide, Lib.hid (Below.refl _ _)⟩
  case round =>
    obtain ⟨k, rfl, hk2, hgk, HW⟩ := hrel
    by_cases hlt : k < 2
    · obtain ⟨ua, un, uc, Q, hF, hun, hMQ, hidx⟩ := HIX.out k hlt
      have HQF := Lib.hid hF
      have HQN := Lib.hid hun
      have HQM := Lib.hid (show ∀ W, Below w3.heap.size w3 W → MatAt W (fun _ => True) (.slice ua un uc) Q from fun W hb => hMQ.below hb)
      have d0 : k < 2 := hlt
      clear hF hun hMQ
      go_upto_region 4 with (fail)
      clear hidx
      go_wp2_with fail
      refine (few_any _ _ _ Q (HQM.out _ HW.out)).mono ?_
      rintro e wk ⟨u9, rfl, R9, bb⟩
      obtain ⟨ka, kc, rfl⟩ := R9.slice
      rw [HQF.out.few] at R9 ⊢
      have M9 := R9.mat
      obtain ⟨kn, hkn⟩ : ∃ n, n = Q.length := ⟨_, rfl⟩
      rw [← hkn] at M9 ⊢
      replace HW := Lib.hid (HW.out.trans (bb.mono HW.out.size))
      have HKM := Lib.hid (show ∀ W, Below wk.heap.size wk W → MatAt W (fun _ => True) (.slice ka kn kc) Q from fun W hb => M9.below hb)
      clear R9 M9 bb hkn
      have hqa := fun w => (eqAtt w (sgrM a Q) (sgrM a Q)).trans (by rw [eqA_self])
      obtain ⟨q, hq⟩ : ∃ q, q = sgrM a Q := ⟨_, rfl⟩
      have CA := Lib.hid (show ∀ W, Below w3.heap.size w3 W → Calls Tryd.prog 12 #[attV a, .slice ua un uc] W fun e w' => e = .returned (attV q) ∧ Below W.heap.size W w' from fun W hb => by rw [hq]; exact sgr_any W _ _ Q a HOA.out HQF.out.1 (HQM.out _ hb))
      have CB := Lib.hid (show ∀ W, Below w3.heap.size w3 W → Calls Tryd.prog 13 #[attV a, .slice ua un uc] W fun e w' => e = .returned (attV q) ∧ Below W.heap.size W w' from fun W hb => by rw [hq]; exact rsgr_any W _ _ Q a HOA.out (by have := HQF.out.2.1; omega) (fun r hr => by have := HQF.out.2.2 r hr; omega) (HQM.out _ hb))
      rw [← hq] at hqa
      clear hq
      go_upto_region 5 with (fail)
      refine wp_region_held_drew (S := fun w' => w'.cell? ⟨w.heap.size, 0, none⟩ = some (.int .u8 a.fg.k) ∧ w'.cell? ⟨w.heap.size, 1, none⟩ = some (.int .u8 a.fg.r) ∧ w'.cell? ⟨w.heap.size, 2, none⟩ = some (.int .u8 a.fg.g) ∧ w'.cell? ⟨w.heap.size, 3, none⟩ = some (.int .u8 a.fg.b) ∧ w'.cell? ⟨w.heap.size, 4, none⟩ = some (.int .u8 a.bg.k) ∧ w'.cell? ⟨w.heap.size, 5, none⟩ = some (.int .u8 a.bg.r) ∧ w'.cell? ⟨w.heap.size, 6, none⟩ = some (.int .u8 a.bg.g) ∧ w'.cell? ⟨w.heap.size, 7, none⟩ = some (.int .u8 a.bg.b) ∧ w'.cell? ⟨w.heap.size, 8, none⟩ = some (.int .u16 (a.fl : Nat))) (by kernel_rfl) ?_ (fun hHeld => ?_)
      · exact HKEEP.out _ HW.out.drew
      obtain ⟨v0, hu0⟩ : ∃ u, u = wk.drew := ⟨_, rfl⟩
      have bd : Below wk.heap.size wk v0 := by rw [hu0]; exact ⟨rfl, rfl, rfl, Nat.le_refl _, fun _ _ => rfl⟩
      have HX := Lib.hid (HW.out.trans (bd.mono HW.out.size))
      replace hHeld := HKEEP.out _ HX.out
      rw [← hu0]
      have HBD := Lib.hid bd
      clear hu0 bd
      have HY := Lib.hid (show Below wk.heap.size wk v0 from by have := HBD.out; exact this)
      refine take_at (i := 0) (v := ?_) rfl (by kernel_rfl) (by kernel_rfl) (by kernel_rfl) (fun _ _ _ h => h) (by kernel_rfl) (by assumption) ?_ ?_
      rotate_left
      · (intro w hSw; (try dsimp only at hSw); go_simp; try with_reducible rfl)
      simp only [Act.put, List.setIfInBounds_toArray, List.set_cons_zero, List.set_cons_succ]
      refine take_at (i := 1) (v := ?_) rfl (by kernel_rfl) (by kernel_rfl) (by kernel_rfl) (fun _ _ _ h => h) (by kernel_rfl) (by assumption) ?_ ?_
      rotate_left
      · (intro w hSw; (try dsimp only at hSw); go_simp; try with_reducible rfl)
      simp only [Act.put, List.setIfInBounds_toArray, List.set_cons_zero, List.set_cons_succ]
      refine take_at (i := 3) (v := ?_) rfl (by kernel_rfl) (by kernel_rfl) (by kernel_rfl) (fun _ _ _ h => h) (by kernel_rfl) (by assumption) ?_ ?_
      rotate_left
      · (intro w hSw; (try dsimp only at hSw); go_simp; try with_reducible rfl)
      simp only [Act.put, List.setIfInBounds_toArray, List.set_cons_zero, List.set_cons_succ]
      refine take_at (i := 4) (v := ?_) rfl (by kernel_rfl) (by kernel_rfl) (by kernel_rfl) (fun _ _ _ h => h) (by kernel_rfl) (by assumption) ?_ ?_
      rotate_left
      · (intro w hSw; (try dsimp only at hSw); go_simp; try with_reducible rfl)
      simp only [Act.put, List.setIfInBounds_toArray, List.set_cons_zero, List.set_cons_succ]
      refine do_at (i := 2) rfl (by kernel_rfl) (by kernel_rfl) (fun K hK => ?_)
      go_simp
      refine (CA.out _ HX.out).mono ?_
      rintro e v1 ⟨rfl, bb⟩
      replace HX := Lib.hid (HX.out.trans (bb.mono HX.out.size))
      replace HY := Lib.hid (HY.out.trans (bb.mono HY.out.size))
      clear bb
      go_wp2_with fail
      refine hK.out _ _ ?_ (fun hHeld => ?_)
      · exact HKEEP.out _ HX.out
      clear hK K
      try simp only [Act.put, List.setIfInBounds_toArray, List.set_cons_zero, List.set_cons_succ]
      refine do_at (i := 5) rfl (by kernel_rfl) (by kernel_rfl) (fun K hK => ?_)
      go_simp
      refine (CB.out _ HX.out).mono ?_
      rintro e v2 ⟨rfl, bb⟩
      replace HX := Lib.hid (HX.out.trans (bb.mono HX.out.size))
      replace HY := Lib.hid (HY.out.trans (bb.mono HY.out.size))
      clear bb
      go_wp2_with fail
      refine hK.out _ _ ?_ (fun hHeld => ?_)
      · exact HKEEP.out _ HX.out
      clear hK K
      try simp only [Act.put, List.setIfInBounds_toArray, List.set_cons_zero, List.set_cons_succ]
      refine take_at (i := 6) (v := ?_) rfl (by kernel_rfl) (by kernel_rfl) (by kernel_rfl) (fun _ _ _ h => h) (by kernel_rfl) (by assumption) ?_ ?_
      rotate_left
      · (intro w hSw; (try dsimp only at hSw); go_simp; try with_reducible rfl)
      simp only [Act.put, List.setIfInBounds_toArray, List.set_cons_zero, List.set_cons_succ]
      refine take_at (i := 7) (v := ?_) rfl (by kernel_rfl) (by kernel_rfl) (by kernel_rfl) (fun _ _ _ h => h) (by kernel_rfl) (by assumption) ?_ ?_
      rotate_left
      · (intro w hSw; (try dsimp only at hSw); go_simp; try with_reducible rfl)
      simp only [Act.put, List.setIfInBounds_toArray, List.set_cons_zero, List.set_cons_succ]
      refine take_at (i := 8) (v := ?_) rfl (by kernel_rfl) (by kernel_rfl) (by kernel_rfl) (fun _ _ _ h => h) (by kernel_rfl) (by assumption) ?_ ?_
      rotate_left
      · (intro w hSw; (try dsimp only at hSw); go_simp; try with_reducible rfl)
      simp only [Act.put, List.setIfInBounds_toArray, List.set_cons_zero, List.set_cons_succ]
      refine take_at (i := 9) (v := ?_) rfl (by kernel_rfl) (by kernel_rfl) (by kernel_rfl) (fun _ _ _ h => h) (by kernel_rfl) (by assumption) ?_ ?_
      rotate_left
      · (intro w hSw; (try dsimp only at hSw); go_simp; try with_reducible rfl)
      simp only [Act.put, List.setIfInBounds_toArray, List.set_cons_zero, List.set_cons_succ]
      refine do_at (i := 10) rfl (by kernel_rfl) (by kernel_rfl) (fun K hK => ?_)
      go_simp
      refine (rsame_eq _ _ _ _ _ Q (HQM.out _ HX.out) (HKM.out _ HY.out)).mono ?_
      rintro e v3 ⟨rfl, bb⟩
      replace HX := Lib.hid (HX.out.trans (bb.mono HX.out.size))
      replace HY := Lib.hid (HY.out.trans (bb.mono HY.out.size))
      clear bb
      go_wp2_with fail
      refine hK.out _ _ ?_ (fun hHeld => ?_)
      · exact HKEEP.out _ HX.out
      clear hK K
      try simp only [Act.put, List.setIfInBounds_toArray, List.set_cons_zero, List.set_cons_succ]
      refine take_at (i := 11) (v := ?_) rfl (by kernel_rfl) (by kernel_rfl) (by kernel_rfl) (fun _ _ _ h => h) (by kernel_rfl) (by assumption) ?_ ?_
      rotate_left
      · (intro w hSw; (try dsimp only at hSw); go_simp; try with_reducible rfl)
      simp only [Act.put, List.setIfInBounds_toArray, List.set_cons_zero, List.set_cons_succ]
      refine take_at (i := 12) (v := ?_) rfl (by kernel_rfl) (by kernel_rfl) (by kernel_rfl) (fun _ _ _ h => h) (by kernel_rfl) (by assumption) ?_ ?_
      rotate_left
      · (intro w hSw; (try dsimp only at hSw); go_simp; try with_reducible rfl)
      simp only [Act.put, List.setIfInBounds_toArray, List.set_cons_zero, List.set_cons_succ]
      refine wpAnyH_done (by kernel_rfl) ?_ _
      have HW3 := Lib.hid HX.out
      clear HX HY HBD HKM CA CB hHeld hqa HW
      go_wp2
      go_loopg [10] un (fun G i wi => ∃ j : Nat, i = .int .i64 j ∧ j ≤ un ∧ un - j ≤ G ∧ Hid (Below w3.heap.size w3 wi))
      case atStart => exact ⟨0, rfl, Nat.zero_le _, Nat.sub_le _ _, HW3⟩
      case round =>
        clear HW3
        obtain ⟨j, rfl, hju, hgj, HW⟩ := hrel
        by_cases hlj : j < un
        · obtain ⟨g, o, c', e, huc, _⟩ := (HQM.out _ HW.out).open (by rw [← HQN.out]; omega)
          injection e with e1 e2 e3
          subst e1 e3
          clear e2
          rw [← HQN.out] at huc
          have hjQ : j < Q.length := by rw [← HQN.out]; exact hlj
          obtain ⟨hr1, hr2⟩ := HQF.out.one j hjQ
          obtain ⟨row, hrow⟩ : ∃ row, row = Q.getD j [] := ⟨_, rfl⟩
          rw [← hrow] at hr1 hr2
          have HSM := Lib.hid (show ∀ W, Below w3.heap.size w3 W → MatAt W (fun _ => True) (.slice (some ⟨g, o + j, none⟩) 1 (uc - j)) [row] from fun W hb => by rw [hrow]; exact mat_one g o un uc j hlj W _ Q (HQM.out W hb))
          have HR1 := Lib.hid hr1
          have HR2 := Lib.hid hr2
          obtain ⟨j1, hj1⟩ : ∃ j1, j1 = j + 1 := ⟨_, rfl⟩
          have HJ1 := Lib.hid hj1
          have hf1 : j1 ≤ uc := by omega
          have hf2 : j ≤ j1 := by omega
          have hf3 : ¬ uc = j := by omega
          have hf4 : j1 - j = 1 := by omega
          have hun40 : un ≤ 40 := by rw [HQN.out]; exact HQF.out.2.1
          have s0 : IntKind.i64.wrap ((j : Int) + 1) = (j1 : Int) := by rw [IntKind.wrap_i64]; omega
          have hqa := fun w => (eqAtt w (sgrM a [row]) (sgrM a [row])).trans (by rw [eqA_self])
          obtain ⟨q, hq⟩ : ∃ q, q = sgrM a [row] := ⟨_, rfl⟩
          have CA := Lib.hid (show ∀ W, Below w3.heap.size w3 W → Calls Tryd.prog 12 #[attV a, .slice (some ⟨g, o + j, none⟩) 1 (uc - j)] W fun e w' => e = .returned (attV q) ∧ Below W.heap.size W w' from fun W hb => by rw [hq]; exact sgr_any W _ _ [row] a HOA.out HR1.out (HSM.out _ hb))
          have CB := Lib.hid (show ∀ W, Below w3.heap.size w3 W → Calls Tryd.prog 13 #[attV a, .slice (some ⟨g, o + j, none⟩) 1 (uc - j)] W fun e w' => e = .returned (attV q) ∧ Below W.heap.size W w' from fun W hb => by rw [hq]; exact rsgr_any W _ _ [row] a HOA.out (by simp) (fun r hr => by rw [List.mem_singleton.1 hr]; have := HR2.out; omega) (HSM.out _ hb))
          rw [← hq] at hqa
          clear hq hjQ hr1 hr2 hrow hj1 huc HSM HR1 HR2
          go_upto_region 10 with (fail)
          refine wp_region_held_drew (S := fun w' => w'.cell? ⟨w.heap.size, 0, none⟩ = some (.int .u8 a.fg.k) ∧ w'.cell? ⟨w.heap.size, 1, none⟩ = some (.int .u8 a.fg.r) ∧ w'.cell? ⟨w.heap.size, 2, none⟩ = some (.int .u8 a.fg.g) ∧ w'.cell? ⟨w.heap.size, 3, none⟩ = some (.int .u8 a.fg.b) ∧ w'.cell? ⟨w.heap.size, 4, none⟩ = some (.int .u8 a.bg.k) ∧ w'.cell? ⟨w.heap.size, 5, none⟩ = some (.int .u8 a.bg.r) ∧ w'.cell? ⟨w.heap.size, 6, none⟩ = some (.int .u8 a.bg.g) ∧ w'.cell? ⟨w.heap.size, 7, none⟩ = some (.int .u8 a.bg.b) ∧ w'.cell? ⟨w.heap.size, 8, none⟩ = some (.int .u16 (a.fl : Nat))) (by kernel_rfl) ?_ (fun hHeld => ?_)
          · exact HKEEP.out _ HW.out.drew
          obtain ⟨v0, hu0⟩ : ∃ u, u = wr.drew := ⟨_, rfl⟩
          have bd : Below wr.heap.size wr v0 := by rw [hu0]; exact ⟨rfl, rfl, rfl, Nat.le_refl _, fun _ _ => rfl⟩
          have HX := Lib.hid (HW.out.trans (bd.mono HW.out.size))
          replace hHeld := HKEEP.out _ HX.out
          rw [← hu0]
          clear hu0 bd
          refine take_at (i := 0) (v := ?_) rfl (by kernel_rfl) (by kernel_rfl) (by kernel_rfl) (fun _ _ _ h => h) (by kernel_rfl) (by assumption) ?_ ?_
          rotate_left
          · (intro w hSw; (try dsimp only at hSw); go_simp; try with_reducible rfl)
          simp only [Act.put, List.setIfInBounds_toArray, List.set_cons_zero, List.set_cons_succ]
          refine take_at (i := 1) (v := ?_) rfl (by kernel_rfl) (by kernel_rfl) (by kernel_rfl) (fun _ _ _ h => h) (by kernel_rfl) (by assumption) ?_ ?_
          rotate_left
          · (intro w hSw; (try dsimp only at hSw); go_simp; try with_reducible rfl)
          simp only [Act.put, List.setIfInBounds_toArray, List.set_cons_zero, List.set_cons_succ]
          refine take_at (i := 2) (v := ?_) rfl (by kernel_rfl) (by kernel_rfl) (by kernel_rfl) (fun _ _ _ h => h) (by kernel_rfl) (by assumption) ?_ ?_
          rotate_left
          · (intro w hSw; (try dsimp only at hSw); go_simp; try with_reducible rfl)
          simp only [Act.put, List.setIfInBounds_toArray, List.set_cons_zero, List.set_cons_succ]
          refine take_at (i := 3) (v := ?_) rfl (by kernel_rfl) (by kernel_rfl) (by kernel_rfl) (fun _ _ _ h => h) (by kernel_rfl) (by assumption) ?_ ?_
          rotate_left
          · (intro w hSw; (try dsimp only at hSw); go_simp; try with_reducible rfl)
          simp only [Act.put, List.setIfInBounds_toArray, List.set_cons_zero, List.set_cons_succ]
          refine take_at (i := 4) (v := ?_) rfl (by kernel_rfl) (by kernel_rfl) (by kernel_rfl) (fun _ _ _ h => h) (by kernel_rfl) (by assumption) ?_ ?_
          rotate_left
          · (intro w hSw; (try dsimp only at hSw); go_simp; try with_reducible rfl)
          simp only [Act.put, List.setIfInBounds_toArray, List.set_cons_zero, List.set_cons_succ]
          refine take_at (i := 5) (v := ?_) rfl (by kernel_rfl) (by kernel_rfl) (by kernel_rfl) (fun _ _ _ h => h) (by kernel_rfl) (by assumption) ?_ ?_
          rotate_left
          · (intro w hSw; (try dsimp only at hSw); go_simp; try with_reducible rfl)
          simp only [Act.put, List.setIfInBounds_toArray, List.set_cons_zero, List.set_cons_succ]
          refine take_at (i := 7) (v := ?_) rfl (by kernel_rfl) (by kernel_rfl) (by kernel_rfl) (fun _ _ _ h => h) (by kernel_rfl) (by assumption) ?_ ?_
          rotate_left
          · (intro w hSw; (try dsimp only at hSw); go_simp; try with_reducible rfl)
          simp only [Act.put, List.setIfInBounds_toArray, List.set_cons_zero, List.set_cons_succ]
          refine take_at (i := 8) (v := ?_) rfl (by kernel_rfl) (by kernel_rfl) (by kernel_rfl) (fun _ _ _ h => h) (by kernel_rfl) (by assumption) ?_ ?_
          rotate_left
          · (intro w hSw; (try dsimp only at hSw); go_simp; try with_reducible rfl)
          simp only [Act.put, List.setIfInBounds_toArray, List.set_cons_zero, List.set_cons_succ]
          refine take_at (i := 9) (v := ?_) rfl (by kernel_rfl) (by kernel_rfl) (by kernel_rfl) (fun _ _ _ h => h) (by kernel_rfl) (by assumption) ?_ ?_
          rotate_left
          · (intro w hSw; (try dsimp only at hSw); go_simp; try with_reducible rfl)
          simp only [Act.put, List.setIfInBounds_toArray, List.set_cons_zero, List.set_cons_succ]
          refine take_at (i := 10) (v := ?_) rfl (by kernel_rfl) (by kernel_rfl) (by kernel_rfl) (fun _ _ _ h => h) (by kernel_rfl) (by assumption) ?_ ?_
          rotate_left
          · (intro w hSw; (try dsimp only at hSw); go_simp; try with_reducible rfl)
          simp only [Act.put, List.setIfInBounds_toArray, List.set_cons_zero, List.set_cons_succ]
          refine take_at (i := 11) (v := ?_) rfl (by kernel_rfl) (by kernel_rfl) (by kernel_rfl) (fun _ _ _ h => h) (by kernel_rfl) (by assumption) ?_ ?_
          rotate_left
          · (intro w hSw; (try dsimp only at hSw); go_simp; try with_reducible rfl)
          simp only [Act.put, List.setIfInBounds_toArray, List.set_cons_zero, List.set_cons_succ]
          refine take_at (i := 12) (v := ?_) rfl (by kernel_rfl) (by kernel_rfl) (by kernel_rfl) (fun _ _ _ h => h) (by kernel_rfl) (by assumption) ?_ ?_
          rotate_left
          · (intro w hSw; (try dsimp only at hSw); go_simp; try with_reducible rfl)
          simp only [Act.put, List.setIfInBounds_toArray, List.set_cons_zero, List.set_cons_succ]
          refine do_at (i := 6) rfl (by kernel_rfl) (by kernel_rfl) (fun K hK => ?_)
          go_simp
          refine (CA.out _ HX.out).mono ?_
          rintro e v1 ⟨rfl, bb⟩
          replace HX := Lib.hid (HX.out.trans (bb.mono HX.out.size))
          clear bb
          go_wp2_with fail
          refine hK.out _ _ ?_ (fun hHeld => ?_)
          · exact HKEEP.out _ HX.out
          clear hK K
          try simp only [Act.put, List.setIfInBounds_toArray, List.set_cons_zero, List.set_cons_succ]
          refine do_at (i := 13) rfl (by kernel_rfl) (by kernel_rfl) (fun K hK => ?_)
          go_simp
          refine (CB.out _ HX.out).mono ?_
          rintro e v2 ⟨rfl, bb⟩
          replace HX := Lib.hid (HX.out.trans (bb.mono HX.out.size))
          clear bb
          go_wp2_with fail
          refine hK.out _ _ ?_ (fun hHeld => ?_)
          · exact HKEEP.out _ HX.out
          clear hK K
          try simp only [Act.put, List.setIfInBounds_toArray, List.set_cons_zero, List.set_cons_succ]
          refine take_at (i := 14) (v := ?_) rfl (by kernel_rfl) (by kernel_rfl) (by kernel_rfl) (fun _ _ _ h => h) (by kernel_rfl) (by assumption) ?_ ?_
          rotate_left
          · (intro w hSw; (try dsimp only at hSw); go_simp; try with_reducible rfl)
          simp only [Act.put, List.setIfInBounds_toArray, List.set_cons_zero, List.set_cons_succ]
          refine wpAnyH_done (by kernel_rfl) ?_ _
          have HWN := Lib.hid HX.out
          clear HX HW CA CB hHeld hqa hf1 hf2 hf3 hf4
          go_wp2
          go_roundg (un - j1)
          case rel => exact ⟨j1, rfl, by have := HJ1.out; omega, Nat.le_refl _, HWN⟩
          case measure => have := HJ1.out; omega
        · have hk1 : IntKind.i64.wrap ((k : Int) + 1) = (k : Int) + 1 := by rw [IntKind.wrap_i64]; omega
          clear HQM HQF HQN
          go_wp2
          go_roundg (2 - (k + 1))
          case rel => exact ⟨k + 1, by go_num, by omega, Nat.le_refl _, HW⟩
          case measure => omega
    · obtain ⟨rx, hrx⟩ : ∃ q, q = rightM a := ⟨_, rfl⟩
      have CR := Lib.hid (show ∀ W, Calls Tryd.prog 15 #[attV a] W fun e w' => e = .returned (.bool rx) ∧ Below W.heap.size W w' from fun W => by rw [hrx]; exact right_any W a HOA.out.2.2)
      have CRR := Lib.hid (show ∀ W, Calls Tryd.prog 16 #[attV a] W fun e w' => e = .returned (.bool rx) ∧ Below W.heap.size W w' from fun W => by rw [hrx]; exact rright_any W a HOA.out.2.2)
      clear hrx HIX
      go_upto_region 13 with (fail)
      refine wp_region_held_drew (S := fun w' => w'.cell? ⟨w.heap.size, 0, none⟩ = some (.int .u8 a.fg.k) ∧ w'.cell? ⟨w.heap.size, 1, none⟩ = some (.int .u8 a.fg.r) ∧ w'.cell? ⟨w.heap.size, 2, none⟩ = some (.int .u8 a.fg.g) ∧ w'.cell? ⟨w.heap.size, 3, none⟩ = some (.int .u8 a.fg.b) ∧ w'.cell? ⟨w.heap.size, 4, none⟩ = some (.int .u8 a.bg.k) ∧ w'.cell? ⟨w.heap.size, 5, none⟩ = some (.int .u8 a.bg.r) ∧ w'.cell? ⟨w.heap.size, 6, none⟩ = some (.int .u8 a.bg.g) ∧ w'.cell? ⟨w.heap.size, 7, none⟩ = some (.int .u8 a.bg.b) ∧ w'.cell? ⟨w.heap.size, 8, none⟩ = some (.int .u16 (a.fl : Nat))) (by kernel_rfl) ?_ (fun hHeld => ?_)
      · exact HKEEP.out _ HW.out.drew
      obtain ⟨v0, hu0⟩ : ∃ u, u = wr.drew := ⟨_, rfl⟩
      have bd : Below wr.heap.size wr v0 := by rw [hu0]; exact ⟨rfl, rfl, rfl, Nat.le_refl _, fun _ _ => rfl⟩
      have HX := Lib.hid (HW.out.trans (bd.mono HW.out.size))
      replace hHeld := HKEEP.out _ HX.out
      rw [← hu0]
      clear hu0 bd
      refine take_at (i := 0) (v := ?_) rfl (by kernel_rfl) (by kernel_rfl) (by kernel_rfl) (fun _ _ _ h => h) (by kernel_rfl) (by assumption) ?_ ?_
      rotate_left
      · (intro w hSw; (try dsimp only at hSw); go_simp; try with_reducible rfl)
      simp only [Act.put, List.setIfInBounds_toArray, List.set_cons_zero, List.set_cons_succ]
      refine take_at (i := 2) (v := ?_) rfl (by kernel_rfl) (by kernel_rfl) (by kernel_rfl) (fun _ _ _ h => h) (by kernel_rfl) (by assumption) ?_ ?_
      rotate_left
      · (intro w hSw; (try dsimp only at hSw); go_simp; try with_reducible rfl)
      simp only [Act.put, List.setIfInBounds_toArray, List.set_cons_zero, List.set_cons_succ]
      refine do_at (i := 1) rfl (by kernel_rfl) (by kernel_rfl) (fun K hK => ?_)
      go_simp
      refine (CR.out _).mono ?_
      rintro e v1 ⟨rfl, bb⟩
      replace HX := Lib.hid (HX.out.trans (bb.mono HX.out.size))
      clear bb
      go_wp2_with fail
      refine hK.out _ _ ?_ (fun hHeld => ?_)
      · exact HKEEP.out _ HX.out
      clear hK K
      try simp only [Act.put, List.setIfInBounds_toArray, List.set_cons_zero, List.set_cons_succ]
      refine do_at (i := 3) rfl (by kernel_rfl) (by kernel_rfl) (fun K hK => ?_)
      go_simp
      refine (CRR.out _).mono ?_
      rintro e v2 ⟨rfl, bb⟩
      replace HX := Lib.hid (HX.out.trans (bb.mono HX.out.size))
      clear bb
      go_wp2_with fail
      refine hK.out _ _ ?_ (fun hHeld => ?_)
      · exact HKEEP.out _ HX.out
      clear hK K
      try simp only [Act.put, List.setIfInBounds_toArray, List.set_cons_zero, List.set_cons_succ]
      refine take_at (i := 4) (v := ?_) rfl (by kernel_rfl) (by kernel_rfl) (by kernel_rfl) (fun _ _ _ h => h) (by kernel_rfl) (by assumption) ?_ ?_
      rotate_left
      · (intro w hSw; (try dsimp only at hSw); go_simp; try with_reducible rfl)
      simp only [Act.put, List.setIfInBounds_toArray, List.set_cons_zero, List.set_cons_succ]
      refine take_at (i := 5) (v := ?_) rfl (by kernel_rfl) (by kernel_rfl) (by kernel_rfl) (fun _ _ _ h => h) (by kernel_rfl) (by assumption) ?_ ?_
      rotate_left
      · (intro w hSw; (try dsimp only at hSw); go_simp; try with_reducible rfl)
      simp only [Act.put, List.setIfInBounds_toArray, List.set_cons_zero, List.set_cons_succ]
      refine do_at (i := 6) rfl (by kernel_rfl) (by kernel_rfl) (fun K hK => ?_)
      go_simp
      refine (works_any _ (HP3.out.on HX.out)).mono ?_
      rintro e v3 ⟨rfl, bb⟩
      replace HX := Lib.hid (HX.out.trans (bb.mono HX.out.size))
      clear bb
      go_wp2_with fail
      refine hK.out _ _ ?_ (fun hHeld => ?_)
      · exact HKEEP.out _ HX.out
      clear hK K
      try simp only [Act.put, List.setIfInBounds_toArray, List.set_cons_zero, List.set_cons_succ]
      refine take_at (i := 7) (v := ?_) rfl (by kernel_rfl) (by kernel_rfl) (by kernel_rfl) (fun _ _ _ h => h) (by kernel_rfl) (by assumption) ?_ ?_
      rotate_left
      · (intro w hSw; (try dsimp only at hSw); go_simp; try with_reducible rfl)
      simp only [Act.put, List.setIfInBounds_toArray, List.set_cons_zero, List.set_cons_succ]
      refine take_at (i := 8) (v := ?_) rfl (by kernel_rfl) (by kernel_rfl) (by kernel_rfl) (fun _ _ _ h => h) (by kernel_rfl) (by assumption) ?_ ?_
      rotate_left
      · (intro w hSw; (try dsimp only at hSw); go_simp; try with_reducible rfl)
      simp only [Act.put, List.setIfInBounds_toArray, List.set_cons_zero, List.set_cons_succ]
      refine wpAnyH_done (by kernel_rfl) ?_ _
      have HWN := Lib.hid (HB0.out.trans (HX.out.mono HB0.out.size))
      clear HX HW CR CRR hHeld
      go_wp2
      go_ret
      exact ⟨rfl, HWN.out⟩
end Go.Proofs.YtlmhnebgkginkaaDoor.Lab
