/- The project's Of. -/
import Derived.Test.YtlaafmjiiiaceaaDoorRcBroken
import Derived.Test.YtlaafmjiiiaceaaDoorRcGrid
set_option linter.unusedVariables false
namespace Go.Proofs.YtlaafmjiiiaceaaDoor.Lab
open Go Go.RowKit

theorem plus_any (w : World) (x y : Int) (hx : -100000 ≤ x ∧ x ≤ 100000) (hy : -100000 ≤ y ∧ y ≤ 100000) : Calls Tryd.prog 51 #[.int .i64 x, .int .i64 y] w fun e w' => e = .returned (.int .i64 (x + y)) ∧ w = w' := by
  by_cases h : y > 0
  · have h2 : x < 9223372036854775807 - y := by omega
    go_enter Tryd.func51, Tryd.ntmps51
    go_wp2
    go_ret
    exact ⟨rfl, rfl⟩
  · have h2 : -9223372036854775808 - y < x := by omega
    go_enter Tryd.func51, Tryd.ntmps51
    go_wp2
    go_ret
    exact ⟨rfl, rfl⟩
theorem idx4 (a b c d : Int) (w : World) : (Instr.index 69 (.agg #[.int .i64 a, .int .i64 b, .int .i64 c, .int .i64 d]) (.int .i64 0)).run Tryd.prog w = .ok (.int .i64 a) w ∧ (Instr.index 69 (.agg #[.int .i64 a, .int .i64 b, .int .i64 c, .int .i64 d]) (.int .i64 1)).run Tryd.prog w = .ok (.int .i64 b) w ∧
    (Instr.index 69 (.agg #[.int .i64 a, .int .i64 b, .int .i64 c, .int .i64 d]) (.int .i64 2)).run Tryd.prog w = .ok (.int .i64 c) w ∧ (Instr.index 69 (.agg #[.int .i64 a, .int .i64 b, .int .i64 c, .int .i64 d]) (.int .i64 3)).run Tryd.prog w = .ok (.int .i64 d) w := by
  refine ⟨?_, ?_, ?_, ?_⟩ <;> simp [Instr.index, run_underlying Tryd.underlying69, asIntOf, part, go_sem]
def ofQ (p o : Int) : Int := if p < 1 then o else p
/-- The parameters of which k are looked at. -/
def mixQ (p : R4) (rows cols : Nat) (k : Nat) : R4 := ⟨if 0 < k then ofQ p.t 1 else p.t, if 1 < k then ofQ p.l 1 else p.l, if 2 < k then ofQ p.n rows else p.n, if 3 < k then ofQ p.c cols else p.c⟩
def ofR (p : R4) (rows cols : Nat) (m0 m1 : Int) (o : Bool) : R4 :=
  ⟨max (if o then ofQ p.t 1 - 1 + m0 else ofQ p.t 1 - 1) 0, ofQ p.l 1 - 1,
   max (if o then min (ofQ p.n rows + m0) (m1 + 1) else ofQ p.n rows) 0 - max (if o then ofQ p.t 1 - 1 + m0 else ofQ p.t 1 - 1) 0, ofQ p.c cols - ofQ p.l 1 + 1⟩
theorem Q4.set {w : World} {b : Nat} {r : R4} (h : Q4 w b r) (j : Nat) (hj : j < 4) (x : Int) : Q4 (w.setCell ⟨b, j, none⟩ (.int .i64 x)) b ⟨if j = 0 then x else r.t, if j = 1 then x else r.l, if j = 2 then x else r.n, if j = 3 then x else r.c⟩ := by
  obtain ⟨h0, ⟨a0, a1, a2, a3⟩, hf⟩ := h
  refine ⟨by simp; exact h0, ?_, fun i => by simp [hf i]⟩
  match j, hj with
  | 0, _ => refine ⟨?_, ?_, ?_, ?_⟩ <;> simp [World.cell?_setCell_other, World.cell?_setCell_same', a0, a1, a2, a3]
  | 1, _ => refine ⟨?_, ?_, ?_, ?_⟩ <;> simp [World.cell?_setCell_other, World.cell?_setCell_same', a0, a1, a2, a3]
  | 2, _ => refine ⟨?_, ?_, ?_, ?_⟩ <;> simp [World.cell?_setCell_other, World.cell?_setCell_same', a0, a1, a2, a3]
  | 3, _ => refine ⟨?_, ?_, ?_, ?_⟩ <;> simp [World.cell?_setCell_other, World.cell?_setCell_same', a0, a1, a2, a3]
theorem ofQ_pos {p o : Int} (k : 1 ≤ o) : 1 ≤ ofQ p o := by unfold ofQ; split <;> omega
theorem ofQ_nn {p o : Int} (k : 0 ≤ o) : 0 ≤ ofQ p o := by unfold ofQ; split <;> omega
theorem ofQ_bd {p o B : Int} (h : -B ≤ p ∧ p ≤ B) (k : -B ≤ o ∧ o ≤ B) : -B ≤ ofQ p o ∧ ofQ p o ≤ B := by unfold ofQ; split <;> assumption
set_option maxHeartbeats 8000000 in
set_option maxRecDepth 100000 in
theorem of12_any (w : World) (p : R4) (rows cols : Nat) (m0 m1 : Int) (o : Bool) (h0 : -1000 ≤ p.t ∧ p.t ≤ 1000) (h1 : -1000 ≤ p.l ∧ p.l ≤ 1000) (h2 : -1000 ≤ p.n ∧ p.n ≤ 1000) (h3 : -1000 ≤ p.c ∧ p.c ≤ 1000)
    (hr : rows ≤ 1000) (hc : cols ≤ 1000) (hm0 : 0 ≤ m0 ∧ m0 ≤ 1000) (hm1 : 0 ≤ m1 ∧ m1 ≤ 1000) :
    Calls Tryd.prog 27 #[r4V p, .int .i64 (rows : Nat), .int .i64 (cols : Nat), .agg #[.int .i64 m0, .int .i64 m1], .bool o] w fun e w' => e = .returned (rkV (clipM (ofR p rows cols m0 m1 o) rows cols)) ∧ Below w.heap.size w w' := by
  obtain ⟨KR, hKR⟩ : ∃ K, K = clipM (ofR p rows cols m0 m1 o) rows cols := ⟨_, rfl⟩
  have HKR := Lib.hid hKR
  rw [← hKR]
  clear hKR
  obtain ⟨w0, hw0⟩ : ∃ x, x = ((w.alloc (.cells #[.int .i64 p.t, .int .i64 p.l, .int .i64 p.n, .int .i64 p.c] 69)).alloc (.cells #[.int .i64 m0, .int .i64 m1] 66)).alloc (.cells #[.int .i64 0, .int .i64 0, .int .i64 0, .int .i64 0] 30) := ⟨_, rfl⟩
  obtain ⟨b5, hb5⟩ : ∃ b, b = w.heap.size := ⟨_, rfl⟩
  obtain ⟨b8, hb8⟩ : ∃ b, b = w.heap.size + 1 := ⟨_, rfl⟩
  obtain ⟨b10, hb10⟩ : ∃ b, b = w.heap.size + 2 := ⟨_, rfl⟩
  have HNE := Lib.hid (show b5 = w.heap.size ∧ b8 = w.heap.size + 1 ∧ b10 = w.heap.size + 2 ∧ w0.heap.size = w.heap.size + 3 by rw [hw0]; exact ⟨hb5, hb8, hb10, by simp⟩)
  have B0 := Lib.hid (show Below w.heap.size w w0 by rw [hw0]; exact (((Below.refl _ _).alloc (Nat.le_refl _) _).alloc (by simp) _).alloc (by simp; omega) _)
  have Q5 := Lib.hid (show Q4 w0 b5 p by rw [hw0]; exact ((Q4.newAt w b5 hb5 p.t p.l p.n p.c _).below ((Below.refl _ _).alloc (Nat.le_refl _) _)).below ((Below.refl _ _).alloc (Nat.le_refl _) _))
  have L8 := Lib.hid (show Lie w0 b8 [.int .i64 m0, .int .i64 m1] by rw [hw0]; exact (Lie.new _ _ _ b8 (by rw [hb8]; simp)).below ((Below.refl _ _).alloc (Nat.le_refl _) _))
  have Q10 := Lib.hid (show Q4 w0 b10 ⟨0, 0, 0, 0⟩ by rw [hw0]; exact Q4.newAt _ b10 (by rw [hb10]; simp) 0 0 0 0 _)
  go_enter Tryd.func27, Tryd.ntmps27
  go_upto_region 1 with (fail)
  rw [← hw0, ← hb10, ← hb8, ← hb5]
  clear hw0 hb10 hb8 hb5
  go_wp2
  go_loopg [18] 4 (fun gl vi wr => ∃ (k : Nat), vi = .int .i64 k ∧ k ≤ 4 ∧ 4 - k ≤ gl ∧ Hid (Q4 wr b5 (mixQ p rows cols k)) ∧ Hid (But b5 w0 wr))
  case atStart => exact ⟨0, rfl, Nat.zero_le _, Nat.sub_le _ _, Q5, Lib.hid (But.refl _ _)⟩
  case round =>
    obtain ⟨k, rfl, hkn, hgk, HQ, HB⟩ := hrel
    clear Q5
    by_cases hlt : k < 4
    · obtain ⟨hs, ⟨a0, a1, a2, a3⟩, hf⟩ := HQ.out
      have HLT := Lib.hid hlt
      have STEP := fun (x : Int) (j : Nat) (hj : j < 4) (e : mixQ p rows cols (j + 1) = ⟨if j = 0 then x else (mixQ p rows cols j).t, if j = 1 then x else (mixQ p rows cols j).l, if j = 2 then x else (mixQ p rows cols j).n, if j = 3 then x else (mixQ p rows cols j).c⟩) (h : Q4 wr b5 (mixQ p rows cols j)) => (show Q4 (wr.setCell ⟨b5, j, none⟩ (.int .i64 x)) b5 (mixQ p rows cols (j + 1)) ∧ But b5 w0 (wr.setCell ⟨b5, j, none⟩ (.int .i64 x)) by
        rw [e]
        exact ⟨h.set j hj x, HB.out.trans (But.set wr b5 j _)⟩)
      have STAY := fun (j : Nat) (e : mixQ p rows cols (j + 1) = mixQ p rows cols j) (h : Q4 wr b5 (mixQ p rows cols j)) => (show Q4 wr b5 (mixQ p rows cols (j + 1)) by rw [e]; exact h)
      have hfj := hf
      match k, hlt with
      | 0, _ =>
        have f0 := hf 0
        have g0 : wr.cell? ⟨b5, 0, none⟩ = some (.int .i64 p.t) := a0
        have i0 := (idx4 1 1 rows cols wr).1
        by_cases hp : p.t < 1
        · have HS := Lib.hid (STEP 1 0 (by omega) (by simp [mixQ, ofQ, hp]) HQ.out)
          clear a0 a1 a2 a3 hf hfj STEP STAY
          go_wp2
          go_roundg 3
          case rel => exact ⟨1, by go_num, by omega, Nat.le_refl _, Lib.hid HS.out.1, Lib.hid HS.out.2⟩
          case measure => omega
        · have HS := Lib.hid (STAY 0 (by simp [mixQ, ofQ, hp]) HQ.out)
          clear a0 a1 a2 a3 hf hfj STEP STAY
          go_wp2
          go_roundg 3
          case rel => exact ⟨1, by go_num, by omega, Nat.le_refl _, Lib.hid HS.out, HB⟩
          case measure => omega
      | 1, _ =>
        have f0 := hf 1
        have g0 : wr.cell? ⟨b5, 1, none⟩ = some (.int .i64 p.l) := a1
        have i0 := (idx4 1 1 rows cols wr).2.1
        by_cases hp : p.l < 1
        · have HS := Lib.hid (STEP 1 1 (by omega) (by simp [mixQ, ofQ, hp]) HQ.out)
          clear a0 a1 a2 a3 hf hfj STEP STAY
          go_wp2
          go_roundg 2
          case rel => exact ⟨2, by go_num, by omega, Nat.le_refl _, Lib.hid HS.out.1, Lib.hid HS.out.2⟩
          case measure => omega
        · have HS := Lib.hid (STAY 1 (by simp [mixQ, ofQ, hp]) HQ.out)
          clear a0 a1 a2 a3 hf hfj STEP STAY
          go_wp2
          go_roundg 2
          case rel => exact ⟨2, by go_num, by omega, Nat.le_refl _, Lib.hid HS.out, HB⟩
          case measure => omega
      | 2, _ =>
        have f0 := hf 2
        have g0 : wr.cell? ⟨b5, 2, none⟩ = some (.int .i64 p.n) := a2
        have i0 := (idx4 1 1 rows cols wr).2.2.1
        by_cases hp : p.n < 1
        · have HS := Lib.hid (STEP rows 2 (by omega) (by simp [mixQ, ofQ, hp]) HQ.out)
          clear a0 a1 a2 a3 hf hfj STEP STAY
          go_wp2
          go_roundg 1
          case rel => exact ⟨3, by go_num, by omega, Nat.le_refl _, Lib.hid HS.out.1, Lib.hid HS.out.2⟩
          case measure => omega
        · have HS := Lib.hid (STAY 2 (by simp [mixQ, ofQ, hp]) HQ.out)
          clear a0 a1 a2 a3 hf hfj STEP STAY
          go_wp2
          go_roundg 1
          case rel => exact ⟨3, by go_num, by omega, Nat.le_refl _, Lib.hid HS.out, HB⟩
          case measure => omega
      | 3, _ =>
        have f0 := hf 3
        have g0 : wr.cell? ⟨b5, 3, none⟩ = some (.int .i64 p.c) := a3
        have i0 := (idx4 1 1 rows cols wr).2.2.2
        by_cases hp : p.c < 1
        · have HS := Lib.hid (STEP cols 3 (by omega) (by simp [mixQ, ofQ, hp]) HQ.out)
          clear a0 a1 a2 a3 hf hfj STEP STAY
          go_wp2
          go_roundg 0
          case rel => exact ⟨4, by go_num, by omega, Nat.le_refl _, Lib.hid HS.out.1, Lib.hid HS.out.2⟩
          case measure => omega
        · have HS := Lib.hid (STAY 3 (by simp [mixQ, ofQ, hp]) HQ.out)
          clear a0 a1 a2 a3 hf hfj STEP STAY
          go_wp2
          go_roundg 0
          case rel => exact ⟨4, by go_num, by omega, Nat.le_refl _, Lib.hid HS.out, HB⟩
          case measure => omega
    · obtain rfl : k = 4 := by omega
      have HQ4 := Lib.hid (show Q4 wr b5 ⟨ofQ p.t 1, ofQ p.l 1, ofQ p.n rows, ofQ p.c cols⟩ from HQ.out)
      have d0 := ofQ_bd h0 (o := 1) (by omega)
      have d1 := ofQ_bd h1 (o := 1) (by omega)
      have d2 := ofQ_bd h2 (o := (rows : Int)) (by omega)
      have d3 := ofQ_bd h3 (o := (cols : Int)) (by omega)
      have d4 : 1 ≤ ofQ p.t 1 := ofQ_pos (by omega)
      have d5 : 0 ≤ ofQ p.n rows := ofQ_nn (by omega)
      obtain ⟨q0, e0⟩ : ∃ q, q = ofQ p.t 1 := ⟨_, rfl⟩
      obtain ⟨q1, e1⟩ : ∃ q, q = ofQ p.l 1 := ⟨_, rfl⟩
      obtain ⟨q2, e2⟩ : ∃ q, q = ofQ p.n rows := ⟨_, rfl⟩
      obtain ⟨q3, e3⟩ : ∃ q, q = ofQ p.c cols := ⟨_, rfl⟩
      have HOR := Lib.hid (show ofR p rows cols m0 m1 o = ⟨max (if o then q0 - 1 + m0 else q0 - 1) 0, q1 - 1, max (if o then min (q2 + m0) (m1 + 1) else q2) 0 - max (if o then q0 - 1 + m0 else q0 - 1) 0, q3 - q1 + 1⟩ by rw [e0, e1, e2, e3]; rfl)
      rw [← e0, ← e1, ← e2, ← e3] at HQ4
      rw [← e0] at d0 d4
      rw [← e1] at d1
      rw [← e2] at d2 d5
      rw [← e3] at d3
      replace HKR := Lib.hid (show KR = clipM ⟨_, _, _, _⟩ rows cols by rw [HKR.out, HOR.out])
      obtain ⟨hs, ⟨a0, a1, a2, a3⟩, hf⟩ := HQ4.out
      dsimp only at a0 a1 a2 a3
      have HBW := Lib.hid (show Below w.heap.size w wr from B0.out.trans (HB.out.below (C := w.heap.size) (by have := HNE.out; omega) B0.out.size))
      have L8' := Lib.hid (show wr.cell? ⟨b8, 0, none⟩ = some (.int .i64 m0) ∧ wr.cell? ⟨b8, 1, none⟩ = some (.int .i64 m1) from ⟨(HB.out.cell (L8.out.at 0 rfl) (by have := HNE.out; simp; omega)), (HB.out.cell (L8.out.at 1 rfl) (by have := HNE.out; simp; omega))⟩)
      have QA := Lib.hid (Q10.out.but HB.out (by have := HNE.out; omega))
      have HW := Lib.hid (show b10 < wr.heap.size by have := HNE.out; have := HB.out.size; omega)
      clear e0 e1 e2 e3 hf HQ Q10 L8 hlt hkn hgk h0 h1 h2 h3
      cases o with
      | false =>
        have KEEP := Lib.hid (show ∀ W, Below wr.heap.size wr W → (fun wx => wx.cell? ⟨b5, 0, none⟩ = some (.int .i64 q0) ∧ wx.cell? ⟨b5, 2, none⟩ = some (.int .i64 q2)) W from fun W hb => by
          have := HQ4.out.below hb
          exact ⟨this.2.1.1, this.2.1.2.2.1⟩)
        go_wp2_with fail
        refine wp_region_held_drew (S := (fun wx => wx.cell? ⟨b5, 0, none⟩ = some (.int .i64 q0) ∧ wx.cell? ⟨b5, 2, none⟩ = some (.int .i64 q2))) (by kernel_rfl) ?_ (fun hHeld => ?_)
        · exact KEEP.out _ ((Below.refl _ _).drew)
        obtain ⟨wd, hwd⟩ : ∃ X, X = wr.drew := ⟨_, rfl⟩
        have HX := Lib.hid (show Below wr.heap.size wr wd by rw [hwd]; exact (Below.refl _ _).drew)
        replace hHeld := KEEP.out _ HX.out
        rw [← hwd]
        clear hwd
        refine tk 0 rfl (fun w hSw => by (try dsimp only at hSw); go_simp; try with_reducible rfl) ?_
        go_frame
        refine tk 1 rfl (fun w hSw => by (try dsimp only at hSw); go_simp; try with_reducible rfl) ?_
        go_frame
        refine tk 2 rfl (fun w hSw => by (try dsimp only at hSw); go_simp; try with_reducible rfl) ?_
        go_frame
        refine tk 3 rfl (fun w hSw => by (try dsimp only at hSw); go_simp; try with_reducible rfl) ?_
        go_frame
        refine tk 4 rfl (fun w hSw => by (try dsimp only at hSw); go_simp; try with_reducible rfl) ?_
        go_frame
        refine tk 5 rfl (fun w hSw => by (try dsimp only at hSw); go_simp; try with_reducible rfl) ?_
        go_frame
        refine tk 6 rfl (fun w hSw => by (try dsimp only at hSw); go_simp; try with_reducible rfl) ?_
        go_frame
        refine wpAnyH_done (by kernel_rfl) ?_ _
        have HBX := HX
        clear hHeld KEEP
        have g1 : wd.cell? ⟨b5, 1, none⟩ = some (.int .i64 q1) := (HQ4.out.below HBX.out).2.1.2.1
        have g3 : wd.cell? ⟨b5, 3, none⟩ = some (.int .i64 q3) := (HQ4.out.below HBX.out).2.1.2.2.2
        have HCL := Lib.hid (clip_any wd ⟨q0 - 1, q1 - 1, q2 - (q0 - 1), q3 - q1 + 1⟩ rows cols ⟨⟨by dsimp only; omega, by dsimp only; omega⟩, ⟨by dsimp only; omega, by dsimp only; omega⟩, ⟨by dsimp only; omega, by dsimp only; omega⟩, ⟨by dsimp only; omega, by dsimp only; omega⟩⟩ (by omega) (by omega))
        have HK2 := Lib.hid (show KR = clipM ⟨q0 - 1, q1 - 1, q2 - (q0 - 1), q3 - q1 + 1⟩ rows cols by
          rw [HKR.out]
          have e1 : max (q0 - 1) 0 = q0 - 1 := Int.max_eq_left (by omega)
          have e2 : max (q2) 0 = q2 := Int.max_eq_left (by omega)
          simp only [Bool.false_eq_true, if_false, e1, e2])
        rw [← HK2.out] at HCL
        try dsimp only at HCL
        have v1 : ¬ q0 - 1 < 0 := by omega
        have v2 : ¬ q2 < 0 := by omega
        go_wp2_with fail
        refine HCL.out.mono ?_
        rintro e wz ⟨rfl, bz⟩
        have HBZ := Lib.hid (show Below wr.heap.size wr wz from HBX.out.trans (bz.mono HBX.out.size))
        clear g1 g3 HCL v1 v2 bz
        obtain ⟨kt, kl, kn, kc⟩ := KR
        dsimp only
        have QZ := Lib.hid (QA.out.below HBZ.out)
        obtain ⟨wq, hwq⟩ : ∃ X, X = put4 wz b10 (kt : Nat) (kl : Nat) (kn : Nat) (kc : Nat) := ⟨_, rfl⟩
        have Z := Lib.hid (show Q4 wq b10 ⟨(kt : Nat), (kl : Nat), (kn : Nat), (kc : Nat)⟩ by rw [hwq]; exact QZ.out.put _ _ _ _)
        have HE := Lib.hid (show Below w.heap.size w wq by
          rw [hwq]
          exact (HBW.out.trans (HBZ.out.mono HBW.out.size)).trans ((put4_but wz b10 _ _ _ _).below (C := w.heap.size) (by have := HNE.out; omega) (Nat.le_trans HBW.out.size HBZ.out.size)))
        obtain ⟨s0, ⟨z0, z1, z2, z3⟩, zf⟩ := QZ.out
        have f0 := zf 0
        have f1 := zf 1
        have f2 := zf 2
        have f3 := zf 3
        dsimp only at z0 z1 z2 z3
        unfold put4 at hwq
        go_wp2
        rw [← hwq]
        clear hwq z0 z1 z2 z3 f0 f1 f2 f3 zf
        obtain ⟨_, ⟨k0, k1, k2, k3⟩, _⟩ := Z.out
        dsimp only at k0 k1 k2 k3
        exact bodyPost_ret (v := .agg #[.int .i64 (kt : Nat), .int .i64 (kl : Nat), .int .i64 (kn : Nat), .int .i64 (kc : Nat)]) (by simp [results, Tryd.results27, go_sem, k0, k1, k2, k3]) rfl ⟨rfl, HE.out⟩
      | true =>
        have KEEP := Lib.hid (show ∀ W, Below wr.heap.size wr W → (fun wx => wx.cell? ⟨b5, 0, none⟩ = some (.int .i64 q0) ∧ wx.cell? ⟨b5, 2, none⟩ = some (.int .i64 q2)) W from fun W hb => by
          have := HQ4.out.below hb
          exact ⟨this.2.1.1, this.2.1.2.2.1⟩)
        go_wp2_with fail
        refine wp_region_held_drew (S := (fun wx => wx.cell? ⟨b5, 0, none⟩ = some (.int .i64 q0) ∧ wx.cell? ⟨b5, 2, none⟩ = some (.int .i64 q2))) (by kernel_rfl) ?_ (fun hHeld => ?_)
        · exact KEEP.out _ ((Below.refl _ _).drew)
        obtain ⟨wd, hwd⟩ : ∃ X, X = wr.drew := ⟨_, rfl⟩
        have HX := Lib.hid (show Below wr.heap.size wr wd by rw [hwd]; exact (Below.refl _ _).drew)
        replace hHeld := KEEP.out _ HX.out
        rw [← hwd]
        clear hwd
        refine tk 0 rfl (fun w hSw => by (try dsimp only at hSw); go_simp; try with_reducible rfl) ?_
        go_frame
        refine tk 1 rfl (fun w hSw => by (try dsimp only at hSw); go_simp; try with_reducible rfl) ?_
        go_frame
        refine tk 2 rfl (fun w hSw => by (try dsimp only at hSw); go_simp; try with_reducible rfl) ?_
        go_frame
        refine tk 3 rfl (fun w hSw => by (try dsimp only at hSw); go_simp; try with_reducible rfl) ?_
        go_frame
        refine tk 4 rfl (fun w hSw => by (try dsimp only at hSw); go_simp; try with_reducible rfl) ?_
        go_frame
        refine tk 5 rfl (fun w hSw => by (try dsimp only at hSw); go_simp; try with_reducible rfl) ?_
        go_frame
        refine tk 6 rfl (fun w hSw => by (try dsimp only at hSw); go_simp; try with_reducible rfl) ?_
        go_frame
        refine wpAnyH_done (by kernel_rfl) ?_ _
        clear hHeld KEEP
        have u1 : IntKind.i64.wrap (q0 - 1) = q0 - 1 := by rw [IntKind.wrap_i64]; omega
        rw [u1]
        have KEEP8 := Lib.hid (show ∀ W, Below wd.heap.size wd W → (fun wx => wx.cell? ⟨b8, 0, none⟩ = some (.int .i64 m0) ∧ wx.cell? ⟨b8, 1, none⟩ = some (.int .i64 m1)) W from fun W hb => by
          have h8 : b8 < wr.heap.size := by have := HNE.out; have := HB.out.size; omega
          have hb2 := HX.out.trans (hb.mono HX.out.size)
          exact ⟨(hb2.cell (p := ⟨b8, 0, none⟩) h8).trans L8'.out.1, (hb2.cell (p := ⟨b8, 1, none⟩) h8).trans L8'.out.2⟩)
        have hk8 := KEEP8.out wd (Below.refl _ _)
        have P1 := Lib.hid (fun W => plus_any W (q0 - 1) m0 (by omega) (by omega))
        have P2 := Lib.hid (fun W => plus_any W q2 m0 (by omega) (by omega))
        have P3 := Lib.hid (fun W => plus_any W m1 1 (by omega) (by omega))
        go_wp2_with fail
        refine wp_region_held_drew (S := (fun wx => wx.cell? ⟨b8, 0, none⟩ = some (.int .i64 m0) ∧ wx.cell? ⟨b8, 1, none⟩ = some (.int .i64 m1))) (by kernel_rfl) ?_ (fun hHeld => ?_)
        · exact KEEP8.out _ ((Below.refl _ _).drew)
        obtain ⟨we, hwd⟩ : ∃ X, X = wd.drew := ⟨_, rfl⟩
        have HY := Lib.hid (show Below wd.heap.size wd we by rw [hwd]; exact (Below.refl _ _).drew)
        replace hHeld := KEEP8.out _ HY.out
        rw [← hwd]
        clear hwd
        refine tk 0 rfl (fun w hSw => by (try dsimp only at hSw); go_simp; try with_reducible rfl) ?_
        go_frame
        refine tk 1 rfl (fun w hSw => by (try dsimp only at hSw); go_simp; try with_reducible rfl) ?_
        go_frame
        refine tk 2 rfl (fun w hSw => by (try dsimp only at hSw); go_simp; try with_reducible rfl) ?_
        go_frame
        refine tk 4 rfl (fun w hSw => by (try dsimp only at hSw); go_simp; try with_reducible rfl) ?_
        go_frame
        refine tk 5 rfl (fun w hSw => by (try dsimp only at hSw); go_simp; try with_reducible rfl) ?_
        go_frame
        refine tk 6 rfl (fun w hSw => by (try dsimp only at hSw); go_simp; try with_reducible rfl) ?_
        go_frame
        refine tk 8 rfl (fun w hSw => by (try dsimp only at hSw); go_simp; try with_reducible rfl) ?_
        go_frame
        refine tk 9 rfl (fun w hSw => by (try dsimp only at hSw); go_simp; try with_reducible rfl) ?_
        go_frame
        refine do_at (i := 3) rfl (by kernel_rfl) (by kernel_rfl) (fun K hK => ?_)
        go_simp
        refine (P1.out _).mono ?_
        rintro e w1 ⟨rfl, rfl⟩
        go_wp2_with fail
        refine hK.out _ _ ?_ (fun hHeld => ?_)
        · exact KEEP8.out _ HY.out
        clear hK K
        try go_frame
        refine do_at (i := 7) rfl (by kernel_rfl) (by kernel_rfl) (fun K hK => ?_)
        go_simp
        refine (P2.out _).mono ?_
        rintro e w1 ⟨rfl, rfl⟩
        go_wp2_with fail
        refine hK.out _ _ ?_ (fun hHeld => ?_)
        · exact KEEP8.out _ HY.out
        clear hK K
        try go_frame
        refine do_at (i := 10) rfl (by kernel_rfl) (by kernel_rfl) (fun K hK => ?_)
        go_simp
        refine (P3.out _).mono ?_
        rintro e w1 ⟨rfl, rfl⟩
        go_wp2_with fail
        refine hK.out _ _ ?_ (fun hHeld => ?_)
        · exact KEEP8.out _ HY.out
        clear hK K
        try go_frame
        have HBX := Lib.hid (show Below wr.heap.size wr we from HX.out.trans (HY.out.mono HX.out.size))
        by_cases hmin : m1 + 1 < q2 + m0
        · have hm : min (q2 + m0) (m1 + 1) = m1 + 1 := Int.min_eq_right (by omega)
          refine tk 11 rfl (fun w hSw => by (try dsimp only at hSw); go_simp; try with_reducible rfl) ?_
          go_frame
          refine tk 12 rfl (fun w hSw => by (try dsimp only at hSw); go_simp; try with_reducible rfl) ?_
          go_frame
          refine tk 13 rfl (fun w hSw => by (try dsimp only at hSw); go_simp; try with_reducible rfl) ?_
          go_frame
          refine wpAnyH_done (by kernel_rfl) ?_ _
          clear hHeld KEEP8 P1 P2 P3
          have g1 : we.cell? ⟨b5, 1, none⟩ = some (.int .i64 q1) := (HQ4.out.below HBX.out).2.1.2.1
          have g3 : we.cell? ⟨b5, 3, none⟩ = some (.int .i64 q3) := (HQ4.out.below HBX.out).2.1.2.2.2
          have HCL := Lib.hid (clip_any we ⟨q0 - 1 + m0, q1 - 1, m1 + 1 - (q0 - 1 + m0), q3 - q1 + 1⟩ rows cols ⟨⟨by dsimp only; omega, by dsimp only; omega⟩, ⟨by dsimp only; omega, by dsimp only; omega⟩, ⟨by dsimp only; omega, by dsimp only; omega⟩, ⟨by dsimp only; omega, by dsimp only; omega⟩⟩ (by omega) (by omega))
          have HK2 := Lib.hid (show KR = clipM ⟨q0 - 1 + m0, q1 - 1, m1 + 1 - (q0 - 1 + m0), q3 - q1 + 1⟩ rows cols by
            rw [HKR.out]
            have e1 : max (q0 - 1 + m0) 0 = q0 - 1 + m0 := Int.max_eq_left (by omega)
            have e2 : max (m1 + 1) 0 = m1 + 1 := Int.max_eq_left (by omega)
            simp only [hm, if_true, e1, e2])
          rw [← HK2.out] at HCL
          try dsimp only at HCL
          have v1 : ¬ q0 - 1 + m0 < 0 := by omega
          have v2 : ¬ m1 + 1 < 0 := by omega
          go_wp2_with fail
          refine HCL.out.mono ?_
          rintro e wz ⟨rfl, bz⟩
          have HBZ := Lib.hid (show Below wr.heap.size wr wz from HBX.out.trans (bz.mono HBX.out.size))
          clear g1 g3 HCL v1 v2 bz
          obtain ⟨kt, kl, kn, kc⟩ := KR
          dsimp only
          have QZ := Lib.hid (QA.out.below HBZ.out)
          obtain ⟨wq, hwq⟩ : ∃ X, X = put4 wz b10 (kt : Nat) (kl : Nat) (kn : Nat) (kc : Nat) := ⟨_, rfl⟩
          have Z := Lib.hid (show Q4 wq b10 ⟨(kt : Nat), (kl : Nat), (kn : Nat), (kc : Nat)⟩ by rw [hwq]; exact QZ.out.put _ _ _ _)
          have HE := Lib.hid (show Below w.heap.size w wq by
            rw [hwq]
            exact (HBW.out.trans (HBZ.out.mono HBW.out.size)).trans ((put4_but wz b10 _ _ _ _).below (C := w.heap.size) (by have := HNE.out; omega) (Nat.le_trans HBW.out.size HBZ.out.size)))
          obtain ⟨s0, ⟨z0, z1, z2, z3⟩, zf⟩ := QZ.out
          have f0 := zf 0
          have f1 := zf 1
          have f2 := zf 2
          have f3 := zf 3
          dsimp only at z0 z1 z2 z3
          unfold put4 at hwq
          go_wp2
          rw [← hwq]
          clear hwq z0 z1 z2 z3 f0 f1 f2 f3 zf
          obtain ⟨_, ⟨k0, k1, k2, k3⟩, _⟩ := Z.out
          dsimp only at k0 k1 k2 k3
          exact bodyPost_ret (v := .agg #[.int .i64 (kt : Nat), .int .i64 (kl : Nat), .int .i64 (kn : Nat), .int .i64 (kc : Nat)]) (by simp [results, Tryd.results27, go_sem, k0, k1, k2, k3]) rfl ⟨rfl, HE.out⟩
        · have hm : min (q2 + m0) (m1 + 1) = q2 + m0 := Int.min_eq_left (by omega)
          refine tk 11 rfl (fun w hSw => by (try dsimp only at hSw); go_simp; try with_reducible rfl) ?_
          go_frame
          refine tk 12 rfl (fun w hSw => by (try dsimp only at hSw); go_simp; try with_reducible rfl) ?_
          go_frame
          refine tk 13 rfl (fun w hSw => by (try dsimp only at hSw); go_simp; try with_reducible rfl) ?_
          go_frame
          refine wpAnyH_done (by kernel_rfl) ?_ _
          clear hHeld KEEP8 P1 P2 P3
          have g1 : we.cell? ⟨b5, 1, none⟩ = some (.int .i64 q1) := (HQ4.out.below HBX.out).2.1.2.1
          have g3 : we.cell? ⟨b5, 3, none⟩ = some (.int .i64 q3) := (HQ4.out.below HBX.out).2.1.2.2.2
          have HCL := Lib.hid (clip_any we ⟨q0 - 1 + m0, q1 - 1, q2 + m0 - (q0 - 1 + m0), q3 - q1 + 1⟩ rows cols ⟨⟨by dsimp only; omega, by dsimp only; omega⟩, ⟨by dsimp only; omega, by dsimp only; omega⟩, ⟨by dsimp only; omega, by dsimp only; omega⟩, ⟨by dsimp only; omega, by dsimp only; omega⟩⟩ (by omega) (by omega))
          have HK2 := Lib.hid (show KR = clipM ⟨q0 - 1 + m0, q1 - 1, q2 + m0 - (q0 - 1 + m0), q3 - q1 + 1⟩ rows cols by
            rw [HKR.out]
            have e1 : max (q0 - 1 + m0) 0 = q0 - 1 + m0 := Int.max_eq_left (by omega)
            have e2 : max (q2 + m0) 0 = q2 + m0 := Int.max_eq_left (by omega)
            simp only [hm, if_true, e1, e2])
          rw [← HK2.out] at HCL
          try dsimp only at HCL
          have v1 : ¬ q0 - 1 + m0 < 0 := by omega
          have v2 : ¬ q2 + m0 < 0 := by omega
          go_wp2_with fail
          refine HCL.out.mono ?_
          rintro e wz ⟨rfl, bz⟩
          have HBZ := Lib.hid (show Below wr.heap.size wr wz from HBX.out.trans (bz.mono HBX.out.size))
          clear g1 g3 HCL v1 v2 bz
          obtain ⟨kt, kl, kn, kc⟩ := KR
          dsimp only
          have QZ := Lib.hid (QA.out.below HBZ.out)
          obtain ⟨wq, hwq⟩ : ∃ X, X = put4 wz b10 (kt : Nat) (kl : Nat) (kn : Nat) (kc : Nat) := ⟨_, rfl⟩
          have Z := Lib.hid (show Q4 wq b10 ⟨(kt : Nat), (kl : Nat), (kn : Nat), (kc : Nat)⟩ by rw [hwq]; exact QZ.out.put _ _ _ _)
          have HE := Lib.hid (show Below w.heap.size w wq by
            rw [hwq]
            exact (HBW.out.trans (HBZ.out.mono HBW.out.size)).trans ((put4_but wz b10 _ _ _ _).below (C := w.heap.size) (by have := HNE.out; omega) (Nat.le_trans HBW.out.size HBZ.out.size)))
          obtain ⟨s0, ⟨z0, z1, z2, z3⟩, zf⟩ := QZ.out
          have f0 := zf 0
          have f1 := zf 1
          have f2 := zf 2
          have f3 := zf 3
          dsimp only at z0 z1 z2 z3
          unfold put4 at hwq
          go_wp2
          rw [← hwq]
          clear hwq z0 z1 z2 z3 f0 f1 f2 f3 zf
          obtain ⟨_, ⟨k0, k1, k2, k3⟩, _⟩ := Z.out
          dsimp only at k0 k1 k2 k3
          exact bodyPost_ret (v := .agg #[.int .i64 (kt : Nat), .int .i64 (kl : Nat), .int .i64 (kn : Nat), .int .i64 (kc : Nat)]) (by simp [results, Tryd.results27, go_sem, k0, k1, k2, k3]) rfl ⟨rfl, HE.out⟩
end Go.Proofs.YtlaafmjiiiaceaaDoor.Lab
