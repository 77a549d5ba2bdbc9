/- slices.Equal of rows, slices.EqualFunc of rows of rows; the reference's Same; the project's Same and Copy of a ring. -/
import Derived.Test.YtnefamgjlhdffaaRgAll
import Derived.Test.YtnefamgjlhdffaaRgLab
import Derived.Test.YtnefamgjlhdffaaRoSame
set_option linter.unusedVariables false
namespace Go.Proofs.Ytnefamgjlhdffaa.Lab
open Go Go.RowKit

set_option maxHeartbeats 8000000 in
set_option maxRecDepth 100000 in
theorem equal_any (w : World) (u v : Value) (R S : Cls) (hu : RowIn w u R) (hv : RowIn w v S) (hl : R.length ≤ 10000) : Calls Try.prog 49 #[u, v] w fun e w' => e = .returned (.bool (decide (R = S))) ∧ Below w.heap.size w w' := by
  obtain ⟨ua, uc, rfl⟩ := hu.shape
  obtain ⟨va, vc, rfl⟩ := hv.shape
  obtain ⟨n, hn⟩ : ∃ n, n = R.length := ⟨_, rfl⟩
  obtain ⟨m, hm⟩ : ∃ m, m = S.length := ⟨_, rfl⟩
  have HN := Lib.hid hn
  have HM := Lib.hid hm
  have HU := Lib.hid hu
  have HV := Lib.hid hv
  rw [← hn] at HU hl ⊢
  rw [← hm] at HV ⊢
  clear hn hm hu hv
  by_cases hnm : n = m
  rotate_left
  · have e1 : ((n : Int) != (m : Int)) = true := by simp; omega
    have HD := Lib.hid (show decide (R = S) = false from decide_eq_false (fun e => hnm (by rw [HN.out, HM.out, e])))
    go_enter Try.func49, Try.ntmps49
    go_wp2
    go_ret
    exact ⟨by rw [HD.out]; rfl, Below.refl _ _⟩
  subst hnm
  go_enter Try.func49, Try.ntmps49
  go_wp2
  go_loopg [13] n (fun G i wr => ∃ j : Nat, i = .int .i64 j ∧ j ≤ n ∧ n - j ≤ G ∧ Hid (∀ t, t < j → gc R t = gc S t) ∧ Hid (Below w.heap.size w wr))
  case atStart => exact ⟨0, rfl, Nat.zero_le _, Nat.sub_le _ _, Lib.hid (fun t ht => absurd ht (Nat.not_lt_zero _)), Lib.hid (Below.refl _ _)⟩
  case round =>
    obtain ⟨j, rfl, hjn, hgj, HE, HB⟩ := hrel
    by_cases hlt : j < n
    · obtain ⟨g1, o1, c1, e, _, hg1, hC1⟩ := HU.out.open (by rw [← HN.out]; omega)
      injection e with e1 e2 e3
      subst e1
      clear e2 e3
      obtain ⟨g2, o2, c2, e, _, hg2, hC2⟩ := HV.out.open (by rw [← HM.out]; omega)
      injection e with e1 e2 e3
      subst e1
      clear e2 e3
      have hc := hC1 j (by rw [← HN.out]; exact hlt)
      have hd := hC2 j (by rw [← HM.out]; exact hlt)
      obtain ⟨c, hce⟩ : ∃ c, c = gc R j := ⟨_, rfl⟩
      obtain ⟨d, hde⟩ : ∃ d, d = gc S j := ⟨_, rfl⟩
      have HCE := Lib.hid hce
      have HDE := Lib.hid hde
      rw [← hce] at hc
      rw [← hde] at hd
      have HKEEP := Lib.hid (show ∀ W, Below w.heap.size w W → (fun w' => w'.cell? ⟨g1, o1 + j * 14, none⟩ = some (.int .i32 c.ru) ∧ w'.cell? ⟨g1, o1 + j * 14 + 1, none⟩ = some (.int .i32 c.m0) ∧ w'.cell? ⟨g1, o1 + j * 14 + 2, none⟩ = some (.int .i32 c.m1) ∧ w'.cell? ⟨g1, o1 + j * 14 + 3, none⟩ = some (.int .u8 c.k) ∧ w'.cell? ⟨g1, o1 + j * 14 + 4, none⟩ = some (.int .u8 c.a.fg.k) ∧ w'.cell? ⟨g1, o1 + j * 14 + 5, none⟩ = some (.int .u8 c.a.fg.r) ∧ w'.cell? ⟨g1, o1 + j * 14 + 6, none⟩ = some (.int .u8 c.a.fg.g) ∧ w'.cell? ⟨g1, o1 + j * 14 + 7, none⟩ = some (.int .u8 c.a.fg.b) ∧ w'.cell? ⟨g1, o1 + j * 14 + 8, none⟩ = some (.int .u8 c.a.bg.k) ∧ w'.cell? ⟨g1, o1 + j * 14 + 9, none⟩ = some (.int .u8 c.a.bg.r) ∧ w'.cell? ⟨g1, o1 + j * 14 + 10, none⟩ = some (.int .u8 c.a.bg.g) ∧ w'.cell? ⟨g1, o1 + j * 14 + 11, none⟩ = some (.int .u8 c.a.bg.b) ∧ w'.cell? ⟨g1, o1 + j * 14 + 12, none⟩ = some (.int .u16 (c.a.fl : Nat)) ∧ w'.cell? ⟨g1, o1 + j * 14 + 13, none⟩ = some (.int .u8 c.l) ∧ w'.cell? ⟨g2, o2 + j * 14, none⟩ = some (.int .i32 d.ru) ∧ w'.cell? ⟨g2, o2 + j * 14 + 1, none⟩ = some (.int .i32 d.m0) ∧ w'.cell? ⟨g2, o2 + j * 14 + 2, none⟩ = some (.int .i32 d.m1) ∧ w'.cell? ⟨g2, o2 + j * 14 + 3, none⟩ = some (.int .u8 d.k) ∧ w'.cell? ⟨g2, o2 + j * 14 + 4, none⟩ = some (.int .u8 d.a.fg.k) ∧ w'.cell? ⟨g2, o2 + j * 14 + 5, none⟩ = some (.int .u8 d.a.fg.r) ∧ w'.cell? ⟨g2, o2 + j * 14 + 6, none⟩ = some (.int .u8 d.a.fg.g) ∧ w'.cell? ⟨g2, o2 + j * 14 + 7, none⟩ = some (.int .u8 d.a.fg.b) ∧ w'.cell? ⟨g2, o2 + j * 14 + 8, none⟩ = some (.int .u8 d.a.bg.k) ∧ w'.cell? ⟨g2, o2 + j * 14 + 9, none⟩ = some (.int .u8 d.a.bg.r) ∧ w'.cell? ⟨g2, o2 + j * 14 + 10, none⟩ = some (.int .u8 d.a.bg.g) ∧ w'.cell? ⟨g2, o2 + j * 14 + 11, none⟩ = some (.int .u8 d.a.bg.b) ∧ w'.cell? ⟨g2, o2 + j * 14 + 12, none⟩ = some (.int .u16 (d.a.fl : Nat)) ∧ w'.cell? ⟨g2, o2 + j * 14 + 13, none⟩ = some (.int .u8 d.l)) W from fun W hb => by
        obtain ⟨a0, a1, a2, a3, a4, a5, a6, a7, a8, a9, a10, a11, a12, a13⟩ := hc.same (hb.block g1 hg1)
        obtain ⟨b0, b1, b2, b3, b4, b5, b6, b7, b8, b9, b10, b11, b12, b13⟩ := hd.same (hb.block g2 hg2)
        exact ⟨a0, a1, a2, a3, a4, a5, a6, a7, a8, a9, a10, a11, a12, a13, b0, b1, b2, b3, b4, b5, b6, b7, b8, b9, b10, b11, b12, b13⟩)
      dsimp only at HKEEP
      have hq := fun w => eqCel w c d
      clear hC1 hC2 hce hde hg1 hg2 hc hd
      by_cases hcd : c = d
      · have hdt : decide (c = d) = true := decide_eq_true hcd
        rw [hdt] at hq
        have HCD := Lib.hid hcd
        clear hdt hcd
        go_upto_region 6 with (fail)
        refine wp_region_held_drew (S := fun w' => w'.cell? ⟨g1, o1 + j * 14, none⟩ = some (.int .i32 c.ru) ∧ w'.cell? ⟨g1, o1 + j * 14 + 1, none⟩ = some (.int .i32 c.m0) ∧ w'.cell? ⟨g1, o1 + j * 14 + 2, none⟩ = some (.int .i32 c.m1) ∧ w'.cell? ⟨g1, o1 + j * 14 + 3, none⟩ = some (.int .u8 c.k) ∧ w'.cell? ⟨g1, o1 + j * 14 + 4, none⟩ = some (.int .u8 c.a.fg.k) ∧ w'.cell? ⟨g1, o1 + j * 14 + 5, none⟩ = some (.int .u8 c.a.fg.r) ∧ w'.cell? ⟨g1, o1 + j * 14 + 6, none⟩ = some (.int .u8 c.a.fg.g) ∧ w'.cell? ⟨g1, o1 + j * 14 + 7, none⟩ = some (.int .u8 c.a.fg.b) ∧ w'.cell? ⟨g1, o1 + j * 14 + 8, none⟩ = some (.int .u8 c.a.bg.k) ∧ w'.cell? ⟨g1, o1 + j * 14 + 9, none⟩ = some (.int .u8 c.a.bg.r) ∧ w'.cell? ⟨g1, o1 + j * 14 + 10, none⟩ = some (.int .u8 c.a.bg.g) ∧ w'.cell? ⟨g1, o1 + j * 14 + 11, none⟩ = some (.int .u8 c.a.bg.b) ∧ w'.cell? ⟨g1, o1 + j * 14 + 12, none⟩ = some (.int .u16 (c.a.fl : Nat)) ∧ w'.cell? ⟨g1, o1 + j * 14 + 13, none⟩ = some (.int .u8 c.l) ∧ w'.cell? ⟨g2, o2 + j * 14, none⟩ = some (.int .i32 d.ru) ∧ w'.cell? ⟨g2, o2 + j * 14 + 1, none⟩ = some (.int .i32 d.m0) ∧ w'.cell? ⟨g2, o2 + j * 14 + 2, none⟩ = some (.int .i32 d.m1) ∧ w'.cell? ⟨g2, o2 + j * 14 + 3, none⟩ = some (.int .u8 d.k) ∧ w'.cell? ⟨g2, o2 + j * 14 + 4, none⟩ = some (.int .u8 d.a.fg.k) ∧ w'.cell? ⟨g2, o2 + j * 14 + 5, none⟩ = some (.int .u8 d.a.fg.r) ∧ w'.cell? ⟨g2, o2 + j * 14 + 6, none⟩ = some (.int .u8 d.a.fg.g) ∧ w'.cell? ⟨g2, o2 + j * 14 + 7, none⟩ = some (.int .u8 d.a.fg.b) ∧ w'.cell? ⟨g2, o2 + j * 14 + 8, none⟩ = some (.int .u8 d.a.bg.k) ∧ w'.cell? ⟨g2, o2 + j * 14 + 9, none⟩ = some (.int .u8 d.a.bg.r) ∧ w'.cell? ⟨g2, o2 + j * 14 + 10, none⟩ = some (.int .u8 d.a.bg.g) ∧ w'.cell? ⟨g2, o2 + j * 14 + 11, none⟩ = some (.int .u8 d.a.bg.b) ∧ w'.cell? ⟨g2, o2 + j * 14 + 12, none⟩ = some (.int .u16 (d.a.fl : Nat)) ∧ w'.cell? ⟨g2, o2 + j * 14 + 13, none⟩ = some (.int .u8 d.l)) (by kernel_rfl) ?_ (fun hHeld => ?_)
        · exact HKEEP.out _ (HB.out.drew)
        obtain ⟨u0, hu0⟩ : ∃ u0, u0 = wr.drew := ⟨_, rfl⟩
        have HX := Lib.hid (show Below w.heap.size w u0 by rw [hu0]; exact HB.out.drew)
        replace hHeld := HKEEP.out _ HX.out
        rw [← hu0]
        clear hu0
        refine tk 0 rfl (fun w hSw => by (try dsimp only at hSw); go_simp; try with_reducible rfl) ?_
        go_frame
        refine tk 1 rfl (fun w hSw => by (try dsimp only at hSw); go_simp; try with_reducible rfl) ?_
        go_frame
        refine tk 2 rfl (fun w hSw => by (try dsimp only at hSw); go_simp; try with_reducible rfl) ?_
        go_frame
        refine tk 3 rfl (fun w hSw => by (try dsimp only at hSw); go_simp; try with_reducible rfl) ?_
        go_frame
        refine tk 4 rfl (fun w hSw => by (try dsimp only at hSw); go_simp; try with_reducible rfl) ?_
        go_frame
        refine tk 5 rfl (fun w hSw => by (try dsimp only at hSw); go_simp; try with_reducible rfl) ?_
        go_frame
        refine tk 6 rfl (fun w hSw => by (try dsimp only at hSw); go_simp; try with_reducible rfl) ?_
        go_frame
        refine tk 7 rfl (fun w hSw => by (try dsimp only at hSw); go_simp; try with_reducible rfl) ?_
        go_frame
        refine tk 8 rfl (fun w hSw => by (try dsimp only at hSw); go_simp; try with_reducible rfl) ?_
        go_frame
        refine wpAnyH_done (by kernel_rfl) ?_ _
        have HEN := Lib.hid (show ∀ t, t < j + 1 → gc R t = gc S t from fun t ht => by
          by_cases e : t = j
          · rw [e, ← HCE.out, ← HDE.out, HCD.out]
          · exact HE.out t (by omega))
        clear hHeld HKEEP hq HB HE
        go_wp2
        go_roundg (n - (j + 1))
        case rel => exact ⟨j + 1, by go_num, by omega, Nat.le_refl _, HEN, HX⟩
        case measure => omega
      · have hdt : decide (c = d) = false := decide_eq_false hcd
        rw [hdt] at hq
        have HCD := Lib.hid hcd
        clear hdt hcd
        go_upto_region 6 with (fail)
        refine wp_region_held_drew (S := fun w' => w'.cell? ⟨g1, o1 + j * 14, none⟩ = some (.int .i32 c.ru) ∧ w'.cell? ⟨g1, o1 + j * 14 + 1, none⟩ = some (.int .i32 c.m0) ∧ w'.cell? ⟨g1, o1 + j * 14 + 2, none⟩ = some (.int .i32 c.m1) ∧ w'.cell? ⟨g1, o1 + j * 14 + 3, none⟩ = some (.int .u8 c.k) ∧ w'.cell? ⟨g1, o1 + j * 14 + 4, none⟩ = some (.int .u8 c.a.fg.k) ∧ w'.cell? ⟨g1, o1 + j * 14 + 5, none⟩ = some (.int .u8 c.a.fg.r) ∧ w'.cell? ⟨g1, o1 + j * 14 + 6, none⟩ = some (.int .u8 c.a.fg.g) ∧ w'.cell? ⟨g1, o1 + j * 14 + 7, none⟩ = some (.int .u8 c.a.fg.b) ∧ w'.cell? ⟨g1, o1 + j * 14 + 8, none⟩ = some (.int .u8 c.a.bg.k) ∧ w'.cell? ⟨g1, o1 + j * 14 + 9, none⟩ = some (.int .u8 c.a.bg.r) ∧ w'.cell? ⟨g1, o1 + j * 14 + 10, none⟩ = some (.int .u8 c.a.bg.g) ∧ w'.cell? ⟨g1, o1 + j * 14 + 11, none⟩ = some (.int .u8 c.a.bg.b) ∧ w'.cell? ⟨g1, o1 + j * 14 + 12, none⟩ = some (.int .u16 (c.a.fl : Nat)) ∧ w'.cell? ⟨g1, o1 + j * 14 + 13, none⟩ = some (.int .u8 c.l) ∧ w'.cell? ⟨g2, o2 + j * 14, none⟩ = some (.int .i32 d.ru) ∧ w'.cell? ⟨g2, o2 + j * 14 + 1, none⟩ = some (.int .i32 d.m0) ∧ w'.cell? ⟨g2, o2 + j * 14 + 2, none⟩ = some (.int .i32 d.m1) ∧ w'.cell? ⟨g2, o2 + j * 14 + 3, none⟩ = some (.int .u8 d.k) ∧ w'.cell? ⟨g2, o2 + j * 14 + 4, none⟩ = some (.int .u8 d.a.fg.k) ∧ w'.cell? ⟨g2, o2 + j * 14 + 5, none⟩ = some (.int .u8 d.a.fg.r) ∧ w'.cell? ⟨g2, o2 + j * 14 + 6, none⟩ = some (.int .u8 d.a.fg.g) ∧ w'.cell? ⟨g2, o2 + j * 14 + 7, none⟩ = some (.int .u8 d.a.fg.b) ∧ w'.cell? ⟨g2, o2 + j * 14 + 8, none⟩ = some (.int .u8 d.a.bg.k) ∧ w'.cell? ⟨g2, o2 + j * 14 + 9, none⟩ = some (.int .u8 d.a.bg.r) ∧ w'.cell? ⟨g2, o2 + j * 14 + 10, none⟩ = some (.int .u8 d.a.bg.g) ∧ w'.cell? ⟨g2, o2 + j * 14 + 11, none⟩ = some (.int .u8 d.a.bg.b) ∧ w'.cell? ⟨g2, o2 + j * 14 + 12, none⟩ = some (.int .u16 (d.a.fl : Nat)) ∧ w'.cell? ⟨g2, o2 + j * 14 + 13, none⟩ = some (.int .u8 d.l)) (by kernel_rfl) ?_ (fun hHeld => ?_)
        · exact HKEEP.out _ (HB.out.drew)
        obtain ⟨u0, hu0⟩ : ∃ u0, u0 = wr.drew := ⟨_, rfl⟩
        have HX := Lib.hid (show Below w.heap.size w u0 by rw [hu0]; exact HB.out.drew)
        replace hHeld := HKEEP.out _ HX.out
        rw [← hu0]
        clear hu0
        refine tk 0 rfl (fun w hSw => by (try dsimp only at hSw); go_simp; try with_reducible rfl) ?_
        go_frame
        refine tk 1 rfl (fun w hSw => by (try dsimp only at hSw); go_simp; try with_reducible rfl) ?_
        go_frame
        refine tk 2 rfl (fun w hSw => by (try dsimp only at hSw); go_simp; try with_reducible rfl) ?_
        go_frame
        refine tk 3 rfl (fun w hSw => by (try dsimp only at hSw); go_simp; try with_reducible rfl) ?_
        go_frame
        refine tk 4 rfl (fun w hSw => by (try dsimp only at hSw); go_simp; try with_reducible rfl) ?_
        go_frame
        refine tk 5 rfl (fun w hSw => by (try dsimp only at hSw); go_simp; try with_reducible rfl) ?_
        go_frame
        refine tk 6 rfl (fun w hSw => by (try dsimp only at hSw); go_simp; try with_reducible rfl) ?_
        go_frame
        refine tk 7 rfl (fun w hSw => by (try dsimp only at hSw); go_simp; try with_reducible rfl) ?_
        go_frame
        refine tk 8 rfl (fun w hSw => by (try dsimp only at hSw); go_simp; try with_reducible rfl) ?_
        go_frame
        refine wpAnyH_done (by kernel_rfl) ?_ _
        have HD := Lib.hid (show decide (R = S) = false from decide_eq_false (fun e => HCD.out (by rw [HCE.out, HDE.out, e])))
        clear hHeld HKEEP hq HB HE
        go_wp2
        go_ret
        exact ⟨by rw [HD.out]; rfl, HX.out⟩
    · have hjn' : j = n := by omega
      have HD := Lib.hid (show decide (R = S) = true from decide_eq_true (ext_gc (by rw [← HN.out, ← HM.out]) fun i hi => HE.out i (by rw [← HN.out] at hi; omega)))
      go_wp2
      go_ret
      exact ⟨by rw [HD.out]; rfl, HB.out⟩
theorem ext_row {A B : List Cls} (hl : A.length = B.length) (h : ∀ i, i < A.length → rowG A i = rowG B i) : A = B := by
  refine List.ext_getElem hl fun i h1 h2 => ?_
  have := h i h1
  unfold rowG at this
  rwa [List.getD_eq_getElem?_getD, List.getD_eq_getElem?_getD, List.getElem?_eq_getElem h1, List.getElem?_eq_getElem h2] at this
theorem rowG_ln {H : List Ln} {i : Nat} (h : i < H.length) : rowG (rws H) i = H[i].R := by
  unfold rowG rws
  rw [List.getD_eq_getElem?_getD, List.getElem?_map, List.getElem?_eq_getElem h]
  rfl
theorem LIn.get {S : Nat → Prop} {w : World} {g : Option Addr} {n c : Nat} {H : List Ln} (h : LIn S w (.slice g n c) H) (h0 : 0 < H.length) : ∃ b o, g = some ⟨b, o, none⟩ ∧ ∀ i, (hi : i < H.length) → w.cell? ⟨b, o + i, none⟩ = some (H[i]).v := by
  obtain ⟨a, c', e, _, _, hh⟩ := h.sh
  injection e with e1 _ _
  subst e1
  obtain ⟨b, o, e, _, _, hC⟩ := hh h0
  exact ⟨b, o, e, hC⟩
set_option maxHeartbeats 8000000 in
set_option maxRecDepth 100000 in
theorem eqf_any (S T : Nat → Prop) (w : World) (u v : Value) (A B : List Ln) (hA : LIn S w u A) (hB : LIn T w v B) (hl : A.length ≤ 10000) (hr : ∀ x ∈ A, x.R.length ≤ 10000) :
    Calls Try.prog 48 #[u, v, .func (.func 49) #[] #[]] w fun e w' => e = .returned (.bool (decide (rws A = rws B))) ∧ Below w.heap.size w w' := by
  obtain ⟨ua, uc, rfl, _⟩ := hA.shape
  obtain ⟨va, vc, rfl, _⟩ := hB.shape
  obtain ⟨n, hn⟩ : ∃ n, n = A.length := ⟨_, rfl⟩
  obtain ⟨m, hm⟩ : ∃ m, m = B.length := ⟨_, rfl⟩
  have HN := Lib.hid hn
  have HM := Lib.hid hm
  have HA := Lib.hid hA
  have HB := Lib.hid hB
  have HRL := Lib.hid hr
  rw [← hn] at hl HA ⊢
  rw [← hm] at HB ⊢
  have HLE := Lib.hid hl
  clear hn hm hA hB hr
  by_cases hnm : n = m
  rotate_left
  · have e1 : ((n : Int) != (m : Int)) = true := by simp; omega
    have HD := Lib.hid (show decide (rws A = rws B) = false from decide_eq_false (fun e => hnm (by have := congrArg List.length e; rw [List.length_map, List.length_map] at this; rw [HN.out, HM.out, this])))
    go_enter Try.func48, Try.ntmps48
    go_wp2
    go_ret
    exact ⟨by rw [HD.out]; rfl, Below.refl _ _⟩
  subst hnm
  have hnn : ((n : Int) != (n : Int)) = false := by simp
  go_enter Try.func48, Try.ntmps48
  go_wp2
  go_loopg [17] n (fun G i wr => ∃ j : Nat, i = .int .i64 j ∧ j ≤ n ∧ n - j ≤ G ∧ Hid (∀ t, t < j → rowG (rws A) t = rowG (rws B) t) ∧ Hid (Below w.heap.size w wr))
  case atStart => exact ⟨0, rfl, Nat.zero_le _, Nat.sub_le _ _, Lib.hid (fun t ht => absurd ht (Nat.not_lt_zero _)), Lib.hid (Below.refl _ _)⟩
  case round =>
    obtain ⟨j, rfl, hjn, hgj, HE, HW⟩ := hrel
    clear hnn
    by_cases hlt : j < n
    · have HLT := Lib.hid hlt
      have hjA : j < A.length := by rw [← HN.out]; exact hlt
      have hjB : j < B.length := by rw [← HM.out]; exact hlt
      have HA1 := HA.out.below HW.out
      have HB1 := HB.out.below HW.out
      obtain ⟨b1, o1, e1, hC1⟩ := HA1.get (by omega)
      obtain ⟨b2, o2, e2, hC2⟩ := HB1.get (by omega)
      subst e1 e2
      have hc := hC1 j hjA
      have hd := hC2 j hjB
      obtain ⟨x, hx⟩ : ∃ x, x = A[j] := ⟨_, rfl⟩
      obtain ⟨y, hy⟩ : ∃ y, y = B[j] := ⟨_, rfl⟩
      rw [← hx] at hc
      rw [← hy] at hd
      have hxm : x ∈ A := by rw [hx]; exact List.getElem_mem _
      have hym : y ∈ B := by rw [hy]; exact List.getElem_mem _
      have HX := Lib.hid (show rowG (rws A) j = x.R by rw [rowG_ln hjA, hx])
      have HY := Lib.hid (show rowG (rws B) j = y.R by rw [rowG_ln hjB, hy])
      have HXR := Lib.hid (HA1.row x hxm)
      have HYR := Lib.hid (HB1.row y hym)
      have HXL := Lib.hid (HRL.out x hxm)
      obtain ⟨xa, xc, ex⟩ := HXR.out.shape
      obtain ⟨ya, yc, ey⟩ := HYR.out.shape
      obtain ⟨xl, hxl⟩ : ∃ l, l = x.R.length := ⟨_, rfl⟩
      obtain ⟨yl, hyl⟩ : ∃ l, l = y.R.length := ⟨_, rfl⟩
      rw [← hxl] at ex
      rw [← hyl] at ey
      rw [ex] at hc
      rw [ey] at hd
      have HEX := Lib.hid ex
      have HEY := Lib.hid ey
      have HJ9 := Lib.hid (show j ≤ 10000 by omega)
      clear hC1 hC2 hx hy hxm hym ex ey hxl hyl hjA hjB HA1 HB1
      go_wp2_with fail
      rw [← HEX.out, ← HEY.out]
      refine (equal_any wr x.v y.v x.R y.R HXR.out HYR.out HXL.out).mono ?_
      rintro e wz ⟨rfl, bz⟩
      have HW2 := Lib.hid (HW.out.trans (bz.mono HW.out.size))
      clear bz hc hd HXR HYR HW hlt
      by_cases hcd : x.R = y.R
      · have hdt : decide (x.R = y.R) = true := decide_eq_true hcd
        rw [hdt]
        have HEN := Lib.hid (show ∀ t, t < j + 1 → rowG (rws A) t = rowG (rws B) t from fun t ht => by
          by_cases e : t = j
          · rw [e, HX.out, HY.out, hcd]
          · exact HE.out t (by omega))
        clear hdt hcd HE
        have hlt := HLT.out
        have hj9 := HJ9.out
        go_wp2
        go_roundg (n - (j + 1))
        case rel => exact ⟨j + 1, by (first | go_num | (refine congrArg _ ?_; unfold wrap64; omega)), hlt, Nat.le_refl _, HEN, HW2⟩
        case measure => omega
      · have hdt : decide (x.R = y.R) = false := decide_eq_false hcd
        rw [hdt]
        have HD := Lib.hid (show decide (rws A = rws B) = false from decide_eq_false (fun e => hcd (by rw [← HX.out, ← HY.out, e])))
        clear hdt hcd HE
        go_wp2
        go_ret
        exact ⟨by rw [HD.out]; rfl, HW2.out⟩
    · have hjn' : j = n := by omega
      have HD := Lib.hid (show decide (rws A = rws B) = true from decide_eq_true (ext_row (by rw [List.length_map, List.length_map, ← HN.out, ← HM.out]) fun i hi => HE.out i (by rw [List.length_map, ← HN.out] at hi; omega)))
      have HW2 := Lib.hid HW.out
      go_wp2
      go_ret
      exact ⟨by rw [HD.out]; rfl, HW2.out⟩
set_option maxHeartbeats 8000000 in
set_option maxRecDepth 100000 in
theorem rsames_any (S T : Nat → Prop) (w : World) (u v : Value) (A B : List Ln) (hA : LIn S w u A) (hB : LIn T w v B) (hl : A.length ≤ 10000) (hr : ∀ x ∈ A, x.R.length ≤ 10000) :
    Calls Try.prog 21 #[u, v] w fun e w' => e = .returned (.bool (decide (rws A = rws B))) ∧ Below w.heap.size w w' := by
  obtain ⟨ua, uc, rfl, _⟩ := hA.shape
  obtain ⟨va, vc, rfl, _⟩ := hB.shape
  obtain ⟨n, hn⟩ : ∃ n, n = A.length := ⟨_, rfl⟩
  obtain ⟨m, hm⟩ : ∃ m, m = B.length := ⟨_, rfl⟩
  have HN := Lib.hid hn
  have HM := Lib.hid hm
  have HA := Lib.hid hA
  have HB := Lib.hid hB
  have HRL := Lib.hid hr
  rw [← hn] at hl HA ⊢
  rw [← hm] at HB ⊢
  have HLE := Lib.hid hl
  clear hn hm hA hB hr
  by_cases hnm : n = m
  rotate_left
  · have e1 : ((n : Int) != (m : Int)) = true := by simp; omega
    have HD := Lib.hid (show decide (rws A = rws B) = false from decide_eq_false (fun e => hnm (by have := congrArg List.length e; rw [List.length_map, List.length_map] at this; rw [HN.out, HM.out, this])))
    go_enter Try.func21, Try.ntmps21
    go_wp2
    go_ret
    exact ⟨by rw [HD.out]; rfl, Below.refl _ _⟩
  subst hnm
  have hnn : ((n : Int) != (n : Int)) = false := by simp
  go_enter Try.func21, Try.ntmps21
  go_wp2
  go_loopg [5] n (fun G i wr => ∃ j : Nat, i = .int .i64 j ∧ j ≤ n ∧ n - j ≤ G ∧ Hid (∀ t, t < j → rowG (rws A) t = rowG (rws B) t) ∧ Hid (Below w.heap.size w wr))
  case atStart => exact ⟨0, rfl, Nat.zero_le _, Nat.sub_le _ _, Lib.hid (fun t ht => absurd ht (Nat.not_lt_zero _)), Lib.hid (Below.refl _ _)⟩
  case round =>
    obtain ⟨j, rfl, hjn, hgj, HE, HW⟩ := hrel
    clear hnn
    by_cases hlt : j < n
    · have HLT := Lib.hid hlt
      have hjA : j < A.length := by rw [← HN.out]; exact hlt
      have hjB : j < B.length := by rw [← HM.out]; exact hlt
      have HA1 := HA.out.below HW.out
      have HB1 := HB.out.below HW.out
      obtain ⟨b1, o1, e1, hC1⟩ := HA1.get (by omega)
      obtain ⟨b2, o2, e2, hC2⟩ := HB1.get (by omega)
      subst e1 e2
      have hc := hC1 j hjA
      have hd := hC2 j hjB
      obtain ⟨x, hx⟩ : ∃ x, x = A[j] := ⟨_, rfl⟩
      obtain ⟨y, hy⟩ : ∃ y, y = B[j] := ⟨_, rfl⟩
      rw [← hx] at hc
      rw [← hy] at hd
      have hxm : x ∈ A := by rw [hx]; exact List.getElem_mem _
      have hym : y ∈ B := by rw [hy]; exact List.getElem_mem _
      have HX := Lib.hid (show rowG (rws A) j = x.R by rw [rowG_ln hjA, hx])
      have HY := Lib.hid (show rowG (rws B) j = y.R by rw [rowG_ln hjB, hy])
      have HXR := Lib.hid (HA1.row x hxm)
      have HYR := Lib.hid (HB1.row y hym)
      have HXL := Lib.hid (HRL.out x hxm)
      obtain ⟨xa, xc, ex⟩ := HXR.out.shape
      obtain ⟨ya, yc, ey⟩ := HYR.out.shape
      obtain ⟨xl, hxl⟩ : ∃ l, l = x.R.length := ⟨_, rfl⟩
      obtain ⟨yl, hyl⟩ : ∃ l, l = y.R.length := ⟨_, rfl⟩
      rw [← hxl] at ex
      rw [← hyl] at ey
      rw [ex] at hc
      rw [ey] at hd
      have HEX := Lib.hid ex
      have HEY := Lib.hid ey
      have HJ9 := Lib.hid (show j ≤ 10000 by omega)
      clear hC1 hC2 hx hy hxm hym ex ey hxl hyl hjA hjB HA1 HB1
      have KEEP := Lib.hid (show ∀ W', Below wr.heap.size wr W' → (fun wx => wx.cell? ⟨b1, o1 + j, none⟩ = some (.slice xa xl xc) ∧ wx.cell? ⟨b2, o2 + j, none⟩ = some (.slice ya yl yc)) W' from fun W' kb => ⟨(kb.cell (World.block_lt_of_cell? wr _ hc)).trans hc, (kb.cell (World.block_lt_of_cell? wr _ hd)).trans hd⟩)
      clear hc hd
      go_upto_region 6 with (fail)
      refine wp_region_held_drew (S := (fun wx => wx.cell? ⟨b1, o1 + j, none⟩ = some (.slice xa xl xc) ∧ wx.cell? ⟨b2, o2 + j, none⟩ = some (.slice ya yl yc))) (by kernel_rfl) ?_ (fun hHeld => ?_)
      · exact KEEP.out _ ((Below.refl _ _).drew)
      obtain ⟨wd, hwd⟩ : ∃ X, X = wr.drew := ⟨_, rfl⟩
      have HXD := Lib.hid (show Below wr.heap.size wr wd by rw [hwd]; exact (Below.refl _ _).drew)
      replace hHeld := KEEP.out _ HXD.out
      rw [← hwd]
      clear hwd
      refine tk 0 rfl (fun w hSw => by (try dsimp only at hSw); go_simp; try with_reducible rfl) ?_
      go_frame
      refine tk 1 rfl (fun w hSw => by (try dsimp only at hSw); go_simp; try with_reducible rfl) ?_
      go_frame
      refine tk 2 rfl (fun w hSw => by (try dsimp only at hSw); go_simp; try with_reducible rfl) ?_
      go_frame
      refine tk 3 rfl (fun w hSw => by (try dsimp only at hSw); go_simp; try with_reducible rfl) ?_
      go_frame
      refine tk 4 rfl (fun w hSw => by (try dsimp only at hSw); go_simp; try with_reducible rfl) ?_
      go_frame
      refine tk 5 rfl (fun w hSw => by (try dsimp only at hSw); go_simp; try with_reducible rfl) ?_
      go_frame
      refine tk 6 rfl (fun w hSw => by (try dsimp only at hSw); go_simp; try with_reducible rfl) ?_
      go_frame
      refine tk 7 rfl (fun w hSw => by (try dsimp only at hSw); go_simp; try with_reducible rfl) ?_
      go_frame
      refine do_at (i := 8) rfl (by kernel_rfl) (by kernel_rfl) (fun K hK => ?_)
      go_simp
      rw [← HEX.out, ← HEY.out]
      refine (rsame_any wd x.v y.v x.R y.R (HXR.out.below HXD.out) (HYR.out.below HXD.out) HXL.out).mono ?_
      rintro e wz ⟨rfl, bz⟩
      have HX2 := Lib.hid (HXD.out.trans (bz.mono HXD.out.size))
      have HW2 := Lib.hid (HW.out.trans (HX2.out.mono HW.out.size))
      clear bz HXR HYR HW hlt
      by_cases hcd : x.R = y.R
      · have hdt : decide (x.R = y.R) = true := decide_eq_true hcd
        rw [hdt]
        have HEN := Lib.hid (show ∀ t, t < j + 1 → rowG (rws A) t = rowG (rws B) t from fun t ht => by
          by_cases e : t = j
          · rw [e, HX.out, HY.out, hcd]
          · exact HE.out t (by omega))
        clear hdt hcd HE
        have hlt := HLT.out
        have hj9 := HJ9.out
        go_wp2_with fail
        refine hK.out _ _ ?_ (fun hHeld => ?_)
        · exact KEEP.out _ HX2.out
        clear hK K
        try go_frame
        refine tk 9 rfl (fun w hSw => by (try dsimp only at hSw); go_simp; try with_reducible rfl) ?_
        go_frame
        refine wpAnyH_done (by kernel_rfl) ?_ _
        clear hHeld KEEP
        go_wp2
        go_roundg (n - (j + 1))
        case rel => exact ⟨j + 1, by (first | go_num | (refine congrArg _ ?_; unfold wrap64; omega)), hlt, Nat.le_refl _, HEN, HW2⟩
        case measure => omega
      · have hdt : decide (x.R = y.R) = false := decide_eq_false hcd
        rw [hdt]
        have HD := Lib.hid (show decide (rws A = rws B) = false from decide_eq_false (fun e => hcd (by rw [← HX.out, ← HY.out, e])))
        clear hdt hcd HE
        go_wp2_with fail
        refine hK.out _ _ ?_ (fun hHeld => ?_)
        · exact KEEP.out _ HX2.out
        clear hK K
        try go_frame
        refine tk 9 rfl (fun w hSw => by (try dsimp only at hSw); go_simp; try with_reducible rfl) ?_
        go_frame
        refine wpAnyH_done (by kernel_rfl) ?_ _
        clear hHeld KEEP
        go_wp2
        go_ret
        exact ⟨by rw [HD.out]; rfl, HW2.out⟩
    · have hjn' : j = n := by omega
      have HD := Lib.hid (show decide (rws A = rws B) = true from decide_eq_true (ext_row (by rw [List.length_map, List.length_map, ← HN.out, ← HM.out]) fun i hi => HE.out i (by rw [List.length_map, ← HN.out] at hi; omega)))
      have HW2 := Lib.hid HW.out
      go_wp2
      go_ret
      exact ⟨by rw [HD.out]; rfl, HW2.out⟩
end Go.Proofs.Ytnefamgjlhdffaa.Lab
