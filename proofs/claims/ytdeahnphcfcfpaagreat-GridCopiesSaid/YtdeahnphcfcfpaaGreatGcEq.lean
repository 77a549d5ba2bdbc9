/- Grids of the same rows are the same: slices.Equal, slices.EqualFunc, grid.Same. Lists of rows that are the same: the reference's Same. of, and Set, of grids whose rows lie apart. A grid of whole rows stays one; does, of every step. The law's texts and letters. What the arguments of the statements of package grid read as: drafts of grids, steps. The law's letters, at abc, and works: the chapter's examples hold. -/
import Derived.Test.YtdeahnphcfcfpaaGreatGgGood
import Derived.Test.YtdeahnphcfcfpaaGreatRoSame
import Derived.Test.YtdeahnphcfcfpaaGreatGrOf
import Derived.Test.YtdeahnphcfcfpaaGreatGnGood
import Derived.Test.YtdeahnphcfcfpaaGreatGnDoD
import Derived.Test.YtdeahnphcfcfpaaGreatShelf
import Derived.ProofKit
import Derived.OpenShut
import Derived.Deep.Slices
import Derived.Lib.SmallJoins
import Derived.Laws.IdiomArrays
namespace Go.Proofs.YtdeahnphcfcfpaaGreat.Lab
open Go Go.RowKit

set_option maxHeartbeats 4000000 in
set_option maxRecDepth 100000 in
theorem equal_yes (w : World) (u v : Value) (R : Cls) (hu : RowIn w u R) (hv : RowIn w v R) (hl : R.length ≤ 10000) : Calls Tryz.prog 43 #[u, v] w fun e w' => e = .returned (.bool true) ∧ Below w.heap.size w w' := by
  obtain ⟨ua, uc, rfl⟩ := hu.shape
  obtain ⟨va, vc, rfl⟩ := hv.shape
  obtain ⟨n, hn⟩ : ∃ n, n = R.length := ⟨_, rfl⟩
  have HN := Lib.hid hn
  have HU := Lib.hid hu
  have HV := Lib.hid hv
  rw [← hn] at HU HV hl ⊢
  clear hn hu hv
  have hnn : ((n : Int) != (n : Int)) = false := by simp
  have HB0 := Lib.hid (show Below w.heap.size w w from Below.refl _ _)
  go_enter Tryz.func43, Tryz.ntmps43
  go_wp2
  go_loopg [13] n (fun G i wr => ∃ j : Nat, i = .int .i64 j ∧ j ≤ n ∧ n - j ≤ G ∧ Hid (Below w.heap.size w wr))
  case atStart => exact ⟨0, rfl, Nat.zero_le _, Nat.sub_le _ _, HB0⟩
  case round =>
    obtain ⟨j, rfl, hjn, hgj, HB⟩ := hrel
    clear HB0 hnn
    by_cases hlt : j < n
    · obtain ⟨g1, o1, c1, e, _, hg1, hC1⟩ := HU.out.open (by rw [← HN.out]; omega)
      injection e with e1 e2 e3
      subst e1
      clear e2 e3
      obtain ⟨g2, o2, c2, e, _, hg2, hC2⟩ := HV.out.open (by rw [← HN.out]; omega)
      injection e with e1 e2 e3
      subst e1
      clear e2 e3
      have hc := hC1 j (by rw [← HN.out]; exact hlt)
      have hd := hC2 j (by rw [← HN.out]; exact hlt)
      obtain ⟨c, hce⟩ : ∃ c, c = gc R j := ⟨_, rfl⟩
      rw [← hce] at hc hd
      have HSK := Lib.hid (show ∀ W, Below w.heap.size w W → (fun wx => wx.cell? ⟨g1, o1 + j * 14, none⟩ = some (.int .i32 c.ru) ∧ wx.cell? ⟨g1, o1 + j * 14 + 1, none⟩ = some (.int .i32 c.m0) ∧ wx.cell? ⟨g1, o1 + j * 14 + 2, none⟩ = some (.int .i32 c.m1) ∧ wx.cell? ⟨g1, o1 + j * 14 + 3, none⟩ = some (.int .u8 c.k) ∧ wx.cell? ⟨g1, o1 + j * 14 + 4, none⟩ = some (.int .u8 c.a.fg.k) ∧ wx.cell? ⟨g1, o1 + j * 14 + 5, none⟩ = some (.int .u8 c.a.fg.r) ∧ wx.cell? ⟨g1, o1 + j * 14 + 6, none⟩ = some (.int .u8 c.a.fg.g) ∧ wx.cell? ⟨g1, o1 + j * 14 + 7, none⟩ = some (.int .u8 c.a.fg.b) ∧ wx.cell? ⟨g1, o1 + j * 14 + 8, none⟩ = some (.int .u8 c.a.bg.k) ∧ wx.cell? ⟨g1, o1 + j * 14 + 9, none⟩ = some (.int .u8 c.a.bg.r) ∧ wx.cell? ⟨g1, o1 + j * 14 + 10, none⟩ = some (.int .u8 c.a.bg.g) ∧ wx.cell? ⟨g1, o1 + j * 14 + 11, none⟩ = some (.int .u8 c.a.bg.b) ∧ wx.cell? ⟨g1, o1 + j * 14 + 12, none⟩ = some (.int .u16 (c.a.fl : Nat)) ∧ wx.cell? ⟨g1, o1 + j * 14 + 13, none⟩ = some (.int .u8 c.l) ∧ wx.cell? ⟨g2, o2 + j * 14, none⟩ = some (.int .i32 c.ru) ∧ wx.cell? ⟨g2, o2 + j * 14 + 1, none⟩ = some (.int .i32 c.m0) ∧ wx.cell? ⟨g2, o2 + j * 14 + 2, none⟩ = some (.int .i32 c.m1) ∧ wx.cell? ⟨g2, o2 + j * 14 + 3, none⟩ = some (.int .u8 c.k) ∧ wx.cell? ⟨g2, o2 + j * 14 + 4, none⟩ = some (.int .u8 c.a.fg.k) ∧ wx.cell? ⟨g2, o2 + j * 14 + 5, none⟩ = some (.int .u8 c.a.fg.r) ∧ wx.cell? ⟨g2, o2 + j * 14 + 6, none⟩ = some (.int .u8 c.a.fg.g) ∧ wx.cell? ⟨g2, o2 + j * 14 + 7, none⟩ = some (.int .u8 c.a.fg.b) ∧ wx.cell? ⟨g2, o2 + j * 14 + 8, none⟩ = some (.int .u8 c.a.bg.k) ∧ wx.cell? ⟨g2, o2 + j * 14 + 9, none⟩ = some (.int .u8 c.a.bg.r) ∧ wx.cell? ⟨g2, o2 + j * 14 + 10, none⟩ = some (.int .u8 c.a.bg.g) ∧ wx.cell? ⟨g2, o2 + j * 14 + 11, none⟩ = some (.int .u8 c.a.bg.b) ∧ wx.cell? ⟨g2, o2 + j * 14 + 12, none⟩ = some (.int .u16 (c.a.fl : Nat)) ∧ wx.cell? ⟨g2, o2 + j * 14 + 13, none⟩ = some (.int .u8 c.l)) W from fun W hb => by
        obtain ⟨a0, a1, a2, a3, a4, a5, a6, a7, a8, a9, a10, a11, a12, a13⟩ := hc.same (hb.block g1 hg1)
        obtain ⟨b0, b1, b2, b3, b4, b5, b6, b7, b8, b9, b10, b11, b12, b13⟩ := hd.same (hb.block g2 hg2)
        exact ⟨a0, a1, a2, a3, a4, a5, a6, a7, a8, a9, a10, a11, a12, a13, b0, b1, b2, b3, b4, b5, b6, b7, b8, b9, b10, b11, b12, b13⟩)
      have hq : ∀ w : World, (Op.equalIn 10000 55 (celV c) (celV c)).run Tryz.prog w = .ok true w := fun w => by rw [eqCel, decide_eq_true rfl]
      clear hC1 hC2 hce hg1 hg2 hc hd
      go_upto_region 6 with (fail)
      refine wp_region_held_drew (S := fun wx => wx.cell? ⟨g1, o1 + j * 14, none⟩ = some (.int .i32 c.ru) ∧ wx.cell? ⟨g1, o1 + j * 14 + 1, none⟩ = some (.int .i32 c.m0) ∧ wx.cell? ⟨g1, o1 + j * 14 + 2, none⟩ = some (.int .i32 c.m1) ∧ wx.cell? ⟨g1, o1 + j * 14 + 3, none⟩ = some (.int .u8 c.k) ∧ wx.cell? ⟨g1, o1 + j * 14 + 4, none⟩ = some (.int .u8 c.a.fg.k) ∧ wx.cell? ⟨g1, o1 + j * 14 + 5, none⟩ = some (.int .u8 c.a.fg.r) ∧ wx.cell? ⟨g1, o1 + j * 14 + 6, none⟩ = some (.int .u8 c.a.fg.g) ∧ wx.cell? ⟨g1, o1 + j * 14 + 7, none⟩ = some (.int .u8 c.a.fg.b) ∧ wx.cell? ⟨g1, o1 + j * 14 + 8, none⟩ = some (.int .u8 c.a.bg.k) ∧ wx.cell? ⟨g1, o1 + j * 14 + 9, none⟩ = some (.int .u8 c.a.bg.r) ∧ wx.cell? ⟨g1, o1 + j * 14 + 10, none⟩ = some (.int .u8 c.a.bg.g) ∧ wx.cell? ⟨g1, o1 + j * 14 + 11, none⟩ = some (.int .u8 c.a.bg.b) ∧ wx.cell? ⟨g1, o1 + j * 14 + 12, none⟩ = some (.int .u16 (c.a.fl : Nat)) ∧ wx.cell? ⟨g1, o1 + j * 14 + 13, none⟩ = some (.int .u8 c.l) ∧ wx.cell? ⟨g2, o2 + j * 14, none⟩ = some (.int .i32 c.ru) ∧ wx.cell? ⟨g2, o2 + j * 14 + 1, none⟩ = some (.int .i32 c.m0) ∧ wx.cell? ⟨g2, o2 + j * 14 + 2, none⟩ = some (.int .i32 c.m1) ∧ wx.cell? ⟨g2, o2 + j * 14 + 3, none⟩ = some (.int .u8 c.k) ∧ wx.cell? ⟨g2, o2 + j * 14 + 4, none⟩ = some (.int .u8 c.a.fg.k) ∧ wx.cell? ⟨g2, o2 + j * 14 + 5, none⟩ = some (.int .u8 c.a.fg.r) ∧ wx.cell? ⟨g2, o2 + j * 14 + 6, none⟩ = some (.int .u8 c.a.fg.g) ∧ wx.cell? ⟨g2, o2 + j * 14 + 7, none⟩ = some (.int .u8 c.a.fg.b) ∧ wx.cell? ⟨g2, o2 + j * 14 + 8, none⟩ = some (.int .u8 c.a.bg.k) ∧ wx.cell? ⟨g2, o2 + j * 14 + 9, none⟩ = some (.int .u8 c.a.bg.r) ∧ wx.cell? ⟨g2, o2 + j * 14 + 10, none⟩ = some (.int .u8 c.a.bg.g) ∧ wx.cell? ⟨g2, o2 + j * 14 + 11, none⟩ = some (.int .u8 c.a.bg.b) ∧ wx.cell? ⟨g2, o2 + j * 14 + 12, none⟩ = some (.int .u16 (c.a.fl : Nat)) ∧ wx.cell? ⟨g2, o2 + j * 14 + 13, none⟩ = some (.int .u8 c.l)) (by kernel_rfl) ?_ (fun hHeld => ?_)
      · exact HSK.out _ (HB.out.drew)
      obtain ⟨wd, hwd⟩ : ∃ X, X = wr.drew := ⟨_, rfl⟩
      have HX := Lib.hid (show Below wr.heap.size wr wd by rw [hwd]; exact (Below.refl _ _).drew)
      replace hHeld := HSK.out _ (HB.out.trans (HX.out.mono HB.out.size))
      rw [← hwd]
      clear hwd
      refine tk 0 rfl (fun w hSw => by (try dsimp only at hSw); go_simp; try with_reducible rfl) ?_
      go_frame
      refine tk 1 rfl (fun w hSw => by (try dsimp only at hSw); go_simp; try with_reducible rfl) ?_
      go_frame
      refine tk 2 rfl (fun w hSw => by (try dsimp only at hSw); go_simp; try with_reducible rfl) ?_
      go_frame
      refine tk 3 rfl (fun w hSw => by (try dsimp only at hSw); go_simp; try with_reducible rfl) ?_
      go_frame
      refine tk 4 rfl (fun w hSw => by (try dsimp only at hSw); go_simp; try with_reducible rfl) ?_
      go_frame
      refine tk 5 rfl (fun w hSw => by (try dsimp only at hSw); go_simp; try with_reducible rfl) ?_
      go_frame
      refine tk 6 rfl (fun w hSw => by (try dsimp only at hSw); go_simp; try with_reducible rfl) ?_
      go_frame
      refine tk 7 rfl (fun w hSw => by (try dsimp only at hSw); go_simp; try with_reducible rfl) ?_
      go_frame
      refine tk 8 rfl (fun w hSw => by (try dsimp only at hSw); go_simp; try with_reducible rfl) ?_
      go_frame
      refine wpAnyH_done (by kernel_rfl) ?_ _
      have HXE := Lib.hid (HB.out.trans (HX.out.mono HB.out.size))
      clear hHeld HSK hq HB HX
      go_wp2
      go_roundg (n - (j + 1))
      case rel => exact ⟨j + 1, by go_num, by omega, Nat.le_refl _, HXE⟩
      case measure => omega
    · obtain rfl : j = n := by omega
      have HBE := Lib.hid HB.out
      clear HB
      go_wp2
      go_ret
      exact ⟨rfl, HBE.out⟩
set_option maxHeartbeats 4000000 in
set_option maxRecDepth 100000 in
theorem eqf_yes (w : World) (lo lo' : Nat) (u v : Value) (A : List Cls) (hA : Rl w lo u A) (hB : Rl w lo' v A) (hl : A.length ≤ 600) (hr : ∀ R ∈ A, R.length ≤ 1000) :
    Calls Tryz.prog 42 #[u, v, .func (.func 43) #[] #[]] w fun e w' => e = .returned (.bool true) ∧ Below w.heap.size w w' := by
  obtain ⟨KA, hka, e1⟩ := hA
  obtain ⟨KB, hkb, e2⟩ := hB
  obtain ⟨ua, uc, rfl⟩ := hka.shape
  obtain ⟨va, vc, rfl⟩ := hkb.shape
  have h1 : KA.length = A.length := by rw [← e1, List.length_map]
  have h2 : KB.length = A.length := by rw [← e2, List.length_map]
  obtain ⟨n, hn⟩ : ∃ n, n = A.length := ⟨_, rfl⟩
  rw [h1, ← hn] at hka ⊢
  rw [h2, ← hn] at hkb ⊢
  rw [← hn] at h1 h2 hl
  have HN := Lib.hid hn
  have HKL := Lib.hid h1
  have HML := Lib.hid h2
  have HKA := Lib.hid hka
  have HKB := Lib.hid hkb
  have HE1 := Lib.hid e1
  have HE2 := Lib.hid e2
  have HR := Lib.hid hr
  have HT0 := Lib.hid (show Below w.heap.size w w from Below.refl _ _)
  clear hn h1 h2 hka hkb e1 e2 hr
  have hnn : ((n : Int) != (n : Int)) = false := by simp
  go_enter Tryz.func42, Tryz.ntmps42
  go_wp2
  go_loopg [17] n (fun Gs i wr => ∃ (k : Nat), i = .int .i64 k ∧ k ≤ n ∧ n - k ≤ Gs ∧ Hid (Below w.heap.size w wr))
  case atStart => exact ⟨0, rfl, Nat.zero_le _, Nat.sub_le _ _, HT0⟩
  case round =>
    obtain ⟨k, rfl, hkn, hgk, HT⟩ := hrel
    clear HT0 hnn
    by_cases hlt : k < n
    · have HLT := Lib.hid (show k + 1 ≤ n from hlt)
      have hk1 : k < KA.length := by have := HKL.out; omega
      have hk2 : k < KB.length := by have := HML.out; omega
      obtain ⟨ga, ca, e, _, hga⟩ := HKA.out.here (by omega)
      injection e with e1 e2 e3
      subst e1
      clear e2 e3
      obtain ⟨gb, cb, e, _, hgb⟩ := HKB.out.here (by omega)
      injection e with e1 e2 e3
      subst e1
      clear e2 e3
      obtain ⟨xa, hxa⟩ : ∃ x, x = KA[k] := ⟨_, rfl⟩
      obtain ⟨xb, hxb⟩ : ∃ x, x = KB[k] := ⟨_, rfl⟩
      have ra : xa.R = rowG A k := by rw [hxa, ← hdAt_eq hk1, rowG_hd, HE1.out]
      have rb : xb.R = rowG A k := by rw [hxb, ← hdAt_eq hk2, rowG_hd, HE2.out]
      have HLEN := Lib.hid (show (rowG A k).length ≤ 10000 by have := HR.out _ (rowG_mem (G := A) (i := k) (by have := HN.out; omega)); omega)
      have HRA := Lib.hid (show RowIn wr (hdV xa) (rowG A k) by rw [← ra, hxa]; exact ((HKA.out.below HT.out).row hk1).row)
      have HRB := Lib.hid (show RowIn wr (hdV xb) (rowG A k) by rw [← rb, hxb]; exact ((HKB.out.below HT.out).row hk2).row)
      have ya : wr.cell? ⟨ga, k, none⟩ = some (hdV xa) := by rw [hxa]; exact (HKA.out.below HT.out).at hk1
      have yb : wr.cell? ⟨gb, k, none⟩ = some (hdV xb) := by rw [hxb]; exact (HKB.out.below HT.out).at hk2
      clear hxa hxb ra rb hk1 hk2 hga hgb
      go_wp2_with fail
      refine (equal_yes wr (hdV xa) (hdV xb) (rowG A k) HRA.out HRB.out HLEN.out).mono ?_
      rintro e wz ⟨rfl, bz⟩
      have HXE := Lib.hid (HT.out.trans (bz.mono HT.out.size))
      clear bz HT HRA HRB HLEN ya yb
      go_wp2
      go_roundg (n - (k + 1))
      case rel => exact ⟨k + 1, by go_num, HLT.out, Nat.le_refl _, HXE⟩
      case measure => have := HLT.out; omega
    · obtain rfl : k = n := by omega
      have HBE := Lib.hid HT.out
      clear HT
      go_wp2
      go_ret
      exact ⟨rfl, HBE.out⟩
theorem gsame_yes (w : World) (lo p rb c lo' p' rb' c' m : Nat) (G : List Cls) (h : Gg w lo p rb c G) (h' : Gg w lo' p' rb' c' G) (g : Good G m) : Calls Tryz.prog 13 #[gV p, gV p'] w fun e w' => e = .returned (.bool true) ∧ Below w.heap.size w w' := by
  have n1 := g.n1
  have m1 := g.m1
  obtain ⟨H, h1, h2⟩ := h
  obtain ⟨K, k1, k2⟩ := h'
  have HC := Lib.hid h1.cell
  have HC' := Lib.hid k1.cell
  have HE := Lib.hid (eqf_yes w lo lo' _ _ G ⟨H, h1.2.2, h2⟩ ⟨K, k1.2.2, k2⟩ (by omega) (fun R hR => by have := (g.row R hR).2.1; omega))
  clear h1 k1 n1 m1
  go_enter Tryz.func13, Tryz.ntmps13
  go_wp2_with fail
  refine (kept_any w p _ HC.out).mono ?_
  rintro e w' ⟨rfl, rfl⟩
  go_wp2_with fail
  refine (kept_any w p' _ HC'.out).mono ?_
  rintro e w' ⟨rfl, rfl⟩
  go_wp2_with fail
  refine HE.out.mono ?_
  rintro e w' ⟨rfl, b⟩
  have HB := Lib.hid b
  clear b
  go_wp2
  go_ret
  exact ⟨rfl, HB.out⟩

set_option maxHeartbeats 4000000 in
set_option maxRecDepth 100000 in
theorem rsames_yes (w : World) (lo lo' : Nat) (u v : Value) (A : List Cls) (hA : Rl w lo u A) (hB : Rl w lo' v A) (hl : A.length ≤ 600) (hr : ∀ R ∈ A, R.length ≤ 1000) :
    Calls Tryz.prog 16 #[u, v] w fun e w' => e = .returned (.bool true) ∧ Below w.heap.size w w' := by
  obtain ⟨KA, hka, e1⟩ := hA
  obtain ⟨KB, hkb, e2⟩ := hB
  obtain ⟨ua, uc, rfl⟩ := hka.shape
  obtain ⟨va, vc, rfl⟩ := hkb.shape
  have h1 : KA.length = A.length := by rw [← e1, List.length_map]
  have h2 : KB.length = A.length := by rw [← e2, List.length_map]
  obtain ⟨n, hn⟩ : ∃ n, n = A.length := ⟨_, rfl⟩
  rw [h1, ← hn] at hka ⊢
  rw [h2, ← hn] at hkb ⊢
  rw [← hn] at h1 h2 hl
  have HN := Lib.hid hn
  have HKL := Lib.hid h1
  have HML := Lib.hid h2
  have HKA := Lib.hid hka
  have HKB := Lib.hid hkb
  have HE1 := Lib.hid e1
  have HE2 := Lib.hid e2
  have HR := Lib.hid hr
  have HT0 := Lib.hid (show Below w.heap.size w w from Below.refl _ _)
  clear hn h1 h2 hka hkb e1 e2 hr
  have hnn : ((n : Int) != (n : Int)) = false := by simp
  go_enter Tryz.func16, Tryz.ntmps16
  go_wp2
  go_loopg [5] n (fun Gs i wr => ∃ (k : Nat), i = .int .i64 k ∧ k ≤ n ∧ n - k ≤ Gs ∧ Hid (Below w.heap.size w wr))
  case atStart => exact ⟨0, rfl, Nat.zero_le _, Nat.sub_le _ _, HT0⟩
  case round =>
    obtain ⟨k, rfl, hkn, hgk, HT⟩ := hrel
    clear HT0 hnn
    by_cases hlt : k < n
    · have HLT := Lib.hid (show k + 1 ≤ n from hlt)
      have hk1 : k < KA.length := by have := HKL.out; omega
      have hk2 : k < KB.length := by have := HML.out; omega
      obtain ⟨ga, ca, e, _, hga⟩ := HKA.out.here (by omega)
      injection e with e1 e2 e3
      subst e1
      clear e2 e3
      obtain ⟨gb, cb, e, _, hgb⟩ := HKB.out.here (by omega)
      injection e with e1 e2 e3
      subst e1
      clear e2 e3
      obtain ⟨xa, hxa⟩ : ∃ x, x = KA[k] := ⟨_, rfl⟩
      obtain ⟨xb, hxb⟩ : ∃ x, x = KB[k] := ⟨_, rfl⟩
      have ra : xa.R = rowG A k := by rw [hxa, ← hdAt_eq hk1, rowG_hd, HE1.out]
      have rb : xb.R = rowG A k := by rw [hxb, ← hdAt_eq hk2, rowG_hd, HE2.out]
      have HSAME := Lib.hid (show decide (xa.R = xb.R) = true from decide_eq_true (by rw [ra, rb]))
      have HLEN := Lib.hid (show xa.R.length ≤ 10000 by rw [ra]; have := HR.out _ (rowG_mem (G := A) (i := k) (by have := HN.out; omega)); omega)
      have HRA := Lib.hid (show ∀ W, Below wr.heap.size wr W → RowIn W (hdV xa) xa.R from fun W kb => by rw [hxa]; exact (((HKA.out.below HT.out).below kb).row hk1).row)
      have HRB := Lib.hid (show ∀ W, Below wr.heap.size wr W → RowIn W (hdV xb) xb.R from fun W kb => by rw [hxb]; exact (((HKB.out.below HT.out).below kb).row hk2).row)
      have HSK := Lib.hid (show ∀ W, Below wr.heap.size wr W → (fun wx => wx.cell? ⟨ga, k, none⟩ = some (hdV xa) ∧ wx.cell? ⟨gb, k, none⟩ = some (hdV xb)) W from fun W kb => by
        refine ⟨?_, ?_⟩
        · rw [hxa]; exact ((HKA.out.below HT.out).below kb).at hk1
        · rw [hxb]; exact ((HKB.out.below HT.out).below kb).at hk2)
      clear hxa hxb ra rb hk1 hk2 hga hgb
      go_upto_region 6 with (fail)
      refine wp_region_held_drew (S := fun wx => wx.cell? ⟨ga, k, none⟩ = some (hdV xa) ∧ wx.cell? ⟨gb, k, none⟩ = some (hdV xb)) (by kernel_rfl) ?_ (fun hHeld => ?_)
      · exact HSK.out _ ((Below.refl _ _).drew)
      obtain ⟨wd, hwd⟩ : ∃ X, X = wr.drew := ⟨_, rfl⟩
      have HX := Lib.hid (show Below wr.heap.size wr wd by rw [hwd]; exact (Below.refl _ _).drew)
      replace hHeld := HSK.out _ HX.out
      rw [← hwd]
      clear hwd
      refine tk 0 rfl (fun w hSw => by (try dsimp only at hSw); go_simp; try with_reducible rfl) ?_
      go_frame
      refine tk 1 rfl (fun w hSw => by (try dsimp only at hSw); go_simp; try with_reducible rfl) ?_
      go_frame
      refine tk 2 rfl (fun w hSw => by (try dsimp only at hSw); go_simp; try with_reducible rfl) ?_
      go_frame
      refine tk 3 rfl (fun w hSw => by (try dsimp only at hSw); go_simp; try with_reducible rfl) ?_
      go_frame
      refine tk 4 rfl (fun w hSw => by (try dsimp only at hSw); go_simp; try with_reducible rfl) ?_
      go_frame
      refine tk 5 rfl (fun w hSw => by (try dsimp only at hSw); go_simp; try with_reducible rfl) ?_
      go_frame
      refine tk 6 rfl (fun w hSw => by (try dsimp only at hSw); go_simp; try with_reducible rfl) ?_
      go_frame
      refine tk 7 rfl (fun w hSw => by (try dsimp only at hSw); go_simp; try with_reducible rfl) ?_
      go_frame
      refine do_at (i := 8) rfl (by kernel_rfl) (by kernel_rfl) (fun K hK => ?_)
      go_simp
      refine (rsame_any wd (hdV xa) (hdV xb) xa.R xb.R (HRA.out _ HX.out) (HRB.out _ HX.out) HLEN.out).mono ?_
      rintro e wz ⟨rfl, bz⟩
      rw [HSAME.out]
      replace HX := Lib.hid (HX.out.trans (bz.mono HX.out.size))
      clear bz
      go_wp2_with fail
      refine hK.out _ _ ?_ (fun hHeld => ?_)
      · exact HSK.out _ HX.out
      clear hK K
      try go_frame
      refine tk 9 rfl (fun w hSw => by (try dsimp only at hSw); go_simp; try with_reducible rfl) ?_
      go_frame
      refine wpAnyH_done (by kernel_rfl) ?_ _
      have HXE := Lib.hid (HT.out.trans (HX.out.mono HT.out.size))
      clear hHeld HX HT HRA HRB HSK HLEN HSAME
      go_wp2
      go_roundg (n - (k + 1))
      case rel => exact ⟨k + 1, by go_num, HLT.out, Nat.le_refl _, HXE⟩
      case measure => have := HLT.out; omega
    · obtain rfl : k = n := by omega
      have HBE := Lib.hid HT.out
      clear HT
      go_wp2
      go_ret
      exact ⟨rfl, HBE.out⟩

theorem nset (X : Nat → Prop) (w : World) (lo p rb c m k : Nat) (G : List Cls) (v : Value) (R : Cls) (h : Gn w lo p rb c G X) (hlo : lo ≤ w.heap.size) (hX : ∀ j, w.heap.size ≤ j → X j) (g : ∀ R ∈ G, R.length = m) (m0 : 0 < m) (m1 : m ≤ 1000) (hk : k < G.length) (hv : RowIn w v R) (hR : R.length = m) :
    Calls Tryz.prog 15 #[gV p, .int .i64 (k : Nat), v] w fun e w' => e = .returned (.bool true) ∧ Gn w' lo p rb c (G.set k R) X ∧ Buts (· = rb) w w' := by
  obtain ⟨H, h1, h2, hn, hx⟩ := h
  have hl : H.length = G.length := by rw [← h2, List.length_map]
  have e0 : (hdAt H 0).R.length = m := by rw [rowG_hd, h2]; exact g _ (rowG_mem (by omega))
  refine (gset_yes w lo p rb c k H v R h1 hlo (by omega) hv (by omega) (by omega) (by omega)).mono ?_
  rintro e w' ⟨rfl, ⟨x, hxR, xb, hg⟩, bt⟩
  exact ⟨rfl, Gn.of_set hg h2 hxR hn hx (fun hz => (h1.2.2.2.lt hz).2) xb hX, bt⟩
set_option maxHeartbeats 8000000 in
set_option maxRecDepth 100000 in
theorem nof_any (w : World) (lo m : Nat) (v : Value) (G : List Cls) (h : Rl w lo v G) (gd : Good G m) (hm5 : G.length ≤ 512 ∧ m ≤ 512) :
    Calls Tryz.prog 6 #[.agg #[v]] w fun e w' => ∃ p rb c, e = .returned (gV p) ∧ Gn w' w.heap.size p rb c G (fun _ => True) ∧ Below w.heap.size w w' := by
  obtain ⟨H, hg, hG⟩ := h
  have hlG : G.length = H.length := by rw [← hG, List.length_map]
  have n0 := gd.n0
  obtain ⟨g, c, rfl, _, hgs⟩ := hg.here (by omega)
  obtain ⟨nn, hnn⟩ : ∃ nn, nn = H.length := ⟨_, rfl⟩
  rw [← hnn] at hg
  obtain ⟨lv, hlv⟩ : ∃ lv : Value, lv = .slice (some ⟨g, 0, none⟩) H.length c := ⟨_, rfl⟩
  rw [← hlv]
  rw [← hnn] at hlv
  subst hlv
  obtain ⟨yb, yc, hy⟩ : ∃ yb yc, hdV (hdAt H 0) = .slice (some ⟨yb, 0, none⟩) m yc := ⟨_, _, by rw [hdV, rowG_hd, hG, (gd.len n0).2.1]⟩
  obtain ⟨w0, hw0⟩ : ∃ W0, W0 = w.alloc (.cells #[.slice (some ⟨g, 0, none⟩) nn c] 32) := ⟨_, rfl⟩
  obtain ⟨b1, hb1⟩ : ∃ b, b = w.heap.size := ⟨_, rfl⟩
  have B0 : Below w.heap.size w w0 := by rw [hw0]; exact (Below.refl _ _).alloc (Nat.le_refl _) _
  have h1 : Lie w0 b1 [.slice (some ⟨g, 0, none⟩) nn c] := by rw [hw0]; exact Lie.new w _ _ b1 hb1
  have HNE := Lib.hid (show b1 = w.heap.size ∧ w0.heap.size = w.heap.size + 1 ∧ g < w.heap.size ∧ nn = G.length ∧ 0 < m ∧ m ≤ 512 ∧ nn ≤ 512 ∧ 0 < nn by rw [hw0]; exact ⟨hb1, by simp, hgs, by omega, gd.m0, hm5.2, by omega, by omega⟩)
  have HB0 := Lib.hid B0
  have HCAN := Lib.hid (show canB (nn : Nat) (m : Nat) = true by unfold canB; have := HNE.out; simp; omega)
  have HC1 := Lib.hid (show ∀ W, Below w0.heap.size w0 W → W.cell? ⟨b1, 0, none⟩ = some (.slice (some ⟨g, 0, none⟩) nn c) from fun W k => (h1.below k).at 0 rfl)
  have HCK := Lib.hid (show ∀ W k, Below w0.heap.size w0 W → k < nn → W.cell? ⟨g, k, none⟩ = some (hdV (hdAt H k)) from fun W k kb hk => by
    rw [kb.cell (p := ⟨g, k, none⟩) (Nat.lt_of_lt_of_le hgs HB0.out.size), HB0.out.cell (p := ⟨g, k, none⟩) hgs, hdAt_eq (by omega)]
    exact hg.at (by omega))
  have HRK := Lib.hid (show ∀ W k, Below w0.heap.size w0 W → k < nn → RowIn W (hdV (hdAt H k)) (rowG G k) from fun W k kb hk => by
    rw [← hG, ← rowG_hd, hdAt_eq (by omega)]
    exact (((hg.row (by omega)).below HB0.out).below kb).row)
  have HSK := Lib.hid (show ∀ W, Below w0.heap.size w0 W → (fun wx => wx.cell? ⟨b1, 0, none⟩ = some (.slice (some ⟨g, 0, none⟩) nn c) ∧ wx.cell? ⟨g, 0, none⟩ = some (.slice (some ⟨yb, 0, none⟩) m yc)) W from fun W kb => ⟨HC1.out W kb, by rw [← hy]; exact HCK.out W 0 kb (by have := HNE.out; omega)⟩)
  have HGD := Lib.hid (show ∀ R ∈ G, R.length = m from fun R hR => (gd.row R hR).2.1)
  have c1 := HC1.out w0 (Below.refl _ _)
  have hnz : ((nn : Int) == 0) = false := by have := HNE.out; simp; omega
  have hp0 : 0 < nn := HNE.out.2.2.2.2.2.2.2
  have hn5 : nn ≤ 512 := HNE.out.2.2.2.2.2.2.1
  clear B0 h1 hg hG hlG n0 hnn hy hgs gd hm5
  go_enter Tryz.func6, Tryz.ntmps6
  go_upto_region 1 with (fail)
  rw [← hw0, ← hb1]
  clear hw0 hb1
  go_upto_region 3 with (fail)
  refine wp_region_held_drew (S := fun wx => wx.cell? ⟨b1, 0, none⟩ = some (.slice (some ⟨g, 0, none⟩) nn c) ∧ wx.cell? ⟨g, 0, none⟩ = some (.slice (some ⟨yb, 0, none⟩) m yc)) (by kernel_rfl) ?_ (fun hHeld => ?_)
  · exact HSK.out _ ((Below.refl _ _).drew)
  obtain ⟨wd, hwd⟩ : ∃ X, X = w0.drew := ⟨_, rfl⟩
  have HX := Lib.hid (show Below w0.heap.size w0 wd by rw [hwd]; exact (Below.refl _ _).drew)
  replace hHeld := HSK.out _ HX.out
  rw [← hwd]
  clear hwd
  refine tk 0 rfl (fun w hSw => by (try dsimp only at hSw); go_simp; try with_reducible rfl) ?_
  go_frame
  refine tk 1 rfl (fun w hSw => by (try dsimp only at hSw); go_simp; try with_reducible rfl) ?_
  go_frame
  refine tk 2 rfl (fun w hSw => by (try dsimp only at hSw); go_simp; try with_reducible rfl) ?_
  go_frame
  refine tk 3 rfl (fun w hSw => by (try dsimp only at hSw); go_simp; try with_reducible rfl) ?_
  go_frame
  refine tk 4 rfl (fun w hSw => by (try dsimp only at hSw); go_simp; try with_reducible rfl) ?_
  go_frame
  refine tk 5 rfl (fun w hSw => by (try dsimp only at hSw); go_simp; try with_reducible rfl) ?_
  go_frame
  refine tk 6 rfl (fun w hSw => by (try dsimp only at hSw); go_simp; try with_reducible rfl) ?_
  go_frame
  refine tk 7 rfl (fun w hSw => by (try dsimp only at hSw); go_simp; try with_reducible rfl) ?_
  go_frame
  refine tk 8 rfl (fun w hSw => by (try dsimp only at hSw); go_simp; try with_reducible rfl) ?_
  go_frame
  refine do_at (i := 9) rfl (by kernel_rfl) (by kernel_rfl) (fun K hK => ?_)
  go_simp
  refine (gnew_any wd (nn : Nat) (m : Nat) Cel.z HCAN.out).mono ?_
  rintro e wz ⟨p, rb, cc, F, rfl, hat, hF, hFr, bz⟩
  rw [Int.toNat_natCast, Int.toNat_natCast] at hF
  have HRB := Lib.hid (show w0.heap.size ≤ rb from Nat.le_trans HX.out.size hat.lt.2.2)
  have HG0 := Lib.hid (show Gn wz w.heap.size p rb cc (gK m G nn 0) (fun _ => True) from Gn.lower ⟨F, hat, (by rw [hF]; rfl), hFr.2, fun _ _ => trivial⟩ (Nat.le_trans HB0.out.size HX.out.size))
  replace HX := Lib.hid (HX.out.trans (bz.mono HX.out.size))
  clear hat hF hFr bz
  go_wp2_with fail
  refine hK.out _ _ ?_ (fun hHeld => ?_)
  · exact HSK.out _ HX.out
  clear hK K
  try go_frame
  refine tk 10 rfl (fun w hSw => by (try dsimp only at hSw); go_simp; try with_reducible rfl) ?_
  go_frame
  refine wpAnyH_done (by kernel_rfl) ?_ _
  go_wp2
  go_loopg [4] nn (fun Gs i wr => ∃ (k : Nat), i = .int .i64 k ∧ k ≤ nn ∧ nn - k ≤ Gs ∧ Hid (Gn wr w.heap.size p rb cc (gK m G nn k) (fun _ => True)) ∧ Hid (Below w0.heap.size w0 wr))
  case atStart => exact ⟨0, rfl, Nat.zero_le _, Nat.sub_le _ _, HG0, HX⟩
  case round =>
    obtain ⟨k, rfl, hkn, hgk, HGG, HBT⟩ := hrel
    clear HG0 HX
    have c1 := HC1.out wr HBT.out
    by_cases hlt : k < nn
    · have HR := Lib.hid (HRK.out wr k HBT.out hlt)
      have ck := HCK.out wr k HBT.out hlt
      obtain ⟨x, hx⟩ : ∃ x, x = hdAt H k := ⟨_, rfl⟩
      rw [← hx] at HR ck
      clear hx
      go_wp2_with fail
      refine (nset (fun _ => True) wr w.heap.size p rb cc m k (gK m G nn k) (hdV x) (rowG G k) HGG.out (Nat.le_trans HB0.out.size HBT.out.size) (fun _ _ => trivial) (gK_row HGD.out (len_newM m Cel.z) nn k) HNE.out.2.2.2.2.1 (by have := HNE.out; omega) (by rw [gK_len (by have := HNE.out; omega) hkn]; exact hlt) HR.out (HGD.out _ (rowG_mem (by have := HNE.out; omega)))).mono ?_
      rintro e w2 ⟨rfl, gg2, bt2⟩
      have G2 := Lib.hid (show Gn w2 w.heap.size p rb cc (gK m G nn (k + 1)) (fun _ => True) by rw [← gK_put (by have := HNE.out; omega) hlt]; exact gg2)
      have B2 := Lib.hid (show Below w0.heap.size w0 w2 from HBT.out.trans (bt2.below (C := w0.heap.size) (fun i hi => by have := HRB.out; omega) HBT.out.size))
      have HLT := Lib.hid (show k + 1 ≤ nn from hlt)
      clear gg2 bt2 HGG HBT HR ck
      go_wp2
      go_roundg (nn - (k + 1))
      case rel => exact ⟨k + 1, by go_num, HLT.out, Nat.le_refl _, G2, B2⟩
      case measure => have := HLT.out; omega
    · obtain rfl : k = nn := by omega
      have HE := Lib.hid (show Gn wr w.heap.size p rb cc G (fun _ => True) by have h1 := HGG.out; rw [HNE.out.2.2.2.1, gK_all] at h1; exact h1)
      have HBE := Lib.hid (HB0.out.trans (HBT.out.mono HB0.out.size))
      clear HGG
      go_wp2
      go_ret
      exact ⟨p, rb, cc, rfl, HE.out, HBE.out⟩

abbrev Rw (m : Nat) (R : Cls) : Prop := Wh R ∧ R.length = m ∧ Lv R
theorem Good.of {G G' : List Cls} {m : Nat} (g : Good G m) (hl : G'.length = G.length) (h : ∀ R ∈ G', Rw m R) : Good G' m :=
  ⟨h, by rw [hl]; exact g.n0, by rw [hl]; exact g.n1, g.m0, g.m1⟩
theorem Good.put {G : List Cls} {m i : Nat} {R : Cls} (g : Good G m) (h : Rw m R) : Good (G.set i R) m :=
  g.of (List.length_set ..) fun Q hQ => by
    rcases List.mem_or_eq_of_mem_set hQ with q | q
    · exact g.row Q q
    · rw [q]; exact h
theorem Good.edit {G : List Cls} {m : Nat} (g : Good G m) (r c : Int) {f : Cls → Cls} (hf : ∀ R, Rw m R → Rw m (f R)) : Good (editG G m r c f) m := by
  unfold editG
  split
  · rename_i h
    rw [Bool.and_eq_true] at h
    obtain ⟨i, rfl, hi⟩ := isInB_true h.1
    exact g.put (hf _ (g.row _ (rowG_mem hi)))
  · exact g
theorem Good.erase {G : List Cls} {m : Nat} (g : Good G m) (r : Int) {f : Cls → Cls} (hf : ∀ R, Rw m R → Rw m (f R)) : Good (eraseG G r f) m := by
  unfold eraseG
  split
  · rename_i h
    obtain ⟨i, rfl, hi⟩ := isInB_true h
    exact g.put (hf _ (g.row _ (rowG_mem hi)))
  · exact g
theorem mem_wu {G : List Cls} {t b n : Nat} {R : Cls} (h : R ∈ wentUp G t b n) : R ∈ G := List.mem_of_mem_drop (List.mem_of_mem_take (List.mem_of_mem_take h))
theorem mem_wd {G : List Cls} {t b n : Nat} {R : Cls} (h : R ∈ wentDown G t b n) : R ∈ G := List.mem_of_mem_drop (List.mem_of_mem_take (List.mem_of_mem_drop h))
theorem mem_up {G : List Cls} {t b n : Nat} {e R : Cls} (h : R ∈ upM G t b n e) : R ∈ G ∨ R = e := by
  unfold upM at h
  simp only [List.mem_append] at h
  rcases h with (h | h | h) | h
  · exact .inl (List.mem_of_mem_take h)
  · exact .inl (List.mem_of_mem_drop (List.mem_of_mem_take (List.mem_of_mem_drop h)))
  · exact .inr (List.eq_of_mem_replicate h)
  · exact .inl (List.mem_of_mem_drop h)
theorem mem_down {G : List Cls} {t b n : Nat} {e R : Cls} (h : R ∈ downM G t b n e) : R ∈ G ∨ R = e := by
  unfold downM at h
  simp only [List.mem_append] at h
  rcases h with (h | h | h) | h
  · exact .inl (List.mem_of_mem_take h)
  · exact .inr (List.eq_of_mem_replicate h)
  · exact .inl (List.mem_of_mem_drop (List.mem_of_mem_take (List.mem_of_mem_take h)))
  · exact .inl (List.mem_of_mem_drop h)
theorem newM_rw (m : Nat) {b : Cel} (hk : b.k = 0) (hl : b.l = 0 ∨ b.l = 1) : Rw m (newM m b) := ⟨Wh.rep m hk, len_newM m b, Lv.rep m hl⟩
theorem Good.up {G : List Cls} {m : Nat} (g : Good G m) (t b n : Int) {x : Cel} (hk : x.k = 0) (hl : x.l = 0 ∨ x.l = 1) : Good (upG G m t b n x) m := by
  unfold upG
  split
  · rename_i h
    obtain ⟨i, j, rfl, rfl, hij, hj⟩ := regB_true h
    refine g.of (len_up (by omega) (by omega) (by omega) _) fun R hR => ?_
    rcases mem_up hR with q | q
    · exact g.row R q
    · rw [q]; exact newM_rw m hk hl
  · exact g
theorem Good.down {G : List Cls} {m : Nat} (g : Good G m) (t b n : Int) {x : Cel} (hk : x.k = 0) (hl : x.l = 0 ∨ x.l = 1) : Good (downG G m t b n x) m := by
  unfold downG
  split
  · rename_i h
    obtain ⟨i, j, rfl, rfl, hij, hj⟩ := regB_true h
    refine g.of (len_down (by omega) (by omega) (by omega) _) fun R hR => ?_
    rcases mem_down hR with q | q
    · exact g.row R q
    · rw [q]; exact newM_rw m hk hl
  · exact g
theorem blS_k (s : St) : (blS s).k = 0 := rfl
theorem blS_l (s : St) : (blS s).l = 0 ∨ (blS s).l = 1 := celD_lv s.cell
theorem actX_l (s : St) : (actX s).l = 0 ∨ (actX s).l = 1 := by
  unfold actX
  split <;> exact celD_lv s.cell
theorem actX_k {s : St} (h : ¬ s.what % 6 < 2) : (actX s).k = 0 := by
  unfold actX
  rw [if_neg h]
  rfl
theorem act_good {G : List Cls} {m : Nat} (g : Good G m) (s : St) (r cl n : Int) : Good (actG m G (s.what % 6) r cl n (actX s)) m := by
  have hl := actX_l s
  unfold actG
  split
  · exact g.edit _ _ fun R h => ⟨h.1.putP _ _ _, by rw [len_putP]; exact h.2.1, h.2.2.putP _ hl _⟩
  · exact g.edit _ _ fun R h => ⟨h.1.putP _ _ _, by rw [len_putP]; exact h.2.1, h.2.2.putP _ hl _⟩
  · exact g.edit _ _ fun R h => ⟨h.1.mark _ _ _, by rw [len_mark]; exact h.2.1, h.2.2.mark _ _ hl⟩
  · rename_i hq
    have hk := actX_k (s := s) (by omega)
    exact g.edit _ _ fun R h => ⟨h.1.ins hk (in2 _ _ _), by rw [len_insert]; exact h.2.1, h.2.2.insert _ _ hl⟩
  · rename_i hq
    have hk := actX_k (s := s) (by omega)
    exact g.edit _ _ fun R h => ⟨h.1.del hk, by rw [len_delete]; exact h.2.1, h.2.2.delete _ _ hl⟩
  · rename_i h0 h1 h2 h3 h4
    have hk := actX_k (s := s) (by intro hlt; have e : s.what % 6 = 0 ∨ s.what % 6 = 1 := by omega
                                   exact e.elim h0 h1)
    exact g.erase _ fun R h => ⟨h.1.eraseP _ _ hk, by rw [len_eraseP]; exact h.2.1, h.2.2.eraseP _ _ hl⟩
theorem act_len {G : List Cls} {m : Nat} (k : Nat) (r cl n : Int) (x : Cel) : (actG m G k r cl n x).length = G.length := by
  have he : ∀ f : Cls → Cls, (editG G m r cl f).length = G.length := fun f => by unfold editG; split <;> simp
  have hx : ∀ f : Cls → Cls, (eraseG G r f).length = G.length := fun f => by unfold eraseG; split <;> simp
  unfold actG
  split
  all_goals first | exact he _ | exact hx _
theorem res_good {G : List Cls} {m r cl : Nat} (g : Good G m) (hc : canB (r : Nat) (cl : Nat) = true) {b : Cel} (hk : b.k = 0) (hl : b.l = 0 ∨ b.l = 1) : Good (resG G r cl b (min G.length r)) cl ∧ (resG G r cl b (min G.length r)).length = r := by
  have hcc : 1 ≤ r ∧ r ≤ 512 ∧ 1 ≤ cl ∧ cl ≤ 512 := by
    obtain ⟨n', m', e1, e2, _⟩ := canB_true hc
    omega
  have hlen : (resG G r cl b (min G.length r)).length = r := by
    unfold resG
    rw [List.length_append, List.length_map, List.length_take, List.length_replicate]
    omega
  refine ⟨⟨fun R hR => ?_, by omega, by omega, by omega, by omega⟩, hlen⟩
  unfold resG at hR
  rcases List.mem_append.1 hR with q | q
  · obtain ⟨Q, hQ, rfl⟩ := List.mem_map.1 q
    obtain ⟨h1, h2, h3⟩ := g.row Q (List.mem_of_mem_take hQ)
    refine ⟨h1.res hk, ?_, h3.resize _ hl⟩
    unfold resizeM
    rw [len_res, Int.toNat_natCast]
  · rw [List.eq_of_mem_replicate q]
    exact newM_rw cl hk hl
theorem does_good {G : List Cls} {m : Nat} (s : St) (g : Good G m) : Good (doesG s m G) (widthS s m) := by
  unfold doesG widthS
  split
  · rw [if_neg (by omega)]; exact g.up _ _ _ (blS_k s) (blS_l s)
  · rw [if_neg (by omega)]; exact g.down _ _ _ (blS_k s) (blS_l s)
  · rw [if_neg (by omega)]
    refine g.of (List.length_map ..) fun R hR => ?_
    obtain ⟨Q, hQ, rfl⟩ := List.mem_map.1 hR
    obtain ⟨h1, h2, h3⟩ := g.row Q hQ
    exact ⟨h1.raise _, by rw [len_raise]; exact h2, h3.raise (blS_l s)⟩
  · rename_i h9
    split
    · rename_i hc
      rw [if_pos ⟨h9, hc⟩]
      exact (res_good g hc (blS_k s) (blS_l s)).1
    · rename_i hc
      rw [if_neg (fun e => hc e.2)]
      exact g
  · rename_i h6 h7 h8 h9
    rw [if_neg (fun e => h9 e.1)]
    exact act_good g s _ _ _
theorem up_len (G : List Cls) (m : Nat) (t b n : Int) (x : Cel) : (upG G m t b n x).length = G.length := by
  unfold upG
  split
  · rename_i h
    obtain ⟨i, j, rfl, rfl, hij, hj⟩ := regB_true h
    exact len_up (by omega) (by omega) (by omega) _
  · rfl
theorem down_len (G : List Cls) (m : Nat) (t b n : Int) (x : Cel) : (downG G m t b n x).length = G.length := by
  unfold downG
  split
  · rename_i h
    obtain ⟨i, j, rfl, rfl, hij, hj⟩ := regB_true h
    exact len_down (by omega) (by omega) (by omega) _
  · rfl
theorem does_size {G : List Cls} {m : Nat} (s : St) (h9 : s.what % 10 ≠ 9) : (doesG s m G).length = G.length ∧ widthS s m = m := by
  refine ⟨?_, by unfold widthS; rw [if_neg (fun e => h9 e.1)]⟩
  unfold doesG
  split
  · exact up_len ..
  · exact down_len ..
  · exact List.length_map ..
  · exact absurd (by assumption) h9
  · exact act_len ..
theorem does_res {G : List Cls} {m : Nat} (s : St) (g : Good G m) (h9 : s.what % 10 = 9) (hn : 0 < s.n % 12) (hm : 0 < s.m % 24) : (doesG s m G).length = s.n % 12 ∧ widthS s m = s.m % 24 := by
  have hc : canB (s.n % 12 : Nat) (s.m % 24 : Nat) = true := by unfold canB; simp; omega
  have e1 : doesG s m G = resG G (s.n % 12) (s.m % 24) (blS s) (min G.length (s.n % 12)) := by
    unfold doesG
    rw [h9]
    exact if_pos hc
  have e2 : widthS s m = s.m % 24 := by
    unfold widthS
    exact if_pos ⟨h9, hc⟩
  rw [e1, e2]
  exact ⟨(res_good g hc (blS_k s) (blS_l s)).2, rfl⟩
theorem went_good {G : List Cls} {m : Nat} (s : St) (g : Good G m) : (wentS s G).length ≤ 520 ∧ ∀ R ∈ wentS s G, Rw m R := by
  unfold wentS
  split
  · unfold wentU
    split
    · refine ⟨?_, fun R hR => g.row R (mem_wu hR)⟩
      have := g.n1
      unfold wentUp
      rw [List.length_take, List.length_take, List.length_drop]
      omega
    · exact ⟨Nat.zero_le _, fun R hR => by cases hR⟩
  · unfold wentD
    split
    · refine ⟨?_, fun R hR => g.row R (mem_wd hR)⟩
      have := g.n1
      unfold wentDown
      rw [List.length_drop, List.length_take, List.length_drop]
      omega
    · exact ⟨Nat.zero_le _, fun R hR => by cases hR⟩
  · exact ⟨Nat.zero_le _, fun R hR => by cases hR⟩
def baOf (R : Cls) : ByteArray := ⟨(textM R).toArray⟩
theorem join_text (w : World) (v : Value) (H : List Hd) (lo : Nat) (hown : w.ownsRow lo 9 1 v H.length (textsOf H)) (h0 : 0 < H.length) (hl : H.length ≤ 600) (hlen : (Lib.join ((H.map (·.R)).map textM) [124]).length ≤ 100000) :
    Calls Tryz.prog 49 #[v, .string ⟨#[124]⟩] w fun e w' => e = .returned (.string ⟨(Lib.join ((H.map (·.R)).map textM) [124]).toArray⟩) ∧ Below w.heap.size w w' := by
  rcases hown.2 with ⟨_, e⟩ | ⟨g, cap, cur, rfl, hb, hg, hnc, _⟩
  · omega
  have hx : ((H.map fun x => baOf x.R).map (·.data.toList)) = (H.map (·.R)).map textM := by
    rw [List.map_map, List.map_map]
    rfl
  have := Tryz.strings_Join g 0 cap (H.map fun x => baOf x.R) ⟨#[124]⟩ w (fun j x hj => by
    have hjl : j < H.length := by
      have := (List.getElem?_eq_some_iff.1 hj).1
      simpa using this
    have hc := hown.cells (g := g) rfl j (.string x) (by
      unfold textsOf
      rw [List.getElem?_map, List.getElem?_eq_getElem hjl] at hj ⊢
      rw [Option.map_some] at hj ⊢
      injection hj with hj
      rw [← hj]
      rfl)
    rwa [Addr.add_mid] at hc) (Array.getElem?_eq_some_iff.1 hg).1 (by rw [List.length_map]; omega) (by rw [List.length_map]; exact hnc) (by rw [hx]; show (Lib.join _ [124]).length ≤ _; omega)
  rw [hx, List.length_map] at this
  exact this
theorem texts_any (w : World) (lo p rb c m q k cap : Nat) (G : List Cls) (ws : List ByteArray) (h : Gg w lo p rb c G) (g : Good G m) (ht : ∀ R ∈ G, TxtOk R) (hk : ws.length = k) (hq : q < w.heap.size) (hw : ∀ (j : Nat) x, ws[j]? = some x → w.cell? ⟨q, j, none⟩ = some (.string x)) (hcap : k ≤ cap) (hk2 : k ≤ 100)
    (heq : Lib.join (G.map textM) [124] = Lib.join (ws.map (·.data.toList)) [124]) (hlen : (Lib.join (G.map textM) [124]).length ≤ 100000) :
    Calls Tryz.prog 20 #[gV p, .slice (some ⟨q, 0, none⟩) k cap] w fun e w' => e = .returned (.bool true) ∧ Below w.heap.size w w' := by
  obtain ⟨H, h1, h2⟩ := h
  have n0 := g.n0
  have n1 := g.n1
  have hl : H.length = G.length := by rw [← h2, List.length_map]
  have HT := Lib.hid (gtext_any w lo p rb c H h1 (by omega) (fun x hx => ⟨ht _ (by rw [← h2]; exact List.mem_map_of_mem hx), by have := (g.row x.R (by rw [← h2]; exact List.mem_map_of_mem hx)).2.1; have := g.m1; omega⟩))
  obtain ⟨L, hL⟩ : ∃ L, L = Lib.join (G.map textM) [124] := ⟨_, rfl⟩
  have HJ := Lib.hid (show ∀ (W : World) (v : Value), W.ownsRow w.heap.size 9 1 v H.length (textsOf H) → Calls Tryz.prog 49 #[v, .string ⟨#[124]⟩] W fun e w' => e = .returned (.string ⟨L.toArray⟩) ∧ Below W.heap.size W w' from fun W v hv => by
    have := join_text W v H _ hv (by omega) (by omega) (by rw [h2]; exact hlen)
    rwa [h2, ← hL] at this)
  have HW := Lib.hid (show ∀ W : World, Below w.heap.size w W → Calls Tryz.prog 49 #[.slice (some ⟨q, 0, none⟩) k cap, .string ⟨#[124]⟩] W fun e w' => e = .returned (.string ⟨L.toArray⟩) ∧ Below W.heap.size W w' from fun W hb => by
    have := Tryz.strings_Join q 0 cap ws ⟨#[124]⟩ W (fun j x hj => by rw [Nat.zero_add]; exact (hb.cell (p := ⟨q, j, none⟩) hq).trans (hw j x hj)) (Nat.lt_of_lt_of_le hq hb.size) (by omega) (by omega) (by show (Lib.join _ [124]).length ≤ _; rw [← heq]; omega)
    rw [hk] at this
    rw [hL, heq]
    exact this)
  clear h1 h2 g ht hk hq hw hcap heq hlen hL n0 n1 hl
  go_enter Tryz.func20, Tryz.ntmps20
  go_wp2_with fail
  refine HT.out.mono ?_
  rintro e w1 ⟨v, rfl, ow, b1⟩
  have HB1 := Lib.hid b1
  have C2 := Lib.hid (HJ.out w1 v ow)
  clear ow b1 HT
  go_wp2_with fail
  refine C2.out.mono ?_
  rintro e w2 ⟨rfl, b2⟩
  have HB2 := Lib.hid (HB1.out.trans (b2.mono HB1.out.size))
  clear b2 C2
  go_wp2_with fail
  refine (HW.out w2 HB2.out).mono ?_
  rintro e w3 ⟨rfl, b3⟩
  have HB3 := Lib.hid (HB2.out.trans (b3.mono HB2.out.size))
  clear b3 HW HJ
  go_wp2
  go_ret
  exact ⟨by simp, HB3.out⟩
/-! ### letters("abc") -/
/-- A row of one letter. -/
def leR (x : Int) : Cls := [⟨x, 0, 0, 0, ⟨Cl.zero, Cl.zero, 0⟩, 0⟩, Cel.z]
def blR : Cls := [Cel.z, Cel.z]
theorem gnew (w : World) (r c : Nat) (b : Cel) (h : canB (r : Nat) (c : Nat) = true) : Calls Tryz.prog 23 #[.int .i64 (r : Nat), .int .i64 (c : Nat), celV b] w fun e w' => ∃ p rb cc, e = .returned (gV p) ∧ Gg w' w.heap.size p rb cc (List.replicate r (newM c b)) ∧ Below w.heap.size w w' := by
  refine (gnew_any w (r : Nat) (c : Nat) b h).mono ?_
  rintro e w' ⟨p, rb, cc, F, rfl, hg, hm, _, hb⟩
  exact ⟨p, rb, cc, rfl, ⟨F, hg, by rw [hm, Int.toNat_natCast, Int.toNat_natCast]⟩, hb⟩

open Go Go.RowKit Go.ChangeShapes Go.WideShapes Go.Deep Go.Lib Go.Joins

theorem n_u8 {n : Int} (h : (Lit.int .u8 n).wf = true) : ∃ m : Nat, n = m ∧ m < 256 := by
  have h1 : 0 ≤ n ∧ n ≤ 255 := by
    simp [Lit.wf, IntKind.min, IntKind.max, IntKind.bits, IntKind.signed] at h
    omega
  exact ⟨n.toNat, by omega, by omega⟩
instance : Inhabited Dc := ⟨Dc.z⟩
abbrev St.z : St := ⟨0, 0, 0, 0, 0, Dc.z, false⟩
instance : Inhabited St := ⟨St.z⟩
/-- A slice of steps, as it comes in. -/
def S11 (w : World) (b o : Nat) (a : St) : Prop := w.cell? ⟨b, o, none⟩ = some (.int .u8 (a.what : Nat)) ∧ w.cell? ⟨b, o + 1, none⟩ = some (.int .u8 (a.row : Nat)) ∧ w.cell? ⟨b, o + 2, none⟩ = some (.int .u8 (a.col : Nat)) ∧ w.cell? ⟨b, o + 3, none⟩ = some (.int .u8 (a.n : Nat)) ∧ w.cell? ⟨b, o + 4, none⟩ = some (.int .u8 (a.m : Nat)) ∧ w.cell? ⟨b, o + 5, none⟩ = some (.int .u8 (a.cell.ru : Nat)) ∧ w.cell? ⟨b, o + 6, none⟩ = some (.int .u8 (a.cell.ms : Nat)) ∧ w.cell? ⟨b, o + 7, none⟩ = some (.int .u8 (a.cell.at1 : Nat)) ∧ w.cell? ⟨b, o + 8, none⟩ = some (.bool a.cell.wide) ∧ w.cell? ⟨b, o + 9, none⟩ = some (.bool a.cell.high) ∧ w.cell? ⟨b, o + 10, none⟩ = some (.bool a.odd)
def StsIn (w : World) (a : Option Addr) (len : Nat) (T : Nat → St) : Prop := len ≤ maxLen ∧ (∀ i, i < len → (T i).ok) ∧ (0 < len → ∃ b off, a = some ⟨b, off, none⟩ ∧ b < w.heap.size ∧ ∀ i, i < len → S11 w b (off + i * 11) (T i))
theorem StsIn.below {w w' : World} {a : Option Addr} {len : Nat} {T : Nat → St} (h : StsIn w a len T) (hb : Below w.heap.size w w') : StsIn w' a len T := by
  refine ⟨h.1, h.2.1, fun h0 => ?_⟩
  obtain ⟨b, off, e, hlt, hc⟩ := h.2.2 h0
  refine ⟨b, off, e, Nat.lt_of_lt_of_le hlt hb.size, fun i hi => ?_⟩
  obtain ⟨q0, q1, q2, q3, q4, q5, q6, q7, q8, q9, q10⟩ := hc i hi
  have k : ∀ o, w'.cell? ⟨b, o, none⟩ = w.cell? ⟨b, o, none⟩ := fun o => World.cell?_of_block (a := ⟨b, o, none⟩) (hb.block b hlt)
  exact ⟨(k _).trans q0, (k _).trans q1, (k _).trans q2, (k _).trans q3, (k _).trans q4, (k _).trans q5, (k _).trans q6, (k _).trans q7, (k _).trans q8, (k _).trans q9, (k _).trans q10⟩
theorem list5 {α : Type} {cs : List α} (h : cs.length = 5) : ∃ c0 c1 c2 c3 c4, cs = [c0, c1, c2, c3, c4] := by
  match cs, h with
  | [c0, c1, c2, c3, c4], _ => exact ⟨c0, c1, c2, c3, c4, rfl⟩
theorem list11 {α : Type} {cs : List α} (h : cs.length = 11) : ∃ c0 c1 c2 c3 c4 c5 c6 c7 c8 c9 c10, cs = [c0, c1, c2, c3, c4, c5, c6, c7, c8, c9, c10] := by
  match cs, h with
  | [c0, c1, c2, c3, c4, c5, c6, c7, c8, c9, c10], _ => exact ⟨c0, c1, c2, c3, c4, c5, c6, c7, c8, c9, c10, rfl⟩
section
variable {H : Type} (enc : TypeId × Value → H) (base : Nat) (W : World)
set_option maxRecDepth 100000 in
theorem draft_at {n : Nat} {cs : List Value} {x : DataW H × List MemPlace} (h : DataW.trod enc Tryz.prog W 0 (fun _ => true) true n 38 cs = some x) :
    ∃ d : Dc, cs = [.int .u8 (d.ru : Nat), .int .u8 (d.ms : Nat), .int .u8 (d.at1 : Nat), .bool d.wide, .bool d.high] ∧ d.ok := by
  obtain ⟨xs, m, _, _, hl, hlen, hq⟩ := DataW.trod_struct Tryz.underlying38 h
  obtain ⟨c0, c1, c2, c3, c4, rfl⟩ := list5 (hl.trans (by kernel_rfl))
  have q1 : Tryz.prog.cellsOf 5 = 1 := by kernel_rfl
  have q2 : Tryz.prog.cellsOf 4 = 1 := by kernel_rfl
  match xs, hlen with
  | [y0, y1, y2, y3, y4], _ =>
    have h0 : DataW.trod enc Tryz.prog W 0 (fun _ => true) true m 5 (([c0, c1, c2, c3, c4].drop 0).take (Tryz.prog.cellsOf 5)) = some y0 := hq 0 _ rfl
    rw [q1] at h0
    replace h0 : DataW.trod enc Tryz.prog W 0 (fun _ => true) true m 5 [c0] = some y0 := h0
    have h1 : DataW.trod enc Tryz.prog W 0 (fun _ => true) true m 5 (([c0, c1, c2, c3, c4].drop 1).take (Tryz.prog.cellsOf 5)) = some y1 := hq 1 _ rfl
    rw [q1] at h1
    replace h1 : DataW.trod enc Tryz.prog W 0 (fun _ => true) true m 5 [c1] = some y1 := h1
    have h2 : DataW.trod enc Tryz.prog W 0 (fun _ => true) true m 5 (([c0, c1, c2, c3, c4].drop 2).take (Tryz.prog.cellsOf 5)) = some y2 := hq 2 _ rfl
    rw [q1] at h2
    replace h2 : DataW.trod enc Tryz.prog W 0 (fun _ => true) true m 5 [c2] = some y2 := h2
    have h3 : DataW.trod enc Tryz.prog W 0 (fun _ => true) true m 4 (([c0, c1, c2, c3, c4].drop 3).take (Tryz.prog.cellsOf 4)) = some y3 := hq 3 _ rfl
    rw [q2] at h3
    replace h3 : DataW.trod enc Tryz.prog W 0 (fun _ => true) true m 4 [c3] = some y3 := h3
    have h4 : DataW.trod enc Tryz.prog W 0 (fun _ => true) true m 4 (([c0, c1, c2, c3, c4].drop 4).take (Tryz.prog.cellsOf 4)) = some y4 := hq 4 _ rfl
    rw [q2] at h4
    replace h4 : DataW.trod enc Tryz.prog W 0 (fun _ => true) true m 4 [c4] = some y4 := h4
    obtain ⟨u0, e0, _, w0⟩ := DataW.trod_int Tryz.underlying5 h0
    obtain ⟨u1, e1, _, w1⟩ := DataW.trod_int Tryz.underlying5 h1
    obtain ⟨u2, e2, _, w2⟩ := DataW.trod_int Tryz.underlying5 h2
    obtain ⟨u3, e3, _⟩ := DataW.trod_bool Tryz.underlying4 h3
    obtain ⟨u4, e4, _⟩ := DataW.trod_bool Tryz.underlying4 h4
    simp at e0 e1 e2 e3 e4
    subst e0 e1 e2 e3 e4
    obtain ⟨a, rfl, ha⟩ := n_u8 w0
    obtain ⟨b, rfl, hb⟩ := n_u8 w1
    obtain ⟨c, rfl, hc⟩ := n_u8 w2
    exact ⟨⟨a, b, c, u3, u4⟩, rfl, ha, hb, hc⟩
set_option maxRecDepth 100000 in
theorem open_ds {n : Nat} {c : Value} {x : DataW H × List MemPlace} (h : DataW.trod enc Tryz.prog W 0 (fun _ => true) true n 25 [c] = some x) : ∃ L, DsIn W c L := by
  rcases open_slice Tryz.underlying25 h with ⟨hcs, _⟩ | ⟨x, len, cap, m, n, D, Pl, hcs, _, hl, hm, hmm, _, hx⟩
  · obtain rfl : c = .slice none 0 0 := by simpa using hcs
    exact ⟨[], none, 0, rfl, Nat.zero_le _, fun d hd => by simp at hd, fun h => by simp at h⟩
  · obtain rfl : c = .slice (some x) len cap := by simpa using hcs
    simp at hmm
    subst hmm
    have q5 : Tryz.prog.cellsOf 38 = 5 := by kernel_rfl
    rw [q5] at hx
    have hall : ∀ i, i < len → ∃ d : Dc, (W.cell? (x.add (i * 5)) = some (.int .u8 (d.ru : Nat)) ∧ W.cell? ((x.add (i * 5)).add 1) = some (.int .u8 (d.ms : Nat)) ∧ W.cell? ((x.add (i * 5)).add 2) = some (.int .u8 (d.at1 : Nat)) ∧ W.cell? ((x.add (i * 5)).add 3) = some (.bool d.wide) ∧ W.cell? ((x.add (i * 5)).add 4) = some (.bool d.high)) ∧ d.ok := by
      intro i hi
      obtain ⟨cs', h1, h2⟩ := hx i (by omega)
      obtain ⟨y, rfl, hy⟩ := draft_at enc W h2
      obtain ⟨_, _, hc⟩ := World.cells?_some h1
      refine ⟨y, ⟨?_, ?_, ?_, ?_, ?_⟩, hy⟩
      · simpa [Addr.add] using hc 0 (by simp)
      · exact hc 1 (by simp)
      · exact hc 2 (by simp)
      · exact hc 3 (by simp)
      · exact hc 4 (by simp)
    obtain ⟨T, hT⟩ := choose_lt hall
    have eg : ∀ i, i < len → ((List.range len).map T).getD i Dc.z = T i := fun i hi => by simp [List.getD_eq_getElem?_getD, hi]
    refine ⟨(List.range len).map T, some x, m, by simp, by simp; omega, fun d hd => ?_, fun h0 => ?_⟩
    · obtain ⟨i, hi, rfl⟩ := List.mem_map.1 hd
      exact (hT i (List.mem_range.1 hi)).2
    · simp only [List.length_map, List.length_range] at h0 ⊢
      obtain ⟨b, off, spot⟩ := x
      have hspot : spot = none := by simpa [Addr.add] using World.cell?_spot (hT 0 (by omega)).1.1
      subst hspot
      have hc := fun i (hi : i < len) => (hT i hi).1
      simp only [Go.WideShapes.add_plain] at hc
      refine ⟨b, off, rfl, World.block_lt_of_cell? (a := ⟨b, off + 0 * 5, none⟩) W (hc 0 (by omega)).1, fun i hi => ?_⟩
      rw [eg i hi]
      exact hc i hi
set_option maxRecDepth 100000 in
theorem open_dss {v : Value} {d : DataW H} {p : List MemPlace} (ok : Value.okWide Tryz.prog W .any base 25 v) (k : DataW.Trod enc Tryz.prog W 0 (fun _ => true) true 25 v d p) : ∃ L, DsIn W v L := by
  obtain ⟨a0, len0, cap0, rfl⟩ := okWide_slice Tryz.underlying25 ok
  obtain ⟨fuel, hf⟩ := k
  exact open_ds enc W hf
set_option maxRecDepth 100000 in
theorem line_at {n : Nat} {cs : List Value} {x : DataW H × List MemPlace} (h : DataW.trod enc Tryz.prog W 0 (fun _ => true) true n 66 cs = some x) :
    ∃ (c u : Value) (L : List Dc), cs = [c, u] ∧ DsIn W u L := by
  obtain ⟨xs, m, _, _, hl, hlen, hq⟩ := DataW.trod_struct Tryz.underlying66 h
  match cs, hl.trans (show Tryz.prog.cellsOf 66 = 2 by kernel_rfl), xs, hlen with
  | [c0, c1], _, [y0, y1], _ =>
    have q2 : Tryz.prog.cellsOf 25 = 1 := by kernel_rfl
    have h1 : DataW.trod enc Tryz.prog W 0 (fun _ => true) true m 25 (([c0, c1].drop 1).take (Tryz.prog.cellsOf 25)) = some y1 := hq 1 _ rfl
    rw [q2] at h1
    replace h1 : DataW.trod enc Tryz.prog W 0 (fun _ => true) true m 25 [c1] = some y1 := h1
    obtain ⟨L, hL⟩ := open_ds enc W h1
    exact ⟨c0, c1, L, rfl, hL⟩
set_option maxRecDepth 100000 in
theorem open_lns {n : Nat} {c : Value} {x : DataW H × List MemPlace} (h : DataW.trod enc Tryz.prog W 0 (fun _ => true) true n 22 [c] = some x) : ∃ LL, LnsIn W c LL := by
  rcases open_slice Tryz.underlying22 h with ⟨hcs, _⟩ | ⟨x, len, cap, m, n, D, Pl, hcs, _, hl, hm, hmm, _, hx⟩
  · obtain rfl : c = .slice none 0 0 := by simpa using hcs
    exact ⟨[], none, 0, rfl, Nat.zero_le _, fun h => by simp at h⟩
  · obtain rfl : c = .slice (some x) len cap := by simpa using hcs
    simp at hmm
    subst hmm
    have q5 : Tryz.prog.cellsOf 66 = 2 := by kernel_rfl
    rw [q5] at hx
    have hall : ∀ i, i < len → ∃ L : List Dc, ∃ c u : Value, (W.cell? (x.add (i * 2)) = some c ∧ W.cell? ((x.add (i * 2)).add 1) = some u) ∧ DsIn W u L := by
      intro i hi
      obtain ⟨cs', h1, h2⟩ := hx i (by omega)
      obtain ⟨c, u, L, rfl, hL⟩ := line_at enc W h2
      obtain ⟨_, _, hc⟩ := World.cells?_some h1
      refine ⟨L, c, u, ⟨?_, ?_⟩, hL⟩
      · simpa [Addr.add] using hc 0 (by simp)
      · exact hc 1 (by simp)
    obtain ⟨T, hT⟩ := choose_lt hall
    refine ⟨(List.range len).map T, some x, m, by simp, by simp; omega, fun h0 => ?_⟩
    simp only [List.length_map, List.length_range] at h0 ⊢
    obtain ⟨b, off, spot⟩ := x
    obtain ⟨c0, u0, h00, _⟩ := hT 0 (by omega)
    have hspot : spot = none := by simpa [Addr.add] using World.cell?_spot h00.1
    subst hspot
    simp only [Go.WideShapes.add_plain] at hT h00
    refine ⟨b, off, rfl, World.block_lt_of_cell? (a := ⟨b, off + 0 * 2, none⟩) W h00.1, fun i hi => ?_⟩
    obtain ⟨c1, u1, h11, hd⟩ := hT i hi
    refine ⟨u1, h11.2, ?_⟩
    simpa using hd
set_option maxRecDepth 100000 in
theorem open_gdraft {v : Value} {d : DataW H} {p : List MemPlace} (ok : Value.okWide Tryz.prog W .any base 24 v) (k : DataW.Trod enc Tryz.prog W 0 (fun _ => true) true 24 v d p) :
    ∃ (cols : Nat) (u : Value) (LL : List (List Dc)), v = .agg #[.int .u8 (cols : Nat), u] ∧ LnsIn W u LL := by
  obtain ⟨cs, rfl, hsz⟩ := okWide_struct Tryz.underlying24 ok
  obtain ⟨fuel, hf⟩ := k
  obtain ⟨xs, n, _, _, hl, hlen, hq⟩ := DataW.trod_struct Tryz.underlying24 hf
  obtain ⟨l⟩ := cs
  match l, hsz.trans (show Tryz.prog.cellsOf 24 = 2 by kernel_rfl), xs, hlen with
  | [c0, c1], _, [y0, y1], _ =>
    have q1 : Tryz.prog.cellsOf 5 = 1 := by kernel_rfl
    have q2 : Tryz.prog.cellsOf 22 = 1 := by kernel_rfl
    have h0 : DataW.trod enc Tryz.prog W 0 (fun _ => true) true n 5 (([c0, c1].drop 0).take (Tryz.prog.cellsOf 5)) = some y0 := hq 0 _ rfl
    rw [q1] at h0
    replace h0 : DataW.trod enc Tryz.prog W 0 (fun _ => true) true n 5 [c0] = some y0 := h0
    have h1 : DataW.trod enc Tryz.prog W 0 (fun _ => true) true n 22 (([c0, c1].drop 1).take (Tryz.prog.cellsOf 22)) = some y1 := hq 1 _ rfl
    rw [q2] at h1
    replace h1 : DataW.trod enc Tryz.prog W 0 (fun _ => true) true n 22 [c1] = some y1 := h1
    obtain ⟨u0, e0, _, w0⟩ := DataW.trod_int Tryz.underlying5 h0
    obtain ⟨LL, hLL⟩ := open_lns enc W h1
    simp at e0
    subst e0
    obtain ⟨a, rfl, _⟩ := n_u8 w0
    exact ⟨a, c1, LL, rfl, hLL⟩
set_option maxRecDepth 100000 in
theorem st_at {n : Nat} {cs : List Value} {x : DataW H × List MemPlace} (h : DataW.trod enc Tryz.prog W 0 (fun _ => true) true n 40 cs = some x) :
    ∃ a : St, cs = stL a ∧ a.ok := by
  obtain ⟨xs, m, _, _, hl, hlen, hq⟩ := DataW.trod_struct Tryz.underlying40 h
  obtain ⟨c0, c1, c2, c3, c4, c5, c6, c7, c8, c9, c10, rfl⟩ := list11 (hl.trans (by kernel_rfl))
  have q1 : Tryz.prog.cellsOf 5 = 1 := by kernel_rfl
  have q2 : Tryz.prog.cellsOf 4 = 1 := by kernel_rfl
  have q3 : Tryz.prog.cellsOf 38 = 5 := by kernel_rfl
  match xs, hlen with
  | [y0, y1, y2, y3, y4, y5, y6], _ =>
    have h0 : DataW.trod enc Tryz.prog W 0 (fun _ => true) true m 5 (([c0, c1, c2, c3, c4, c5, c6, c7, c8, c9, c10].drop 0).take (Tryz.prog.cellsOf 5)) = some y0 := hq 0 _ rfl
    rw [q1] at h0
    replace h0 : DataW.trod enc Tryz.prog W 0 (fun _ => true) true m 5 [c0] = some y0 := h0
    have h1 : DataW.trod enc Tryz.prog W 0 (fun _ => true) true m 5 (([c0, c1, c2, c3, c4, c5, c6, c7, c8, c9, c10].drop 1).take (Tryz.prog.cellsOf 5)) = some y1 := hq 1 _ rfl
    rw [q1] at h1
    replace h1 : DataW.trod enc Tryz.prog W 0 (fun _ => true) true m 5 [c1] = some y1 := h1
    have h2 : DataW.trod enc Tryz.prog W 0 (fun _ => true) true m 5 (([c0, c1, c2, c3, c4, c5, c6, c7, c8, c9, c10].drop 2).take (Tryz.prog.cellsOf 5)) = some y2 := hq 2 _ rfl
    rw [q1] at h2
    replace h2 : DataW.trod enc Tryz.prog W 0 (fun _ => true) true m 5 [c2] = some y2 := h2
    have h3 : DataW.trod enc Tryz.prog W 0 (fun _ => true) true m 5 (([c0, c1, c2, c3, c4, c5, c6, c7, c8, c9, c10].drop 3).take (Tryz.prog.cellsOf 5)) = some y3 := hq 3 _ rfl
    rw [q1] at h3
    replace h3 : DataW.trod enc Tryz.prog W 0 (fun _ => true) true m 5 [c3] = some y3 := h3
    have h4 : DataW.trod enc Tryz.prog W 0 (fun _ => true) true m 5 (([c0, c1, c2, c3, c4, c5, c6, c7, c8, c9, c10].drop 4).take (Tryz.prog.cellsOf 5)) = some y4 := hq 4 _ rfl
    rw [q1] at h4
    replace h4 : DataW.trod enc Tryz.prog W 0 (fun _ => true) true m 5 [c4] = some y4 := h4
    have h5 : DataW.trod enc Tryz.prog W 0 (fun _ => true) true m 38 (([c0, c1, c2, c3, c4, c5, c6, c7, c8, c9, c10].drop 5).take (Tryz.prog.cellsOf 38)) = some y5 := hq 5 _ rfl
    rw [q3] at h5
    replace h5 : DataW.trod enc Tryz.prog W 0 (fun _ => true) true m 38 [c5, c6, c7, c8, c9] = some y5 := h5
    have h6 : DataW.trod enc Tryz.prog W 0 (fun _ => true) true m 4 (([c0, c1, c2, c3, c4, c5, c6, c7, c8, c9, c10].drop 10).take (Tryz.prog.cellsOf 4)) = some y6 := hq 6 _ rfl
    rw [q2] at h6
    replace h6 : DataW.trod enc Tryz.prog W 0 (fun _ => true) true m 4 [c10] = some y6 := h6
    obtain ⟨u0, e0, _, w0⟩ := DataW.trod_int Tryz.underlying5 h0
    obtain ⟨u1, e1, _, w1⟩ := DataW.trod_int Tryz.underlying5 h1
    obtain ⟨u2, e2, _, w2⟩ := DataW.trod_int Tryz.underlying5 h2
    obtain ⟨u3, e3, _, w3⟩ := DataW.trod_int Tryz.underlying5 h3
    obtain ⟨u4, e4, _, w4⟩ := DataW.trod_int Tryz.underlying5 h4
    obtain ⟨d, e5, hd⟩ := draft_at enc W h5
    obtain ⟨u6, e6, _⟩ := DataW.trod_bool Tryz.underlying4 h6
    simp at e0 e1 e2 e3 e4 e6
    subst e0 e1 e2 e3 e4 e6
    injection e5 with e5 f1
    injection f1 with f1 f2
    injection f2 with f2 f3
    injection f3 with f3 f4
    injection f4 with f4 _
    subst e5 f1 f2 f3 f4
    obtain ⟨a0, rfl, k0⟩ := n_u8 w0
    obtain ⟨a1, rfl, k1⟩ := n_u8 w1
    obtain ⟨a2, rfl, k2⟩ := n_u8 w2
    obtain ⟨a3, rfl, k3⟩ := n_u8 w3
    obtain ⟨a4, rfl, k4⟩ := n_u8 w4
    exact ⟨⟨a0, a1, a2, a3, a4, d, u6⟩, rfl, k0, k1, k2, k3, k4, hd⟩
set_option maxRecDepth 100000 in
theorem open_st {v : Value} {d : DataW H} {p : List MemPlace} (ok : Value.okWide Tryz.prog W .any base 40 v) (k : DataW.Trod enc Tryz.prog W 0 (fun _ => true) true 40 v d p) : ∃ a : St, v = stV a ∧ a.ok := by
  obtain ⟨cs, rfl, hsz⟩ := okWide_struct Tryz.underlying40 ok
  obtain ⟨fuel, hf⟩ := k
  obtain ⟨a, e, ha⟩ := st_at enc W hf
  obtain ⟨l⟩ := cs
  replace e : l = stL a := e
  subst e
  exact ⟨a, rfl, ha⟩
set_option maxRecDepth 100000 in
theorem open_sts {v : Value} {d : DataW H} {p : List MemPlace} (ok : Value.okWide Tryz.prog W .any base 26 v) (k : DataW.Trod enc Tryz.prog W 0 (fun _ => true) true 26 v d p) :
    ∃ (a : Option Addr) (len cap : Nat) (T : Nat → St), v = .slice a len cap ∧ StsIn W a len T := by
  obtain ⟨a0, len0, cap0, rfl⟩ := okWide_slice Tryz.underlying26 ok
  obtain ⟨fuel, hf⟩ := k
  rcases open_slice Tryz.underlying26 hf with ⟨hcs, _⟩ | ⟨x, len, cap, m, n, D, Pl, hcs, _, hl, hm, hmm, _, hx⟩
  · simp [Value.cells] at hcs
    obtain ⟨rfl, rfl, rfl⟩ := hcs
    exact ⟨none, 0, 0, fun _ => St.z, rfl, Nat.zero_le _, fun i hi => by omega, fun h => by omega⟩
  · simp [Value.cells] at hcs
    obtain ⟨rfl, rfl, rfl⟩ := hcs
    simp at hmm
    subst hmm
    have q9 : Tryz.prog.cellsOf 40 = 11 := by kernel_rfl
    rw [q9] at hx
    have hall : ∀ i, i < len0 → ∃ a : St, (W.cell? (x.add (i * 11)) = some (.int .u8 (a.what : Nat)) ∧ W.cell? ((x.add (i * 11)).add 1) = some (.int .u8 (a.row : Nat)) ∧ W.cell? ((x.add (i * 11)).add 2) = some (.int .u8 (a.col : Nat)) ∧ W.cell? ((x.add (i * 11)).add 3) = some (.int .u8 (a.n : Nat)) ∧ W.cell? ((x.add (i * 11)).add 4) = some (.int .u8 (a.m : Nat)) ∧ W.cell? ((x.add (i * 11)).add 5) = some (.int .u8 (a.cell.ru : Nat)) ∧ W.cell? ((x.add (i * 11)).add 6) = some (.int .u8 (a.cell.ms : Nat)) ∧ W.cell? ((x.add (i * 11)).add 7) = some (.int .u8 (a.cell.at1 : Nat)) ∧ W.cell? ((x.add (i * 11)).add 8) = some (.bool a.cell.wide) ∧ W.cell? ((x.add (i * 11)).add 9) = some (.bool a.cell.high) ∧ W.cell? ((x.add (i * 11)).add 10) = some (.bool a.odd)) ∧ a.ok := by
      intro i hi
      obtain ⟨cs', h1, h2⟩ := hx i (by omega)
      obtain ⟨y, rfl, hy⟩ := st_at enc W h2
      obtain ⟨_, _, hc⟩ := World.cells?_some h1
      refine ⟨y, ⟨?_, ?_, ?_, ?_, ?_, ?_, ?_, ?_, ?_, ?_, ?_⟩, hy⟩
      · simpa [Addr.add, stL] using hc 0 (by simp)
      · exact hc 1 (by simp)
      · exact hc 2 (by simp)
      · exact hc 3 (by simp)
      · exact hc 4 (by simp)
      · exact hc 5 (by simp)
      · exact hc 6 (by simp)
      · exact hc 7 (by simp)
      · exact hc 8 (by simp)
      · exact hc 9 (by simp)
      · exact hc 10 (by simp)
    obtain ⟨T, hT⟩ := choose_lt hall
    refine ⟨some x, len0, m, T, rfl, Nat.le_trans hl hm, fun i hi => (hT i hi).2, fun h0 => ?_⟩
    obtain ⟨b, off, spot⟩ := x
    have hspot : spot = none := by simpa [Addr.add] using World.cell?_spot (hT 0 (by omega)).1.1
    subst hspot
    have hc := fun i (hi : i < len0) => (hT i hi).1
    simp only [Go.WideShapes.add_plain] at hc
    exact ⟨b, off, rfl, World.block_lt_of_cell? (a := ⟨b, off + 0 * 11, none⟩) W (hc 0 (by omega)).1, fun i hi => hc i hi⟩
end

instance (R : Cls) (i : Nat) : Decidable (UnitAt R i) := by unfold UnitAt; infer_instance
def whB (R : Cls) : Bool := (List.range R.length).all fun i => decide (UnitAt R i)
theorem wh_of {R : Cls} (h : whB R = true) : Wh R := fun i hi => of_decide_eq_true (List.all_eq_true.1 h i (List.mem_range.2 hi))
def lvB (R : Cls) : Bool := (List.range R.length).all fun i => decide ((gc R i).l = 0 ∨ (gc R i).l = 1)
theorem lv_of {R : Cls} (h : lvB R = true) : Lv R := fun i hi => of_decide_eq_true (p := (gc R i).l = 0 ∨ (gc R i).l = 1) (List.all_eq_true.1 h i (List.mem_range.2 hi))
instance (r : Int) : Decidable (Shows r) := by unfold Shows; infer_instance
instance (c : Cel) : Decidable (TxtC c) := by unfold TxtC; infer_instance
def txB (R : Cls) : Bool := (List.range R.length).all fun i => decide (TxtC (gc R i))
theorem tx_of {R : Cls} (h : txB R = true) : TxtOk R := fun i hi => of_decide_eq_true (List.all_eq_true.1 h i (List.mem_range.2 hi))
def goodB (G : List Cls) (m : Nat) : Bool := (G.all fun R => whB R && decide (R.length = m) && lvB R) && decide (0 < G.length) && decide (G.length ≤ 520) && decide (0 < m) && decide (m ≤ 520)
theorem good_of {G : List Cls} {m : Nat} (h : goodB G m = true) : Good G m := by
  unfold goodB at h
  simp only [Bool.and_eq_true, decide_eq_true_eq] at h
  obtain ⟨⟨⟨⟨h1, h2⟩, h3⟩, h4⟩, h5⟩ := h
  refine ⟨fun R hR => ?_, h2, h3, h4, h5⟩
  have := List.all_eq_true.1 h1 R hR
  simp only [Bool.and_eq_true, decide_eq_true_eq] at this
  exact ⟨wh_of this.1.1, this.1.2, lv_of this.2⟩
def txG (G : List Cls) : Bool := G.all txB
theorem txG_of {G : List Cls} (h : txG G = true) : ∀ R ∈ G, TxtOk R := fun R hR => tx_of (List.all_eq_true.1 h R hR)
def leG : Nat → List Cls
  | 0 => [blR, blR, blR]
  | 1 => [leR 97, blR, blR]
  | 2 => [leR 97, leR 98, blR]
  | _ => [leR 97, leR 98, leR 99]
abbrev abcS : ByteArray := ⟨#[97, 98, 99]⟩
abbrev cV (r : Int) : Value := .agg #[.int .i32 r, .int .i32 0, .int .i32 0, .int .u8 0, .int .u8 0, .int .u8 0, .int .u8 0, .int .u8 0, .int .u8 0, .int .u8 0, .int .u8 0, .int .u8 0, .int .u16 0, .int .u8 0]
def cA (r : Int) : Cel := ⟨r, 0, 0, 0, ⟨Cl.zero, Cl.zero, 0⟩, 0⟩
theorem put_le (W : World) (lo p rb c i : Nat) (r : Int) (G K : List Cls) (h : Gg W lo p rb c G) (g : goodB G 2 = true) (hlo : lo ≤ W.heap.size) (hs : editG G 2 (i : Nat) 0 (fun R => putP R 0 (cA r) false) = K) :
    Calls Tryz.prog 33 #[gV p, .agg #[.int .i64 (i : Nat), .int .i64 0], cV r, .bool false] W fun e w' => e = .returned (.tuple #[]) ∧ Gg w' lo p rb c K ∧ Buts (· = rb) W w' := by
  subst hs
  exact gput W lo p rb c 2 G (i : Nat) 0 (cA r) false h (good_of g) hlo
set_option maxHeartbeats 2000000 in
theorem letters_any (w : World) : Calls Tryz.prog 17 #[.string abcS] w fun e w' => ∃ p rb c, e = .returned (gV p) ∧ Gg w' w.heap.size p rb c (leG 3) ∧ Below w.heap.size w w' := by
  have x0 : ∀ w : World, (Instr.index 9 (.string abcS) (.int .i64 0)).run Tryz.prog w = .ok (.int .u8 97) w := fun _ => by kernel_rfl
  have x1 : ∀ w : World, (Instr.index 9 (.string abcS) (.int .i64 1)).run Tryz.prog w = .ok (.int .u8 98) w := fun _ => by kernel_rfl
  have x2 : ∀ w : World, (Instr.index 9 (.string abcS) (.int .i64 2)).run Tryz.prog w = .ok (.int .u8 99) w := fun _ => by kernel_rfl
  go_enter Tryz.func17, Tryz.ntmps17
  go_wp2_with fail
  refine (gnew w 3 2 Cel.z (by decide)).mono ?_
  rintro e w1 ⟨p, rb, c, rfl, g1, b1⟩
  have HG0 := Lib.hid (show Gg w1 w.heap.size p rb c (leG 0) from g1)
  have HB0 := Lib.hid b1
  clear g1 b1
  go_wp2
  go_loopg [4] 3 (fun G i wr => ∃ k : Nat, i = .int .i64 k ∧ k ≤ 3 ∧ 3 - k ≤ G ∧ Hid (Gg wr w.heap.size p rb c (leG k)) ∧ Hid (Below w.heap.size w wr))
  case atStart => exact ⟨0, rfl, Nat.zero_le _, Nat.le_refl _, HG0, HB0⟩
  case round =>
    obtain ⟨k, rfl, hk, hgk, HG, HB⟩ := hrel
    clear HG0 HB0
    have hkk : k = 0 ∨ k = 1 ∨ k = 2 ∨ k = 3 := by omega
    clear hk
    rcases hkk with rfl | rfl | rfl | rfl
    · clear x1 x2
      go_wp2_with fail
      refine (put_le wr w.heap.size p rb c 0 97 (leG 0) (leG 1) HG.out (by decide +kernel) HB.out.size (by decide +kernel)).mono ?_
      rintro e w2 ⟨rfl, g2, bt⟩
      have HG2 := Lib.hid g2
      have HB2 := Lib.hid (HB.out.trans (bt.below (C := w.heap.size) (fun i hi => by have := HG.out.lt; omega) HB.out.size))
      clear g2 bt
      go_wp2
      go_roundg 2
      case rel => exact ⟨1, rfl, by decide, by decide, HG2, HB2⟩
      case measure => omega
    · clear x0 x2
      go_wp2_with fail
      refine (put_le wr w.heap.size p rb c 1 98 (leG 1) (leG 2) HG.out (by decide +kernel) HB.out.size (by decide +kernel)).mono ?_
      rintro e w2 ⟨rfl, g2, bt⟩
      have HG2 := Lib.hid g2
      have HB2 := Lib.hid (HB.out.trans (bt.below (C := w.heap.size) (fun i hi => by have := HG.out.lt; omega) HB.out.size))
      clear g2 bt
      go_wp2
      go_roundg 1
      case rel => exact ⟨2, rfl, by decide, by decide, HG2, HB2⟩
      case measure => omega
    · clear x0 x1
      go_wp2_with fail
      refine (put_le wr w.heap.size p rb c 2 99 (leG 2) (leG 3) HG.out (by decide +kernel) HB.out.size (by decide +kernel)).mono ?_
      rintro e w2 ⟨rfl, g2, bt⟩
      have HG2 := Lib.hid g2
      have HB2 := Lib.hid (HB.out.trans (bt.below (C := w.heap.size) (fun i hi => by have := HG.out.lt; omega) HB.out.size))
      clear g2 bt
      go_wp2
      go_roundg 0
      case rel => exact ⟨3, rfl, by decide, by decide, HG2, HB2⟩
      case measure => omega
    · clear x0 x1 x2
      go_wp2
      go_ret
      exact ⟨p, rb, c, rfl, HG.out, HB.out⟩
/-! ### works -/
theorem text_is (W : World) (v : Value) (R : Cls) (l : List UInt8) (h : RowIn W v R) (ht : txB R = true) (hl : R.length ≤ 1000) (he : textM R = l) : Calls Tryz.prog 21 #[v] W fun e w' => e = .returned (.string ⟨l.toArray⟩) ∧ Below W.heap.size W w' := by
  subst he
  exact text_any W v R h (tx_of ht) hl
theorem texts_is (W : World) (lo p rb c m q k : Nat) (G : List Cls) (ws : List ByteArray) (h : Gg W lo p rb c G) (g : goodB G m = true) (ht : txG G = true) (hk : ws.length = k) (hk2 : k ≤ 100) (hq : Lie W q (ws.map .string)) (heq : Lib.join (G.map textM) [124] = Lib.join (ws.map (·.data.toList)) [124]) (hlen : (Lib.join (G.map textM) [124]).length ≤ 100000) :
    Calls Tryz.prog 20 #[gV p, .slice (some ⟨q, 0, none⟩) k k] W fun e w' => e = .returned (.bool true) ∧ Below W.heap.size W w' :=
  texts_any W lo p rb c m q k k G ws h (good_of g) (txG_of ht) hk hq.1 (fun j x hj => hq.2 j (.string x) (by rw [List.getElem?_map, hj]; rfl)) (Nat.le_refl _) hk2 heq hlen
theorem up_is (W : World) (lo p rb c m : Nat) (G K Wt : List Cls) (t b n : Int) (h : Gg W lo p rb c G) (g : goodB G m = true) (hlo : lo ≤ W.heap.size) (hK : upG G m t b n Cel.z = K) (hW : wentU G t b n = Wt) :
    Calls Tryz.prog 18 #[gV p, .int .i64 t, .int .i64 b, .int .i64 n, cV 0] W fun e w' => ∃ v, e = .returned v ∧ Rl w' lo v Wt ∧ (∀ k, v.ownBlock = some k → W.heap.size ≤ k) ∧ Gg w' lo p rb c K ∧ Buts (· = rb) W w' := by
  subst hK hW
  exact gup W lo p rb c m G t b n Cel.z h (good_of g) hlo
theorem down_is (W : World) (lo p rb c m : Nat) (G K Wt : List Cls) (t b n : Int) (h : Gg W lo p rb c G) (g : goodB G m = true) (hlo : lo ≤ W.heap.size) (hK : downG G m t b n Cel.z = K) (hW : wentD G t b n = Wt) :
    Calls Tryz.prog 19 #[gV p, .int .i64 t, .int .i64 b, .int .i64 n, cV 0] W fun e w' => ∃ v, e = .returned v ∧ Rl w' lo v Wt ∧ (∀ k, v.ownBlock = some k → W.heap.size ≤ k) ∧ Gg w' lo p rb c K ∧ Buts (· = rb) W w' := by
  subst hK hW
  exact gdown W lo p rb c m G t b n Cel.z h (good_of g) hlo
theorem resize_is (W : World) (lo p rb c m r cl : Nat) (G K : List Cls) (h : Gg W lo p rb c G) (g : goodB G m = true) (hlo : lo ≤ W.heap.size) (hc : canB (r : Nat) (cl : Nat) = true) (hK : resG G r cl Cel.z (min G.length r) = K) :
    Calls Tryz.prog 22 #[gV p, .int .i64 (r : Nat), .int .i64 (cl : Nat), cV 0] W fun e w' => e = .returned (.bool true) ∧ (∃ rb2 c2, Gg w' lo p rb2 c2 K ∧ W.heap.size ≤ rb2) ∧ Buts (· = p) W w' := by
  subst hK
  exact gresize W lo p rb c m r cl G Cel.z h (good_of g) hlo hc
/-- The one row, or the two, of such rows. -/
theorem Rl.one {w : World} {lo : Nat} {v : Value} {R : Cls} (h : Rl w lo v [R]) : ∃ g c x, v = .slice (some ⟨g, 0, none⟩) 1 c ∧ w.cell? ⟨g, 0, none⟩ = some (hdV x) ∧ RowIn w (hdV x) R ∧ g < w.heap.size ∧ lo ≤ g := by
  obtain ⟨H, h1, h2⟩ := h
  match H, h1, h2 with
  | [x], h1, h2 =>
    obtain ⟨g, c, rfl, hb, hg⟩ := h1.here (by simp)
    have hx : x.R = R := by injection h2
    subst hx
    exact ⟨g, c, x, rfl, h1.at (i := 0) (by simp), (h1.row (i := 0) (by simp)).row, hg, hb⟩
theorem Rl.two {w : World} {lo : Nat} {v : Value} {R S : Cls} (h : Rl w lo v [R, S]) : ∃ g c x y, v = .slice (some ⟨g, 0, none⟩) 2 c ∧ w.cell? ⟨g, 0, none⟩ = some (hdV x) ∧ w.cell? ⟨g, 1, none⟩ = some (hdV y) ∧ RowIn w (hdV x) R ∧ RowIn w (hdV y) S ∧ g < w.heap.size := by
  obtain ⟨H, h1, h2⟩ := h
  match H, h1, h2 with
  | [x, y], h1, h2 =>
    obtain ⟨g, c, rfl, hb, hg⟩ := h1.here (by simp)
    injection h2 with hx h2
    injection h2 with hy _
    subst hx hy
    exact ⟨g, c, x, y, rfl, h1.at (i := 0) (by simp), h1.at (i := 1) (by simp), (h1.row (i := 0) (by simp)).row, (h1.row (i := 1) (by simp)).row, hg⟩
set_option maxHeartbeats 8000000 in
set_option maxRecDepth 100000 in
theorem works_any (w : World) : Calls Tryz.prog 5 #[] w fun e w' => e = .returned (.bool true) ∧ Below w.heap.size w w' := by
  go_enter Tryz.func5, Tryz.ntmps5
  go_wp2_with fail
  refine (letters_any w).mono ?_
  rintro e w1 ⟨pa, ra, ca, rfl, ga, b1⟩
  have HB := Lib.hid b1
  have GA := Lib.hid ga
  have LA := Lib.hid (show pa < w1.heap.size ∧ ra < w1.heap.size ∧ w.heap.size ≤ ra ∧ w.heap.size ≤ pa from ga.lt)
  clear ga b1
  go_wp2_with fail
  refine (letters_any w1).mono ?_
  rintro e w2 ⟨pb, rb, cb, rfl, gb, b2⟩
  replace GA := Lib.hid (GA.out.below b2)
  have GB := Lib.hid (gb.lower HB.out.size)
  have LB := Lib.hid (show pb < w2.heap.size ∧ rb < w2.heap.size ∧ w1.heap.size ≤ rb ∧ w1.heap.size ≤ pb from gb.lt)
  replace HB := Lib.hid (HB.out.trans (b2.mono HB.out.size))
  clear gb b2
  go_wp2_with fail
  refine (letters_any w2).mono ?_
  rintro e w3 ⟨pc, rc, cc, rfl, gc, b3⟩
  replace GA := Lib.hid (GA.out.below b3)
  replace GB := Lib.hid (GB.out.below b3)
  have GC := Lib.hid (gc.lower HB.out.size)
  have LC := Lib.hid (show pc < w3.heap.size ∧ rc < w3.heap.size ∧ w2.heap.size ≤ rc ∧ w2.heap.size ≤ pc from gc.lt)
  replace HB := Lib.hid (HB.out.trans (b3.mono HB.out.size))
  have NE := Lib.hid (show pa ≠ pb ∧ pa ≠ pc ∧ pb ≠ pc ∧ ra ≠ rb ∧ ra ≠ rc ∧ rb ≠ rc ∧ w.heap.size ≤ pa ∧ w.heap.size ≤ pb ∧ w.heap.size ≤ pc ∧ w.heap.size ≤ ra ∧ w.heap.size ≤ rb ∧ w.heap.size ≤ rc ∧ ra < w3.heap.size ∧ rb < w3.heap.size ∧ rc < w3.heap.size by have := LA.out; have := LB.out; have := LC.out; omega)
  clear gc b3 LA LB LC
  go_wp2_with fail
  refine (up_is w3 w.heap.size pa ra ca 2 (leG 3) [leR 98, leR 99, blR] [leR 97] 0 2 1 GA.out (by decide +kernel) HB.out.size (by decide +kernel) (by decide +kernel)).mono ?_
  rintro e w4 ⟨vu, rfl, ru, hu, ga, bt⟩
  have RU := Lib.hid ru
  have HU := Lib.hid (show vu.ownBlock ≠ some rb ∧ vu.ownBlock ≠ some rc from ⟨fun e => by have := hu _ e; have := NE.out; omega, fun e => by have := hu _ e; have := NE.out; omega⟩)
  replace GB := Lib.hid (GB.out.other GA.out bt.two (by have := NE.out; omega) (by have := NE.out; omega))
  replace GC := Lib.hid (GC.out.other GA.out bt.two (by have := NE.out; omega) (by have := NE.out; omega))
  replace GA := Lib.hid ga
  have HS := Lib.hid bt.size
  replace HB := Lib.hid (HB.out.trans (bt.below (C := w.heap.size) (fun i hi => by have := NE.out; omega) HB.out.size))
  obtain ⟨vua, vuc, rfl⟩ := ru.shape
  simp only [List.length_cons, List.length_nil] at RU HU
  clear ru hu ga bt
  go_wp2_with fail
  refine (down_is w4 w.heap.size pb rb cb 2 (leG 3) [leR 97, blR, blR] [leR 98, leR 99] 1 2 5 GB.out (by decide +kernel) HB.out.size (by decide +kernel) (by decide +kernel)).mono ?_
  rintro e w5 ⟨vd, rfl, rd, hd, gb, bt⟩
  have RD := Lib.hid rd
  have HD := Lib.hid (show vd.ownBlock ≠ some rc from fun e => by have := hd _ e; have := NE.out; have := HS.out; omega)
  replace GA := Lib.hid (GA.out.other GB.out bt.two (by have := NE.out; omega) (by have := NE.out; omega))
  replace GC := Lib.hid (GC.out.other GB.out bt.two (by have := NE.out; omega) (by have := NE.out; omega))
  replace RU := Lib.hid (RU.out.other GB.out bt.two HU.out.1)
  replace GB := Lib.hid gb
  replace HS := Lib.hid (Nat.le_trans HS.out bt.size)
  replace HB := Lib.hid (HB.out.trans (bt.below (C := w.heap.size) (fun i hi => by have := NE.out; omega) HB.out.size))
  obtain ⟨vda, vdc, rfl⟩ := rd.shape
  simp only [List.length_cons, List.length_nil] at RD HD
  clear rd hd gb bt
  go_wp2_with fail
  refine (up_is w5 w.heap.size pc rc cc 2 (leG 3) (leG 3) [] 1 0 1 GC.out (by decide +kernel) HB.out.size (by decide +kernel) (by decide +kernel)).mono ?_
  rintro e w6 ⟨vn0, rfl, rn, _, gc, bt⟩
  replace GA := Lib.hid (GA.out.other GC.out bt.two (by have := NE.out; omega) (by have := NE.out; omega))
  replace GB := Lib.hid (GB.out.other GC.out bt.two (by have := NE.out; omega) (by have := NE.out; omega))
  replace RU := Lib.hid (RU.out.other GC.out bt.two HU.out.2)
  replace RD := Lib.hid (RD.out.other GC.out bt.two HD.out)
  replace GC := Lib.hid gc
  replace HB := Lib.hid (HB.out.trans (bt.below (C := w.heap.size) (fun i hi => by have := NE.out; omega) HB.out.size))
  obtain ⟨va0, vc0, rfl⟩ := rn.shape
  clear rn gc bt
  go_wp2_with fail
  refine (up_is w6 w.heap.size pc rc cc 2 (leG 3) (leG 3) [] 0 3 1 GC.out (by decide +kernel) HB.out.size (by decide +kernel) (by decide +kernel)).mono ?_
  rintro e w7 ⟨vn1, rfl, rn, _, gc, bt⟩
  replace GA := Lib.hid (GA.out.other GC.out bt.two (by have := NE.out; omega) (by have := NE.out; omega))
  replace GB := Lib.hid (GB.out.other GC.out bt.two (by have := NE.out; omega) (by have := NE.out; omega))
  replace RU := Lib.hid (RU.out.other GC.out bt.two HU.out.2)
  replace RD := Lib.hid (RD.out.other GC.out bt.two HD.out)
  replace GC := Lib.hid gc
  replace HB := Lib.hid (HB.out.trans (bt.below (C := w.heap.size) (fun i hi => by have := NE.out; omega) HB.out.size))
  obtain ⟨va1, vc1, rfl⟩ := rn.shape
  clear rn gc bt
  go_wp2_with fail
  refine (up_is w7 w.heap.size pc rc cc 2 (leG 3) (leG 3) [] 0 1 0 GC.out (by decide +kernel) HB.out.size (by decide +kernel) (by decide +kernel)).mono ?_
  rintro e w8 ⟨vn2, rfl, rn, _, gc, bt⟩
  replace GA := Lib.hid (GA.out.other GC.out bt.two (by have := NE.out; omega) (by have := NE.out; omega))
  replace GB := Lib.hid (GB.out.other GC.out bt.two (by have := NE.out; omega) (by have := NE.out; omega))
  replace RU := Lib.hid (RU.out.other GC.out bt.two HU.out.2)
  replace RD := Lib.hid (RD.out.other GC.out bt.two HD.out)
  replace GC := Lib.hid gc
  replace HB := Lib.hid (HB.out.trans (bt.below (C := w.heap.size) (fun i hi => by have := NE.out; omega) HB.out.size))
  obtain ⟨va2, vc2, rfl⟩ := rn.shape
  clear rn gc bt
  obtain ⟨w9, hw9⟩ : ∃ X, X = w8.alloc (.cells #[.string ⟨#[97, 32]⟩, .string ⟨#[98, 32]⟩, .string ⟨#[99, 32]⟩] 9) := ⟨_, rfl⟩
  obtain ⟨q9, hq9⟩ : ∃ b, b = w8.heap.size := ⟨_, rfl⟩
  have HL := Lib.hid (show Lie w9 q9 ((([⟨#[97, 32]⟩, ⟨#[98, 32]⟩, ⟨#[99, 32]⟩] : List ByteArray)).map .string) by rw [hw9]; exact Lie.new w8 _ _ q9 hq9)
  have ba : Below w8.heap.size w8 w9 := by rw [hw9]; exact (Below.refl _ _).alloc (Nat.le_refl _) _
  replace GA := Lib.hid (GA.out.below ba)
  replace GB := Lib.hid (GB.out.below ba)
  replace GC := Lib.hid (GC.out.below ba)
  replace RU := Lib.hid (RU.out.below ba)
  replace RD := Lib.hid (RD.out.below ba)
  replace HB := Lib.hid (HB.out.trans (ba.mono HB.out.size))
  clear ba
  go_wp2_with fail
  rw [← hw9, ← hq9]
  clear hw9 hq9
  refine (texts_is w9 w.heap.size pc rc cc 2 q9 3 (leG 3) [⟨#[97, 32]⟩, ⟨#[98, 32]⟩, ⟨#[99, 32]⟩] GC.out (by decide +kernel) (by decide +kernel) rfl (by decide) HL.out (by decide +kernel) (by decide +kernel)).mono ?_
  rintro e w10 ⟨rfl, bt⟩
  replace GA := Lib.hid (GA.out.below bt)
  replace GB := Lib.hid (GB.out.below bt)
  replace GC := Lib.hid (GC.out.below bt)
  replace RU := Lib.hid (RU.out.below bt)
  replace RD := Lib.hid (RD.out.below bt)
  replace HB := Lib.hid (HB.out.trans (bt.mono HB.out.size))
  clear bt
  clear HL
  obtain ⟨gu, cu, xu, eu, u1, u2, u3, _⟩ := RU.out.one
  injection eu with eu1 eu2 eu3
  subst eu1 eu3
  clear eu2
  go_wp2_with fail
  refine (text_is w10 _ (leR 97) [97, 32] u2 (by decide +kernel) (by decide) (by decide +kernel)).mono ?_
  rintro e w11 ⟨rfl, bt⟩
  replace GA := Lib.hid (GA.out.below bt)
  replace GB := Lib.hid (GB.out.below bt)
  replace GC := Lib.hid (GC.out.below bt)
  replace RU := Lib.hid (RU.out.below bt)
  replace RD := Lib.hid (RD.out.below bt)
  replace HB := Lib.hid (HB.out.trans (bt.mono HB.out.size))
  clear bt
  clear u1 u2 u3
  obtain ⟨w12, hw12⟩ : ∃ X, X = w11.alloc (.cells #[.string ⟨#[98, 32]⟩, .string ⟨#[99, 32]⟩, .string ⟨#[32, 32]⟩] 9) := ⟨_, rfl⟩
  obtain ⟨q12, hq12⟩ : ∃ b, b = w11.heap.size := ⟨_, rfl⟩
  have HL := Lib.hid (show Lie w12 q12 ((([⟨#[98, 32]⟩, ⟨#[99, 32]⟩, ⟨#[32, 32]⟩] : List ByteArray)).map .string) by rw [hw12]; exact Lie.new w11 _ _ q12 hq12)
  have ba : Below w11.heap.size w11 w12 := by rw [hw12]; exact (Below.refl _ _).alloc (Nat.le_refl _) _
  replace GA := Lib.hid (GA.out.below ba)
  replace GB := Lib.hid (GB.out.below ba)
  replace GC := Lib.hid (GC.out.below ba)
  replace RU := Lib.hid (RU.out.below ba)
  replace RD := Lib.hid (RD.out.below ba)
  replace HB := Lib.hid (HB.out.trans (ba.mono HB.out.size))
  clear ba
  go_wp2_with fail
  rw [← hw12, ← hq12]
  clear hw12 hq12
  refine (texts_is w12 w.heap.size pa ra ca 2 q12 3 [leR 98, leR 99, blR] [⟨#[98, 32]⟩, ⟨#[99, 32]⟩, ⟨#[32, 32]⟩] GA.out (by decide +kernel) (by decide +kernel) rfl (by decide) HL.out (by decide +kernel) (by decide +kernel)).mono ?_
  rintro e w13 ⟨rfl, bt⟩
  replace GA := Lib.hid (GA.out.below bt)
  replace GB := Lib.hid (GB.out.below bt)
  replace GC := Lib.hid (GC.out.below bt)
  replace RU := Lib.hid (RU.out.below bt)
  replace RD := Lib.hid (RD.out.below bt)
  replace HB := Lib.hid (HB.out.trans (bt.mono HB.out.size))
  clear bt
  clear HL
  obtain ⟨gd, cd, xd, yd, ed, d1, d2, d3, d4, d5⟩ := RD.out.two
  injection ed with ed1 ed2 ed3
  subst ed1 ed3
  clear ed2
  go_wp2_with fail
  refine (text_is w13 _ (leR 98) [98, 32] d3 (by decide +kernel) (by decide) (by decide +kernel)).mono ?_
  rintro e w14 ⟨rfl, bt⟩
  replace GA := Lib.hid (GA.out.below bt)
  replace GB := Lib.hid (GB.out.below bt)
  replace GC := Lib.hid (GC.out.below bt)
  replace RU := Lib.hid (RU.out.below bt)
  replace RD := Lib.hid (RD.out.below bt)
  replace HB := Lib.hid (HB.out.trans (bt.mono HB.out.size))
  clear bt
  clear d1 d2 d3 d4 d5
  obtain ⟨gd', cd', xd', yd', ed, d1, d2, d3, d4, d5⟩ := RD.out.two
  injection ed with ed1 ed2 ed3
  injection ed1 with ed1
  injection ed1 with ed1
  subst ed1 ed3
  clear ed2
  go_wp2_with fail
  refine (text_is w14 _ (leR 99) [99, 32] d4 (by decide +kernel) (by decide) (by decide +kernel)).mono ?_
  rintro e w15 ⟨rfl, bt⟩
  replace GA := Lib.hid (GA.out.below bt)
  replace GB := Lib.hid (GB.out.below bt)
  replace GC := Lib.hid (GC.out.below bt)
  replace RU := Lib.hid (RU.out.below bt)
  replace RD := Lib.hid (RD.out.below bt)
  replace HB := Lib.hid (HB.out.trans (bt.mono HB.out.size))
  clear bt
  clear d1 d2 d3 d4 d5
  obtain ⟨w16, hw16⟩ : ∃ X, X = w15.alloc (.cells #[.string ⟨#[97, 32]⟩, .string ⟨#[32, 32]⟩, .string ⟨#[32, 32]⟩] 9) := ⟨_, rfl⟩
  obtain ⟨q16, hq16⟩ : ∃ b, b = w15.heap.size := ⟨_, rfl⟩
  have HL := Lib.hid (show Lie w16 q16 ((([⟨#[97, 32]⟩, ⟨#[32, 32]⟩, ⟨#[32, 32]⟩] : List ByteArray)).map .string) by rw [hw16]; exact Lie.new w15 _ _ q16 hq16)
  have ba : Below w15.heap.size w15 w16 := by rw [hw16]; exact (Below.refl _ _).alloc (Nat.le_refl _) _
  replace GA := Lib.hid (GA.out.below ba)
  replace GB := Lib.hid (GB.out.below ba)
  replace GC := Lib.hid (GC.out.below ba)
  replace RU := Lib.hid (RU.out.below ba)
  replace RD := Lib.hid (RD.out.below ba)
  replace HB := Lib.hid (HB.out.trans (ba.mono HB.out.size))
  clear ba
  go_wp2_with fail
  rw [← hw16, ← hq16]
  clear hw16 hq16
  refine (texts_is w16 w.heap.size pb rb cb 2 q16 3 [leR 97, blR, blR] [⟨#[97, 32]⟩, ⟨#[32, 32]⟩, ⟨#[32, 32]⟩] GB.out (by decide +kernel) (by decide +kernel) rfl (by decide) HL.out (by decide +kernel) (by decide +kernel)).mono ?_
  rintro e w17 ⟨rfl, bt⟩
  replace GA := Lib.hid (GA.out.below bt)
  replace GB := Lib.hid (GB.out.below bt)
  replace GC := Lib.hid (GC.out.below bt)
  replace RU := Lib.hid (RU.out.below bt)
  replace RD := Lib.hid (RD.out.below bt)
  replace HB := Lib.hid (HB.out.trans (bt.mono HB.out.size))
  clear bt
  clear HL
  go_wp2_with fail
  refine (resize_is w17 w.heap.size pc rc cc 2 2 3 (leG 3) [leR 97 ++ [Cel.z], leR 98 ++ [Cel.z]] GC.out (by decide +kernel) HB.out.size (by decide +kernel) (by decide +kernel)).mono ?_
  rintro e w18 ⟨rfl, ⟨rc2, cc2, gc2, _⟩, bt⟩
  have GD := Lib.hid gc2
  replace HB := Lib.hid (HB.out.trans (bt.below (C := w.heap.size) (fun i hi => by have := NE.out; omega) HB.out.size))
  clear gc2 bt GA GB GC RU RD
  obtain ⟨w19, hw19⟩ : ∃ X, X = w18.alloc (.cells #[.string ⟨#[97, 32, 32]⟩, .string ⟨#[98, 32, 32]⟩] 9) := ⟨_, rfl⟩
  obtain ⟨q19, hq19⟩ : ∃ b, b = w18.heap.size := ⟨_, rfl⟩
  have HL := Lib.hid (show Lie w19 q19 ((([⟨#[97, 32, 32]⟩, ⟨#[98, 32, 32]⟩] : List ByteArray)).map .string) by rw [hw19]; exact Lie.new w18 _ _ q19 hq19)
  have ba : Below w18.heap.size w18 w19 := by rw [hw19]; exact (Below.refl _ _).alloc (Nat.le_refl _) _
  replace GD := Lib.hid (GD.out.below ba)
  replace HB := Lib.hid (HB.out.trans (ba.mono HB.out.size))
  clear ba
  go_wp2_with fail
  rw [← hw19, ← hq19]
  clear hw19 hq19
  refine (texts_is w19 w.heap.size pc rc2 cc2 3 q19 2 [leR 97 ++ [Cel.z], leR 98 ++ [Cel.z]] [⟨#[97, 32, 32]⟩, ⟨#[98, 32, 32]⟩] GD.out (by decide +kernel) (by decide +kernel) rfl (by decide) HL.out (by decide +kernel) (by decide +kernel)).mono ?_
  rintro e w20 ⟨rfl, bt⟩
  replace GD := Lib.hid (GD.out.below bt)
  replace HB := Lib.hid (HB.out.trans (bt.mono HB.out.size))
  clear bt
  clear HL
  go_wp2
  go_ret
  exact ⟨rfl, HB.out⟩
end Go.Proofs.YtdeahnphcfcfpaaGreat.Lab
