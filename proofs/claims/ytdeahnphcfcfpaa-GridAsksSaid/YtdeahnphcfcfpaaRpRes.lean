/- The project's Set. The project's Resize. -/
import Derived.Test.YtdeahnphcfcfpaaGdChAt
import Derived.Test.YtdeahnphcfcfpaaGdRenew
import Derived.Test.YtdeahnphcfcfpaaGrMath
namespace Go.Proofs.Ytdeahnphcfcfpaa.Lab
open Go Go.RowKit

theorem Below.undrewS {n : Nat} {a b : World} (h : Below n a.drew b) : Below n a b := ⟨h.os, h.tape, h.output, h.size, h.block⟩
set_option maxHeartbeats 4000000 in
set_option maxRecDepth 100000 in
theorem gset_yes (w : World) (lo p rb c k : Nat) (H : List Hd) (v : Value) (R : Cls) (h : GAt w lo p rb c H) (hlo : lo ≤ w.heap.size) (hk : k < H.length) (hv : RowIn w v R) (hR : R.length = (hdAt H 0).R.length) (h0 : 0 < R.length) (hl : R.length ≤ 1000) :
    Calls Try.prog 18 #[gV p, .int .i64 (k : Nat), v] w fun e w' => e = .returned (.bool true) ∧ (∃ x : Hd, x.R = R ∧ w.heap.size ≤ x.b ∧ GAt w' lo p rb c (H.set k x)) ∧ Buts (· = rb) w w' := by
  have hcs := size_any w lo p rb c H h (by omega)
  obtain ⟨n, hn⟩ : ∃ n, n = H.length := ⟨_, rfl⟩
  obtain ⟨m, hm⟩ : ∃ m, m = R.length := ⟨_, rfl⟩
  rw [← hR, ← hm, ← hn] at hcs
  have HCS := Lib.hid hcs
  have HPC0 := Lib.hid (show w.cell? ⟨p, 0, none⟩ = some (rV rb n c) by rw [hn]; exact h.cell)
  obtain ⟨y, hy⟩ : ∃ y, y = hdAt H k := ⟨_, rfl⟩
  have HCE0 := Lib.hid (show w.cell? ⟨rb, k, none⟩ = some (hdV y) by rw [hy]; exact h.head hk)
  have HFZ0 := Lib.hid (h.2.2.frozen rfl k)
  have HG := Lib.hid h
  have LT := Lib.hid h.lt
  have NP := Lib.hid h.ne
  have HLO := Lib.hid hlo
  have HV := Lib.hid hv
  have HPOS := Lib.hid h0
  have HLEN := Lib.hid (show R.length ≤ 10000 by omega)
  have HI := Lib.hid (show isInB (k : Nat) n = true by rw [isInB_nat, hn]; exact decide_eq_true hk)
  obtain ⟨va, vc, rfl⟩ := hv.shape
  rw [← hm] at HV ⊢
  have hkn : k < n := by omega
  have HM := Lib.hid hm
  clear h hlo hk hv hR h0 hl hn hm hy hcs
  go_enter Try.func18, Try.ntmps18
  go_wp2_with fail
  refine HCS.out.mono ?_
  rintro e w1 ⟨rfl, b1⟩
  have HB1 := Lib.hid b1
  have HPC := Lib.hid ((b1.cell (p := ⟨p, 0, none⟩) LT.out.1).trans HPC0.out)
  have HCE := Lib.hid ((b1.cell (p := ⟨rb, k, none⟩) LT.out.2.1).trans HCE0.out)
  have HFZ := Lib.hid ((b1.frozen (p := ⟨rb, k, none⟩) LT.out.2.1).trans HFZ0.out)
  have LP := Lib.hid (show p < w1.heap.size from Nat.lt_of_lt_of_le LT.out.1 b1.size)
  have LRB := Lib.hid (show rb < w1.heap.size from Nat.lt_of_lt_of_le LT.out.2.1 b1.size)
  have HROW := Lib.hid (show RowIn w1.drew (.slice va m vc) R from HV.out.below b1.drew)
  clear b1 HCS
  go_wp2_with fail
  refine (isIn_any w1 (k : Nat) n).mono ?_
  rintro e w' ⟨rfl, rfl⟩
  rw [HI.out]
  go_upto_region 4 with (fail)
  refine wp_region_held_drew (S := fun wx => wx.cell? ⟨p, 0, none⟩ = some (rV rb n c)) (by kernel_rfl) ?_ (fun hHeld => ?_)
  · exact HPC.out
  refine tk 0 rfl (fun w hSw => by (try dsimp only at hSw); go_simp; try with_reducible rfl) ?_
  go_frame
  refine tk 1 rfl (fun w hSw => by (try dsimp only at hSw); go_simp; try with_reducible rfl) ?_
  go_frame
  refine tk 2 rfl (fun w hSw => by (try dsimp only at hSw); go_simp; try with_reducible rfl) ?_
  go_frame
  refine tk 3 rfl (fun w hSw => by (try dsimp only at hSw); go_simp; try with_reducible rfl) ?_
  go_frame
  refine tk 4 rfl (fun w hSw => by (try dsimp only at hSw); go_simp; try with_reducible rfl) ?_
  go_frame
  refine tk 5 rfl (fun w hSw => by (try dsimp only at hSw); go_simp; try with_reducible rfl) ?_
  go_frame
  refine do_at (i := 6) rfl (by kernel_rfl) (by kernel_rfl) (fun K hK => ?_)
  go_simp
  refine (clone_any w1.drew _ R HROW.out HPOS.out HLEN.out).mono ?_
  rintro e w5 ⟨x5, rfl, hx5, hb5, own5, b5⟩
  have HOW := Lib.hid own5
  have HX5 := Lib.hid hx5
  have HB5 := Lib.hid b5
  have HXB := Lib.hid hb5
  clear own5 hx5 b5 hb5
  go_wp2_with fail
  refine hK.out _ _ ?_ (fun hHeld => ?_)
  · exact ((Below.undrewS HB5.out).cell (p := ⟨p, 0, none⟩) LP.out).trans HPC.out
  clear hK K
  try go_frame
  refine tk 7 rfl (fun w hSw => by (try dsimp only at hSw); go_simp; try with_reducible rfl) ?_
  go_frame
  refine do_at (i := 8) rfl (by kernel_rfl) (by kernel_rfl) (fun K hK => ?_)
  have hfz : w5.frozen? ⟨rb, k, none⟩ = false := ((Below.undrewS HB5.out).frozen (p := ⟨rb, k, none⟩) LRB.out).trans HFZ.out
  have hce : w5.cell? ⟨rb, k, none⟩ = some (hdV y) := ((Below.undrewS HB5.out).cell (p := ⟨rb, k, none⟩) LRB.out).trans HCE.out
  go_simp
  go_wp2_with fail
  refine hK.out _ _ ?_ (fun hHeld => ?_)
  · exact (World.cell?_setCell_other _ _ _ _ (fun e => NP.out (by injection e with e _ _; exact e.symm))).trans hHeld
  clear hK K
  try go_frame
  refine wpAnyH_done (by kernel_rfl) ?_ _
  go_wp2
  go_ret
  have hb := HB1.out.trans ((Below.undrewS HB5.out).mono HB1.out.size)
  refine ⟨rfl, ⟨x5, HX5.out, Nat.le_trans HB1.out.size HXB.out, ?_⟩, (Buts.of hb).trans (Buts.but (S := (· = rb)) (But.set w5 rb k _) rfl)⟩
  exact (HG.out.below hb).put k (HOW.out.lower (Nat.le_trans HLO.out HB1.out.size))
set_option maxHeartbeats 4000000 in
theorem gset_no (w : World) (pv : Value) (n m l cc : Nat) (k : Int) (a : Option Addr) (hs : SizeIs w pv n m) (hno : (isInB k n && decide (l = m)) = false) :
    Calls Try.prog 18 #[pv, .int .i64 k, .slice a l cc] w fun e w' => e = .returned (.bool false) ∧ Below w.heap.size w w' := by
  have HCS := Lib.hid (hs w (Below.refl _ _))
  have HNO := Lib.hid hno
  clear hs hno
  go_enter Try.func18, Try.ntmps18
  go_wp2_with fail
  refine HCS.out.mono ?_
  rintro e w1 ⟨rfl, b1⟩
  have HB1 := Lib.hid b1
  clear b1 HCS
  cases hi : isInB k n with
  | true =>
    have HI := Lib.hid hi
    have hlm : ¬ l = m := by have := HNO.out; rw [hi] at this; simpa using this
    clear hi
    go_wp2_with fail
    refine (isIn_any w1 k n).mono ?_
    rintro e w' ⟨rfl, rfl⟩
    rw [HI.out]
    go_wp2
    go_ret
    exact ⟨rfl, HB1.out⟩
  | false =>
    have HI := Lib.hid hi
    clear hi
    go_wp2_with fail
    refine (isIn_any w1 k n).mono ?_
    rintro e w' ⟨rfl, rfl⟩
    rw [HI.out]
    go_wp2
    go_ret
    exact ⟨rfl, HB1.out⟩

set_option maxHeartbeats 8000000 in
set_option maxRecDepth 100000 in
theorem resize_any (w : World) (v : Value) (R : Cls) (i : Int) (b : Cel) (h : RowIn w v R) (hw : Wh R) (hl : R.length ≤ 1000) (hi : -100000 < i ∧ i < 10000) : Calls Try.prog 66 #[v, .int .i64 i, celV b] w (OwnRes w (resizeM R i b)) := by
  obtain ⟨a, c, rfl⟩ := h.shape
  have HW := Lib.hid hw
  obtain ⟨N, hN⟩ : ∃ N, N = R.length := ⟨_, rfl⟩
  have HN := Lib.hid hN
  obtain ⟨w0, hw0⟩ : ∃ w0, w0 = w.alloc (.cells #[.int .i32 b.ru, .int .i32 b.m0, .int .i32 b.m1, .int .u8 b.k, .int .u8 b.a.fg.k, .int .u8 b.a.fg.r, .int .u8 b.a.fg.g, .int .u8 b.a.fg.b, .int .u8 b.a.bg.k, .int .u8 b.a.bg.r, .int .u8 b.a.bg.g, .int .u8 b.a.bg.b, .int .u16 (b.a.fl : Nat), .int .u8 b.l] 42) := ⟨_, rfl⟩
  obtain ⟨z, hz⟩ : ∃ z, z = w.heap.size := ⟨_, rfl⟩
  have b0 : Below w.heap.size w w0 := by rw [hw0]; exact (Below.refl _ _).alloc (Nat.le_refl _) _
  have HA0 := Lib.hid (show BAt w0 z b by rw [hw0, hz]; exact BAt.newAt w _ rfl b _)
  have HB0 := Lib.hid b0
  have HR0 := Lib.hid (h.below b0)
  rw [← hN] at HR0 hl ⊢
  obtain ⟨p, hp⟩ : ∃ p, p = inN i N := ⟨_, rfl⟩
  obtain ⟨x, hx⟩ : ∃ x, x = i - (p : Int) := ⟨_, rfl⟩
  have hpN : p ≤ N := by rw [hp]; exact inN_le _ _
  have HM := Lib.hid (show (breakM R i).take p ++ newM x.toNat b = resizeM R i b by rw [← resize_eq hw, ← hN, ← hp, hx])
  have CW1 := Lib.hid (show ∀ W, Calls Try.prog 85 #[.int .i64 i, .int .i64 (N : Nat)] W fun e w' => e = .returned (.int .i64 (p : Nat)) ∧ W = w' from fun W => by rw [hp]; exact within_any W i N)
  have HBL := Lib.hid (show (breakM R i).length = N by rw [len_breakM]; exact hN.symm)
  have s1 : IntKind.i64.wrap (i - (p : Int)) = x := by rw [IntKind.wrap_i64]; omega
  have HC2 := Lib.hid (show x ≤ 10000 ∧ -100000 ≤ x by unfold inN at hp; omega)
  have HI := Lib.hid hi
  have HPN := Lib.hid hpN
  have HL1 := Lib.hid hl
  clear h hw hN b0 hp hi hx hpN
  go_enter Try.func66, Try.ntmps66
  go_upto_region 1 with (fail)
  rw [← hw0, ← hz]
  clear hw0 hz
  go_wp2_with fail
  refine (CW1.out _).mono ?_
  rintro e0 wx ⟨rfl, rfl⟩
  clear CW1
  go_upto_region 2 with (fail)
  refine wp_region_held_drew (S := fun w' => w'.cell? ⟨z, 0, none⟩ = some (.int .i32 b.ru) ∧ w'.cell? ⟨z, 1, none⟩ = some (.int .i32 b.m0) ∧ w'.cell? ⟨z, 2, none⟩ = some (.int .i32 b.m1) ∧ w'.cell? ⟨z, 3, none⟩ = some (.int .u8 b.k) ∧ w'.cell? ⟨z, 4, none⟩ = some (.int .u8 b.a.fg.k) ∧ w'.cell? ⟨z, 5, none⟩ = some (.int .u8 b.a.fg.r) ∧ w'.cell? ⟨z, 6, none⟩ = some (.int .u8 b.a.fg.g) ∧ w'.cell? ⟨z, 7, none⟩ = some (.int .u8 b.a.fg.b) ∧ w'.cell? ⟨z, 8, none⟩ = some (.int .u8 b.a.bg.k) ∧ w'.cell? ⟨z, 9, none⟩ = some (.int .u8 b.a.bg.r) ∧ w'.cell? ⟨z, 10, none⟩ = some (.int .u8 b.a.bg.g) ∧ w'.cell? ⟨z, 11, none⟩ = some (.int .u8 b.a.bg.b) ∧ w'.cell? ⟨z, 12, none⟩ = some (.int .u16 (b.a.fl : Nat)) ∧ w'.cell? ⟨z, 13, none⟩ = some (.int .u8 b.l)) (by kernel_rfl) ?_ (fun hHeld => ?_)
  · exact HA0.out.2.1
  obtain ⟨u0, hu0⟩ : ∃ x, x = w0.drew := ⟨_, rfl⟩
  have bd : Below w0.heap.size w0 u0 := by rw [hu0]; exact ⟨rfl, rfl, rfl, Nat.le_refl _, fun _ _ => rfl⟩
  have HRu := Lib.hid (HR0.out.below bd)
  have HAu := Lib.hid (HA0.out.below bd)
  have HBu := Lib.hid (HB0.out.trans (bd.mono HB0.out.size))
  replace hHeld := HAu.out.2.1
  unfold D14 at hHeld
  rw [← hu0]
  clear hu0 bd HR0 HA0 HB0
  refine tk 0 rfl (fun w hSw => by (try dsimp only at hSw); go_simp; try with_reducible rfl) ?_
  go_frame
  refine tk 1 rfl (fun w hSw => by (try dsimp only at hSw); go_simp; try with_reducible rfl) ?_
  go_frame
  refine tk 4 rfl (fun w hSw => by (try dsimp only at hSw); go_simp; try with_reducible rfl) ?_
  go_frame
  refine tk 6 rfl (fun w hSw => by (try dsimp only at hSw); go_simp; try with_reducible rfl) ?_
  go_frame
  refine tk 7 rfl (fun w hSw => by (try dsimp only at hSw); go_simp; try with_reducible rfl) ?_
  go_frame
  refine tk 8 rfl (fun w hSw => by (try dsimp only at hSw); go_simp; try with_reducible rfl) ?_
  go_frame
  refine tk 9 rfl (fun w hSw => by (try dsimp only at hSw); go_simp; try with_reducible rfl) ?_
  go_frame
  refine do_at (i := 2) rfl (by kernel_rfl) (by kernel_rfl) (fun K hK => ?_)
  obtain ⟨w1, hw1⟩ : ∃ x, x = u0.alloc (.cells #[.int .i64 i] 3) := ⟨_, rfl⟩
  obtain ⟨s, hs⟩ : ∃ x, x = u0.heap.size := ⟨_, rfl⟩
  have bb : Below u0.heap.size u0 w1 := by rw [hw1]; exact (Below.refl _ _).alloc (Nat.le_refl _) _
  have HPS := Lib.hid (show PsAt w1 (.slice (some ⟨s, 0, none⟩) 1 1) [i] from ⟨s, 0, 1, rfl, by simp, by rw [hw1, hs]; simp, fun j hj => by
    obtain rfl : j = 0 := by simp at hj; omega
    · rw [hw1, hs]; simp
  , fun j hj => by
    obtain rfl : j = 0 := by simp at hj; omega
    · show (-100000 : Int) < i ∧ i < 100000
      have := HI.out; omega⟩)
  have HR1 := Lib.hid (HRu.out.below bb)
  have HA1 := Lib.hid (HAu.out.below bb)
  have HB1 := Lib.hid (HBu.out.trans (bb.mono HBu.out.size))
  clear bb HRu HAu HBu
  go_wp2_with fail
  rw [← hw1, ← hs]
  clear hw1 hs
  refine hK.out _ _ ?_ (fun hHeld => ?_)
  · exact HA1.out.2.1
  clear hK K
  try go_frame
  refine do_at (i := 3) rfl (by kernel_rfl) (by kernel_rfl) (fun K hK => ?_)
  go_wp2_with fail
  refine (break_any w1 (.slice a N c) R _ [i] HR1.out HW.out (by rw [← HN.out]; have := HL1.out; omega) HPS.out).mono ?_
  rintro e0 w2 ⟨g, c1, rfl, hc1, own1, hg1, hg2, b1⟩
  have own1' : CRow w2 w1.heap.size (.slice (some ⟨g, 0, none⟩) (breakM R i).length c1) (breakM R i) := own1
  have hc1' : (breakM R i).length ≤ c1 := hc1
  rw [HBL.out] at own1' hc1'
  have HO2 := Lib.hid own1'
  have HA2 := Lib.hid (HA1.out.below b1)
  have HB2 := Lib.hid (HB1.out.trans (b1.mono HB1.out.size))
  obtain ⟨k1, k1r⟩ := cut_to g N c1 p (by have := HPN.out; omega)
  have HP1 := Lib.hid (show ∀ w, RowIn w (.slice (some ⟨g, 0, none⟩) N c1) (breakM R i) → RowIn w (.slice (some ⟨g, 0, none⟩) p c1) ((breakM R i).take p) from fun w hr => k1r w _ hr (by rw [HBL.out]; exact HPN.out))
  clear own1 own1' hc1 hc1' hg1 hg2 b1 HR1 HA1 HB1 HPS k1r
  rw [show List.foldl breakM R [i] = breakM R i from rfl, HBL.out]
  go_wp2_with fail
  refine hK.out _ _ ?_ (fun hHeld => ?_)
  · exact HA2.out.2.1
  clear hK K
  try go_frame
  refine tk 5 rfl (fun w hSw => by (try dsimp only at hSw); go_simp; try with_reducible rfl) ?_
  go_frame
  refine do_at (i := 10) rfl (by kernel_rfl) (by kernel_rfl) (fun K hK => ?_)
  go_wp2_with fail
  refine (new_any _ x b HC2.out.1 HC2.out.2).mono ?_
  rintro e0 w3 ⟨v3, rfl, own3, b3⟩
  have HO3 := Lib.hid (HO2.out.below b3)
  have HA3 := Lib.hid (HA2.out.below b3)
  have HB3 := Lib.hid (HB2.out.trans (b3.mono HB2.out.size))
  obtain ⟨a3, c3, rfl⟩ := own3.shape
  obtain ⟨l3, hl3⟩ : ∃ l, l = (newM x.toNat b).length := ⟨_, rfl⟩
  have HL3 := Lib.hid hl3
  rw [← hl3] at own3 ⊢
  have HV3 := Lib.hid own3
  clear own3 b3 hl3 HO2 HA2 HB2
  go_wp2_with fail
  refine hK.out _ _ ?_ (fun hHeld => ?_)
  · exact HA3.out.2.1
  clear hK K
  try go_frame
  refine do_at (i := 11) rfl (by kernel_rfl) (by kernel_rfl) (fun K hK => ?_)
  obtain ⟨w4, hw4⟩ : ∃ y, y = w3.alloc (.cells #[.slice (some ⟨g, 0, none⟩) p c1, .slice a3 l3 c3] 26) := ⟨_, rfl⟩
  obtain ⟨s4, hs4⟩ : ∃ y, y = w3.heap.size := ⟨_, rfl⟩
  have bb : Below w3.heap.size w3 w4 := by rw [hw4]; exact (Below.refl _ _).alloc (Nat.le_refl _) _
  have HPP := Lib.hid (show RsAt w4 (.slice (some ⟨s4, 0, none⟩) 2 2) [(breakM R i).take p, newM x.toNat b] from ⟨s4, 0, 2, rfl, by simp, by rw [hw4, hs4]; simp, fun j hj => by
    rcases (show j = 0 ∨ j = 1 by simp at hj; omega) with rfl | rfl
    · exact ⟨.slice (some ⟨g, 0, none⟩) p c1, by rw [hw4, hs4]; simp, HP1.out _ (HO3.out.below bb).row⟩
    · exact ⟨.slice a3 l3 c3, by rw [hw4, hs4]; simp, (HV3.out.below bb).row⟩⟩)
  have HA4 := Lib.hid (HA3.out.below bb)
  have HB4 := Lib.hid (HB3.out.trans (bb.mono HB3.out.size))
  clear bb HO3 HV3 HA3 HB3 HP1
  go_wp2_with fail
  rw [← hw4, ← hs4]
  clear hw4 hs4
  refine hK.out _ _ ?_ (fun hHeld => ?_)
  · exact HA4.out.2.1
  clear hK K
  try go_frame
  refine do_at (i := 12) rfl (by kernel_rfl) (by kernel_rfl) (fun K hK => ?_)
  go_wp2_with fail
  refine (joined_any w4 _ [(breakM R i).take p, newM x.toNat b] HPP.out (fun j hj => by
    rcases (show j = 0 ∨ j = 1 by simp at hj; omega) with rfl | rfl
    all_goals (have := HL1.out; have := HBL.out; have := HC2.out; simp [newM]; omega))).mono ?_
  rintro e0 w5 ⟨v5, rfl, own5, b5⟩
  have HO5 := Lib.hid own5
  have HA5 := Lib.hid (HA4.out.below b5)
  have HB5 := Lib.hid (HB4.out.trans (b5.mono HB4.out.size))
  have HS5 := Lib.hid HB4.out.size
  clear own5 b5 HPP HA4 HB4
  go_wp2_with fail
  refine hK.out _ _ ?_ (fun hHeld => ?_)
  · exact HA5.out.2.1
  clear hK K
  try go_frame
  refine tk 13 rfl (fun w hSw => by (try dsimp only at hSw); go_simp; try with_reducible rfl) ?_
  go_frame
  refine wpAnyH_done (by kernel_rfl) ?_ _
  clear hHeld HA5
  have HF := Lib.hid (show CRow w5 w.heap.size v5 (resizeM R i b) by
    have e0 : [(breakM R i).take p, newM x.toNat b].flatten = resizeM R i b := by
      rw [← HM.out]
      simp
    rw [← e0]
    exact HO5.out.lower HS5.out)
  clear HO5
  go_wp2
  go_ret
  exact ⟨v5, rfl, HF.out, HB5.out⟩
end Go.Proofs.Ytdeahnphcfcfpaa.Lab
