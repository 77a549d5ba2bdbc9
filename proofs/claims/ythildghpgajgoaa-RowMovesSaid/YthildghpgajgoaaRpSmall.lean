/- The project's rows: within, half, rightOf, Blank, anew, isWide. -/
import Derived.Test.YthildghpgajgoaaRpMem
namespace Go.Proofs.Ythildghpgajgoaa.Lab
open Go Go.RowKit

theorem within_any (w : World) (n : Int) (most : Nat) : Calls Try.prog 33 #[.int .i64 n, .int .i64 (most : Nat)] w fun e w' => e = .returned (.int .i64 (inN n most : Nat)) ∧ w = w' := by
  by_cases h0 : 0 < n
  · have g1 : ¬ n ≤ 0 := by omega
    by_cases h1 : (most : Int) < n
    · have g2 : ¬ n ≤ (most : Int) := by omega
      have HE := Lib.hid (show ((inN n most : Nat) : Int) = (most : Int) by unfold inN; omega)
      go_enter Try.func33, Try.ntmps33
      go_wp2
      go_ret
      exact ⟨by rw [HE.out]; rfl, rfl⟩
    · have g2 : n ≤ (most : Int) := by omega
      have HE := Lib.hid (show ((inN n most : Nat) : Int) = n by unfold inN; omega)
      go_enter Try.func33, Try.ntmps33
      go_wp2
      go_ret
      exact ⟨by rw [HE.out]; rfl, rfl⟩
  · have g2 : ¬ (most : Int) < 0 := by omega
    have g3 : (0 : Int) ≤ (most : Int) := by omega
    have HE := Lib.hid (show ((inN n most : Nat) : Int) = 0 by unfold inN; omega)
    by_cases hz : n = 0
    · subst hz
      go_enter Try.func33, Try.ntmps33
      go_wp2
      go_ret
      exact ⟨by rw [HE.out]; rfl, rfl⟩
    · have g1 : n ≤ 0 := by omega
      have g4 : ¬ 0 ≤ n := by omega
      clear h0 hz
      go_enter Try.func33, Try.ntmps33
      go_wp2
      go_ret
      exact ⟨by rw [HE.out]; rfl, rfl⟩
set_option maxHeartbeats 4000000 in
theorem half_any (w : World) (c : Cel) : Calls Try.prog 39 #[celV c] w fun e w' => e = .returned (celV c.bare) ∧ Below w.heap.size w w' := by
  obtain ⟨w0, hw0⟩ : ∃ w0, w0 = (w.alloc (.cells #[.int .i32 c.ru, .int .i32 c.m0, .int .i32 c.m1, .int .u8 c.k, .int .u8 c.a.fg.k, .int .u8 c.a.fg.r, .int .u8 c.a.fg.g, .int .u8 c.a.fg.b, .int .u8 c.a.bg.k, .int .u8 c.a.bg.r, .int .u8 c.a.bg.g, .int .u8 c.a.bg.b, .int .u16 (c.a.fl : Nat), .int .u8 c.l] 44)).alloc (.cells #[.int .i32 0, .int .i32 0, .int .i32 0, .int .u8 0, .int .u8 0, .int .u8 0, .int .u8 0, .int .u8 0, .int .u8 0, .int .u8 0, .int .u8 0, .int .u8 0, .int .u16 0, .int .u8 0] 44) := ⟨_, rfl⟩
  have b0 : Below w.heap.size w w0 := by rw [hw0]; exact ((Below.refl _ _).alloc (Nat.le_refl _) _).alloc (by simp) _
  have HA := Lib.hid (show BAt w0 w.heap.size c by rw [hw0]; exact (BAt.newAt w _ rfl c _).past _)
  have HZ := Lib.hid (show BAt w0 (w.heap.size + 1) Cel.z by rw [hw0]; exact BAt.newAt _ _ (by simp) Cel.z _)
  obtain ⟨wq, hwq⟩ : ∃ wq, wq = put14 w0 (w.heap.size + 1) 0 c.bare := ⟨_, rfl⟩
  have Z := Lib.hid (show BAt wq (w.heap.size + 1) c.bare by rw [hwq]; exact HZ.out.put _)
  have HB := Lib.hid (show Below w.heap.size w wq by rw [hwq]; exact b0.trans ((put14_but w0 (w.heap.size + 1) 0 c.bare).below (C := w.heap.size) (by omega) b0.size))
  replace hwq : wq = (((((((((((((w0.setCell ⟨w.heap.size + 1, 0, none⟩ (.int .i32 0)).setCell ⟨w.heap.size + 1, 1, none⟩ (.int .i32 0)).setCell ⟨w.heap.size + 1, 2, none⟩ (.int .i32 0)).setCell ⟨w.heap.size + 1, 3, none⟩ (.int .u8 0)).setCell ⟨w.heap.size + 1, 4, none⟩ (.int .u8 c.a.fg.k)).setCell ⟨w.heap.size + 1, 5, none⟩ (.int .u8 c.a.fg.r)).setCell ⟨w.heap.size + 1, 6, none⟩ (.int .u8 c.a.fg.g)).setCell ⟨w.heap.size + 1, 7, none⟩ (.int .u8 c.a.fg.b)).setCell ⟨w.heap.size + 1, 8, none⟩ (.int .u8 c.a.bg.k)).setCell ⟨w.heap.size + 1, 9, none⟩ (.int .u8 c.a.bg.r)).setCell ⟨w.heap.size + 1, 10, none⟩ (.int .u8 c.a.bg.g)).setCell ⟨w.heap.size + 1, 11, none⟩ (.int .u8 c.a.bg.b)).setCell ⟨w.heap.size + 1, 12, none⟩ (.int .u16 (c.a.fl : Nat))).setCell ⟨w.heap.size + 1, 13, none⟩ (.int .u8 c.l) := hwq
  clear b0
  go_enter Try.func39, Try.ntmps39
  go_upto_region 1 with (fail)
  rw [← hw0]
  clear hw0
  obtain ⟨_, ⟨y0, y1, y2, y3, y4, y5, y6, y7, y8, y9, y10, y11, y12, y13⟩, _⟩ := HA.out
  obtain ⟨_, ⟨z0, z1, z2, z3, z4, z5, z6, z7, z8, z9, z10, z11, z12, z13⟩, zf⟩ := HZ.out
  dsimp only at z0 z1 z2 z3 z4 z5 z6 z7 z8 z9 z10 z11 z12 z13
  go_wp2
  rw [← hwq]
  clear hwq y0 y1 y2 y3 y4 y5 y6 y7 y8 y9 y10 y11 y12 y13 z0 z1 z2 z3 z4 z5 z6 z7 z8 z9 z10 z11 z12 z13 zf
  obtain ⟨_, ⟨k0, k1, k2, k3, k4, k5, k6, k7, k8, k9, k10, k11, k12, k13⟩, _⟩ := Z.out
  dsimp only [Cel.bare] at k0 k1 k2 k3 k4 k5 k6 k7 k8 k9 k10 k11 k12 k13
  exact bodyPost_ret (v := celV c.bare) (by simp [results, Try.results39, go_sem, Cel.bare, k0, k1, k2, k3, k4, k5, k6, k7, k8, k9, k10, k11, k12, k13]) rfl ⟨rfl, HB.out⟩
/-- A new row of the call's own. -/
def NewRow (w : World) (R : Cls) (e : Ending) (w' : World) : Prop := ∃ g c, e = .returned (.slice (some ⟨g, 0, none⟩) R.length c) ∧ R.length ≤ c ∧ CRow w' w.heap.size (.slice (some ⟨g, 0, none⟩) R.length c) R ∧ w.heap.size ≤ g ∧ g < w'.heap.size ∧ Below w.heap.size w w'
set_option maxHeartbeats 1000000 in
set_option maxRecDepth 100000 in
theorem anew_any (w : World) (v : Value) (R : Cls) (h : RowIn w v R) (hl : R.length ≤ 10000) : Calls Try.prog 36 #[v] w (NewRow w R) := by
  obtain ⟨a, c, rfl⟩ := h.shape
  have HR := Lib.hid h
  obtain ⟨n, hn⟩ : ∃ n, n = R.length := ⟨_, rfl⟩
  have HN := Lib.hid hn
  rw [← hn] at HR hl ⊢
  clear h hn
  go_enter Try.func36, Try.ntmps36
  go_wp2_with (refine wpList_make_cells rfl (.tmp 5) (.tmp 5) rfl n rfl rfl hl ?_)
  intro g w1 own1 b1 hg1 hg2
  have HO := Lib.hid own1
  have HB := Lib.hid b1
  have HG := Lib.hid (show w.heap.size ≤ g ∧ g < w1.heap.size from ⟨hg1, hg2⟩)
  have HR1 := Lib.hid (HR.out.below b1)
  have HL := Lib.hid (show n = (List.replicate n Cel.z).length by rw [List.length_replicate])
  clear own1 b1 hg1 hg2 HR
  go_wp2_with (refine wpList_copy_cells rfl (.tmp 7) (.tmp 8) rfl w.heap.size g n n (List.replicate n Cel.z) HO.out HL.out (.slice a n c) R rfl HR1.out 0 n n (some ⟨g, 0, none⟩) rfl (by rw [List.length_replicate, ← HN.out, Nat.zero_add]; exact Nat.le_refl _) (by rw [← HN.out]; exact Nat.le_refl _) (fun _ => rfl) ?_)
  intro w2 own2 but2
  have HO2 := Lib.hid (show CRow w2 w.heap.size (.slice (some ⟨g, 0, none⟩) n n) R by rw [place_all _ _ (by rw [List.length_replicate]; exact HN.out.symm)] at own2; exact own2)
  have HB2 := Lib.hid (HB.out.trans (but2.below HG.out.1 HB.out.size))
  have HG2 := Lib.hid (show w.heap.size ≤ g ∧ g < w2.heap.size from ⟨HG.out.1, Nat.lt_of_lt_of_le HG.out.2 but2.size⟩)
  clear own2 but2 HO HB HG HR1 HL
  go_wp2
  go_ret
  exact ⟨g, n, by rw [← HN.out]; rfl, by rw [← HN.out]; exact Nat.le_refl _, by rw [← HN.out]; exact HO2.out, HG2.out.1, HG2.out.2, HB2.out⟩
end Go.Proofs.Ythildghpgajgoaa.Lab
