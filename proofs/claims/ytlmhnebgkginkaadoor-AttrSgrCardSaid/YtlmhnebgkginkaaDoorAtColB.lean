/- The colour of the parameters behind. -/
import Derived.Test.YtlmhnebgkginkaaDoorAtMade
import Derived.Test.YtlmhnebgkginkaaDoorAtNums
namespace Go.Proofs.YtlmhnebgkginkaaDoor.Lab
open Go Go.RowKit

def ColorOut (w : World) (X : Nat → Prop) (B : Nat) (a : At) (L : Rws) (e : Ending) (w' : World) : Prop :=
  e = .returned (madeV (colorM L)) ∧ ∃ ad, RdAt w' B a (.slice ad (leftM L).length (leftM L).length) ∧ MatAt w' X (.slice ad (leftM L).length (leftM L).length) (leftM L) ∧ But B w w'
theorem needed_le (k : Int) : needed k ≤ 3 := by
  unfold needed
  split
  · decide
  · split <;> decide
set_option maxHeartbeats 1000000 in
set_option maxRecDepth 100000 in
theorem color_none (w : World) (X : Nat → Prop) (B : Nat) (at1 : At) (v : Value) (hXW : ∀ g, X g → g < w.heap.size) (hR : RdAt w B at1 v) (h : MatAt w X v []) (hX : ¬ X B) :
    Calls Tryd.prog 68 #[.pointer (some ⟨B, 0, none⟩)] w (ColorOut w X B at1 []) := by
  obtain ⟨ad, n, rfl⟩ := h.shape
  obtain ⟨w0, hw0⟩ : ∃ w0, w0 = w.alloc (.cells #[.int .u8 0, .int .u8 0, .int .u8 0, .int .u8 0] 23) := ⟨_, rfl⟩
  have b0 : Below w.heap.size w w0 := by rw [hw0]; exact (Below.refl _ _).alloc (Nat.le_refl _) _
  have HZ := Lib.hid (show ColAt w0 w.heap.size Cl.zero by rw [hw0]; exact ColAt.newAt w _ rfl Cl.zero _)
  have hBw : B < w.heap.size := hR.1.1
  have HB := Lib.hid (But.of (B := B) b0)
  have HM := Lib.hid (h.below b0)
  have HR := Lib.hid (hR.below b0)
  clear b0 hR h
  go_enter Tryd.func68, Tryd.ntmps68
  go_wp2_with fail
  rw [← hw0]
  clear hw0
  refine (next_any w0 X B at1 ad _ n 1 [] HR.out HM.out hX).mono ?_
  rintro e w1 ⟨a1, a2, rfl, M1, R1, M2, b1⟩
  replace HR := Lib.hid R1
  replace HM := Lib.hid M2
  replace HZ := Lib.hid (HZ.out.but b1 (by omega))
  replace HB := Lib.hid (HB.out.trans b1)
  have XW : ∀ g, X g → g ≠ w.heap.size := fun g hg e => by have := hXW g hg; omega
  have HC := Lib.hid (show colorM [] = madeM 0 (partsM partRow (([] : Rws).take (needed 0))) from rfl)
  have HLM := Lib.hid (show leftM [] = ([] : Rws).drop (needed 0) from rfl)
  replace HR := Lib.hid (show RdAt w1 B at1 (.slice a2 0 0) from R1)
  replace HM := Lib.hid (show MatAt w1 X (.slice a2 0 0) [] from M2)
  clear R1 M2 b1 M1
  go_wp2
  refine wp_loop_rounds 1 ?_
  rw [rounds_succ]
  go_wp2_with fail
  refine (needed_any 0 _).mono ?_
  rintro e wx ⟨rfl, rfl⟩
  obtain ⟨nk, hnk⟩ : ∃ nk, nk = needed 0 := ⟨_, rfl⟩
  rw [← hnk] at HC HLM ⊢
  have hnk3 : nk ≤ 3 := by rw [hnk]; exact needed_le _
  clear hnk
  go_wp2_with fail
  refine (next_any _ X B at1 a2 _ _ nk [] HR.out HM.out hX).mono ?_
  rintro e w3 ⟨a3, a4, rfl, M3, R3, M4, b3⟩
  obtain ⟨L3, hL3⟩ : ∃ L3, L3 = [].take nk := ⟨_, rfl⟩
  obtain ⟨L4, hL4⟩ : ∃ L4, L4 = [].drop nk := ⟨_, rfl⟩
  rw [← hL3] at M3 HC ⊢
  rw [← hL4] at R3 M4 HLM
  have hl3 : L3.length ≤ 1000 := by rw [hL3, List.length_take]; omega
  obtain ⟨m3, hm3⟩ : ∃ m3, m3 = L3.length := ⟨_, rfl⟩
  obtain ⟨m4, hm4⟩ : ∃ m4, m4 = L4.length := ⟨_, rfl⟩
  rw [← hm3] at M3 hl3 ⊢
  rw [← hm4] at R3 M4
  have HM4 := Lib.hid hm4
  have HL3 := Lib.hid hm3
  replace HR := Lib.hid R3
  replace HM := Lib.hid M4
  replace HZ := Lib.hid (HZ.out.but b3 (by omega))
  replace HB := Lib.hid (HB.out.trans b3)
  have HM3 := Lib.hid M3
  clear R3 M4 b3 M3 hL3 hL4 hm3 hm4
  go_wp2_with fail
  refine (parts_rows w3 X _ _ HM3.out (by rw [← HL3.out]; exact hl3)).mono ?_
  rintro e w4 ⟨vb, rfl, R1, b1⟩
  replace HZ := Lib.hid (HZ.out.below b1)
  replace HR := Lib.hid (HR.out.below b1)
  replace HM := Lib.hid (HM.out.below b1)
  replace HB := Lib.hid (HB.out.trans (But.of b1))
  obtain ⟨lb, hlb⟩ : ∃ lb, lb = partsM partRow L3 := ⟨_, rfl⟩
  rw [← hlb] at R1 HC
  have HR1 := Lib.hid R1
  obtain ⟨ba, bc, rfl⟩ := R1.shape
  obtain ⟨bm, hbm⟩ : ∃ bm, bm = lb.length := ⟨_, rfl⟩
  rw [← hbm] at HR1 ⊢
  clear R1 b1 HM3 hlb hbm
  go_wp2_with fail
  refine (made_any w4 _ 0 _ _ HR1.out).mono ?_
  rintro e w5 ⟨rfl, b2⟩
  rw [← HC.out]
  replace HZ := Lib.hid (HZ.out.below b2)
  replace HR := Lib.hid (HR.out.below b2)
  replace HM := Lib.hid (HM.out.below b2)
  replace HB := Lib.hid (HB.out.trans (But.of b2))
  clear b2 HR1
  obtain ⟨mc, hmc⟩ : ∃ mc, mc = colorM [] := ⟨_, rfl⟩
  have HMC := Lib.hid hmc
  rw [← hmc]
  clear hmc
  have HZ2 := Lib.hid (HZ.out.put (mc.getD Cl.zero))
  have b6 := putC_but w5 w.heap.size 0 (mc.getD Cl.zero)
  have b6h := putC_heap w5 w.heap.size 0 B (mc.getD Cl.zero) (by omega)
  have HRX := Lib.hid (HR.out.same (by rw [putC_size]; exact Nat.le_refl _) b6h)
  have HMX := Lib.hid (HM.out.keep (w' := putC w5 w.heap.size 0 (mc.getD Cl.zero)) (by rw [putC_size]; exact Nat.le_refl _) (fun g hg hl => putC_heap w5 w.heap.size 0 g _ (XW g hg)))
  have HBX := Lib.hid (show But B w (putC w5 w.heap.size 0 (mc.getD Cl.zero)) from ⟨b6.os.trans HB.out.os, b6.tape.trans HB.out.tape, b6.output.trans HB.out.output, Nat.le_trans HB.out.size b6.size, fun i hi hn => (b6.block i (Nat.lt_of_lt_of_le hi HB.out.size) (by simp; omega)).trans (HB.out.block i hi hn)⟩)
  clear HR HM HB b6 b6h
  obtain ⟨y0, ⟨y1, y2, y3, y4⟩, yf⟩ := HZ.out
  dsimp only at y1 y2 y3 y4
  go_wp2
  have Z := HZ2.out
  simp only [putC, Nat.zero_add] at Z HRX HMX HBX
  obtain ⟨z0, ⟨z1, z2, z3, z4⟩, zf⟩ := Z
  exact bodyPost_ret (v := .tuple #[colV (mc.getD Cl.zero), .bool mc.isSome]) (by simp [results, Tryd.results68, go_sem, z1, z2, z3, z4]) rfl ⟨by rw [← HMC.out], a4, by rw [HLM.out, ← HM4.out]; exact HRX.out, by rw [HLM.out, ← HM4.out]; exact HMX.out, HBX.out⟩
set_option maxHeartbeats 1000000 in
set_option maxRecDepth 100000 in
theorem color_some (w : World) (X : Nat → Prop) (B : Nat) (at1 : At) (v : Value) (row : List Int) (t : Rws) (hXW : ∀ g, X g → g < w.heap.size) (hR : RdAt w B at1 v) (h : MatAt w X v (row :: t)) (hX : ¬ X B) :
    Calls Tryd.prog 68 #[.pointer (some ⟨B, 0, none⟩)] w (ColorOut w X B at1 (row :: t)) := by
  obtain ⟨ad, n, rfl⟩ := h.shape
  obtain ⟨w0, hw0⟩ : ∃ w0, w0 = w.alloc (.cells #[.int .u8 0, .int .u8 0, .int .u8 0, .int .u8 0] 23) := ⟨_, rfl⟩
  have b0 : Below w.heap.size w w0 := by rw [hw0]; exact (Below.refl _ _).alloc (Nat.le_refl _) _
  have HZ := Lib.hid (show ColAt w0 w.heap.size Cl.zero by rw [hw0]; exact ColAt.newAt w _ rfl Cl.zero _)
  have hBw : B < w.heap.size := hR.1.1
  have HB := Lib.hid (But.of (B := B) b0)
  have HM := Lib.hid (h.below b0)
  have HR := Lib.hid (hR.below b0)
  clear b0 hR h
  go_enter Tryd.func68, Tryd.ntmps68
  go_wp2_with fail
  rw [← hw0]
  clear hw0
  refine (next_any w0 X B at1 ad _ n 1 (row :: t) HR.out HM.out hX).mono ?_
  rintro e w1 ⟨a1, a2, rfl, M1, R1, M2, b1⟩
  replace HR := Lib.hid R1
  replace HM := Lib.hid M2
  replace HZ := Lib.hid (HZ.out.but b1 (by omega))
  replace HB := Lib.hid (HB.out.trans b1)
  have XW : ∀ g, X g → g ≠ w.heap.size := fun g hg e => by have := hXW g hg; omega
  obtain ⟨g, o, c2, e2, _, _, _, hg, hcell⟩ := M1.open (by simp)
  obtain ⟨x, hx, hrow⟩ := hcell 0 (by simp)
  have hrow' : NumsAt w1 X x row := hrow
  have a0 : w1.cell? ⟨g, o, none⟩ = some x := hx
  injection e2 with e2 e3 e4
  subst e2
  have C := Lib.hid (show Calls Tryd.prog 52 #[x] w1 fun e w' => e = .returned (.tuple #[.int .i64 ((onlyM row).getD 0), .bool (onlyM row).isSome]) ∧ Below w1.heap.size w1 w' from only_any w1 X x row hrow')
  obtain ⟨K, hK⟩ : ∃ K, K = (onlyM row).getD 0 := ⟨_, rfl⟩
  have HC := Lib.hid (show colorM (row :: t) = madeM K (partsM partRow (t.take (needed K))) by rw [hK]; rfl)
  have HLM := Lib.hid (show leftM (row :: t) = t.drop (needed K) by rw [hK]; rfl)
  replace HR := Lib.hid (show RdAt w1 B at1 (.slice a2 t.length t.length) from R1)
  replace HM := Lib.hid (show MatAt w1 X (.slice a2 t.length t.length) t from M2)
  obtain ⟨tn, htn⟩ : ∃ tn, tn = t.length := ⟨_, rfl⟩
  rw [← htn] at HR HM
  clear htn
  rw [← hK] at C
  clear hK hrow hrow' hcell hx e3 e4 R1 M2 b1 M1
  have hone : ((row :: t).take 1).length = 1 := rfl
  rw [hone]
  clear hone
  go_wp2
  refine wp_loop_rounds 2 ?_
  rw [rounds_succ]
  go_wp2_with fail
  refine C.out.mono ?_
  rintro e w2 ⟨rfl, b2⟩
  replace HR := Lib.hid (HR.out.below b2)
  replace HM := Lib.hid (HM.out.below b2)
  replace HZ := Lib.hid (HZ.out.below b2)
  replace HB := Lib.hid (HB.out.trans (But.of b2))
  clear b2 C a0
  go_wp2
  rw [rounds_succ]
  go_wp2_with fail
  refine (needed_any K _).mono ?_
  rintro e wx ⟨rfl, rfl⟩
  obtain ⟨nk, hnk⟩ : ∃ nk, nk = needed K := ⟨_, rfl⟩
  rw [← hnk] at HC HLM ⊢
  have hnk3 : nk ≤ 3 := by rw [hnk]; exact needed_le _
  clear hnk
  go_wp2_with fail
  refine (next_any _ X B at1 a2 _ _ nk t HR.out HM.out hX).mono ?_
  rintro e w3 ⟨a3, a4, rfl, M3, R3, M4, b3⟩
  obtain ⟨L3, hL3⟩ : ∃ L3, L3 = t.take nk := ⟨_, rfl⟩
  obtain ⟨L4, hL4⟩ : ∃ L4, L4 = t.drop nk := ⟨_, rfl⟩
  rw [← hL3] at M3 HC ⊢
  rw [← hL4] at R3 M4 HLM
  have hl3 : L3.length ≤ 1000 := by rw [hL3, List.length_take]; omega
  obtain ⟨m3, hm3⟩ : ∃ m3, m3 = L3.length := ⟨_, rfl⟩
  obtain ⟨m4, hm4⟩ : ∃ m4, m4 = L4.length := ⟨_, rfl⟩
  rw [← hm3] at M3 hl3 ⊢
  rw [← hm4] at R3 M4
  have HM4 := Lib.hid hm4
  have HL3 := Lib.hid hm3
  replace HR := Lib.hid R3
  replace HM := Lib.hid M4
  replace HZ := Lib.hid (HZ.out.but b3 (by omega))
  replace HB := Lib.hid (HB.out.trans b3)
  have HM3 := Lib.hid M3
  clear R3 M4 b3 M3 hL3 hL4 hm3 hm4
  go_wp2_with fail
  refine (parts_rows w3 X _ _ HM3.out (by rw [← HL3.out]; exact hl3)).mono ?_
  rintro e w4 ⟨vb, rfl, R1, b1⟩
  replace HZ := Lib.hid (HZ.out.below b1)
  replace HR := Lib.hid (HR.out.below b1)
  replace HM := Lib.hid (HM.out.below b1)
  replace HB := Lib.hid (HB.out.trans (But.of b1))
  obtain ⟨lb, hlb⟩ : ∃ lb, lb = partsM partRow L3 := ⟨_, rfl⟩
  rw [← hlb] at R1 HC
  have HR1 := Lib.hid R1
  obtain ⟨ba, bc, rfl⟩ := R1.shape
  obtain ⟨bm, hbm⟩ : ∃ bm, bm = lb.length := ⟨_, rfl⟩
  rw [← hbm] at HR1 ⊢
  clear R1 b1 HM3 hlb hbm
  go_wp2_with fail
  refine (made_any w4 _ K _ _ HR1.out).mono ?_
  rintro e w5 ⟨rfl, b2⟩
  rw [← HC.out]
  replace HZ := Lib.hid (HZ.out.below b2)
  replace HR := Lib.hid (HR.out.below b2)
  replace HM := Lib.hid (HM.out.below b2)
  replace HB := Lib.hid (HB.out.trans (But.of b2))
  clear b2 HR1
  obtain ⟨mc, hmc⟩ : ∃ mc, mc = colorM (row :: t) := ⟨_, rfl⟩
  have HMC := Lib.hid hmc
  rw [← hmc]
  clear hmc
  have HZ2 := Lib.hid (HZ.out.put (mc.getD Cl.zero))
  have b6 := putC_but w5 w.heap.size 0 (mc.getD Cl.zero)
  have b6h := putC_heap w5 w.heap.size 0 B (mc.getD Cl.zero) (by omega)
  have HRX := Lib.hid (HR.out.same (by rw [putC_size]; exact Nat.le_refl _) b6h)
  have HMX := Lib.hid (HM.out.keep (w' := putC w5 w.heap.size 0 (mc.getD Cl.zero)) (by rw [putC_size]; exact Nat.le_refl _) (fun g hg hl => putC_heap w5 w.heap.size 0 g _ (XW g hg)))
  have HBX := Lib.hid (show But B w (putC w5 w.heap.size 0 (mc.getD Cl.zero)) from ⟨b6.os.trans HB.out.os, b6.tape.trans HB.out.tape, b6.output.trans HB.out.output, Nat.le_trans HB.out.size b6.size, fun i hi hn => (b6.block i (Nat.lt_of_lt_of_le hi HB.out.size) (by simp; omega)).trans (HB.out.block i hi hn)⟩)
  clear HR HM HB b6 b6h
  obtain ⟨y0, ⟨y1, y2, y3, y4⟩, yf⟩ := HZ.out
  dsimp only at y1 y2 y3 y4
  go_wp2
  have Z := HZ2.out
  simp only [putC, Nat.zero_add] at Z HRX HMX HBX
  obtain ⟨z0, ⟨z1, z2, z3, z4⟩, zf⟩ := Z
  exact bodyPost_ret (v := .tuple #[colV (mc.getD Cl.zero), .bool mc.isSome]) (by simp [results, Tryd.results68, go_sem, z1, z2, z3, z4]) rfl ⟨by rw [← HMC.out], a4, by rw [HLM.out, ← HM4.out]; exact HRX.out, by rw [HLM.out, ← HM4.out]; exact HMX.out, HBX.out⟩
theorem color_any (w : World) (X : Nat → Prop) (B : Nat) (at1 : At) (v : Value) (L : Rws) (hXW : ∀ g, X g → g < w.heap.size) (hR : RdAt w B at1 v) (h : MatAt w X v L) (hX : ¬ X B) :
    Calls Tryd.prog 68 #[.pointer (some ⟨B, 0, none⟩)] w (ColorOut w X B at1 L) := by
  cases L with
  | nil => exact color_none w X B at1 v hXW hR h hX
  | cons row t => exact color_some w X B at1 v row t hXW hR h hX
end Go.Proofs.YtlmhnebgkginkaaDoor.Lab
