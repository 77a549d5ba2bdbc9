/- The Go law AttrOne: a number alone. -/
import Derived.Test.YtlmhnebgkginkaaDoorAtOneM
import Derived.Test.YtlmhnebgkginkaaDoorAtWorks
import Derived.Test.YtlmhnebgkginkaaDoorAtDraft
import Derived.Deep.CutBlock
import Derived.Deep.DeepCutAuto
namespace Go.Proofs.YtlmhnebgkginkaaDoor.Lab
open Go Go.RowKit

set_option maxHeartbeats 8000000 in
set_option maxRecDepth 100000 in
theorem one_law (w : World) (d : Dr) (hd : d.ok) (n : Nat) (hn : n < 256) (hP : Pow w) : Calls Tryd.prog 7 #[drV d, .int .u8 (n : Nat)] w fun e w' => e = .returned (.bool true) ∧ Below w.heap.size w w' := by
  obtain ⟨w1, hw1⟩ : ∃ w1, w1 = w.alloc (.cells #[.int .u16 (d.fl : Nat), .int .u8 (d.k : Nat), .int .u8 (d.f0 : Nat), .int .u8 (d.f1 : Nat), .int .u8 (d.f2 : Nat), .int .u8 (d.b0 : Nat), .int .u8 (d.b1 : Nat), .int .u8 (d.b2 : Nat)] 39) := ⟨_, rfl⟩
  have b1 : Below w.heap.size w w1 := by rw [hw1]; exact (Below.refl _ _).alloc (Nat.le_refl _) _
  have hsz : w.heap.size < w1.heap.size := by rw [hw1]; simp
  have HS := Lib.hid (show w1.cell? ⟨w.heap.size, 0, none⟩ = some (.int .u16 (d.fl : Nat)) ∧ w1.cell? ⟨w.heap.size, 1, none⟩ = some (.int .u8 (d.k : Nat)) ∧ w1.cell? ⟨w.heap.size, 2, none⟩ = some (.int .u8 (d.f0 : Nat)) ∧ w1.cell? ⟨w.heap.size, 3, none⟩ = some (.int .u8 (d.f1 : Nat)) ∧ w1.cell? ⟨w.heap.size, 4, none⟩ = some (.int .u8 (d.f2 : Nat)) ∧ w1.cell? ⟨w.heap.size, 5, none⟩ = some (.int .u8 (d.b0 : Nat)) ∧ w1.cell? ⟨w.heap.size, 6, none⟩ = some (.int .u8 (d.b1 : Nat)) ∧ w1.cell? ⟨w.heap.size, 7, none⟩ = some (.int .u8 (d.b2 : Nat)) by
    rw [hw1]
    exact ⟨by simp, by simp, by simp, by simp, by simp, by simp, by simp, by simp⟩)
  have HKD := Lib.hid (show ∀ W : World, Below w1.heap.size w1 W → W.cell? ⟨w.heap.size, 0, none⟩ = some (.int .u16 (d.fl : Nat)) ∧ W.cell? ⟨w.heap.size, 1, none⟩ = some (.int .u8 (d.k : Nat)) ∧ W.cell? ⟨w.heap.size, 2, none⟩ = some (.int .u8 (d.f0 : Nat)) ∧ W.cell? ⟨w.heap.size, 3, none⟩ = some (.int .u8 (d.f1 : Nat)) ∧ W.cell? ⟨w.heap.size, 4, none⟩ = some (.int .u8 (d.f2 : Nat)) ∧ W.cell? ⟨w.heap.size, 5, none⟩ = some (.int .u8 (d.b0 : Nat)) ∧ W.cell? ⟨w.heap.size, 6, none⟩ = some (.int .u8 (d.b1 : Nat)) ∧ W.cell? ⟨w.heap.size, 7, none⟩ = some (.int .u8 (d.b2 : Nat)) from fun W hb => by
    obtain ⟨s0, s1, s2, s3, s4, s5, s6, s7⟩ := HS.out
    exact ⟨(hb.cell (p := ⟨w.heap.size, 0, none⟩) hsz).trans s0, (hb.cell (p := ⟨w.heap.size, 1, none⟩) hsz).trans s1, (hb.cell (p := ⟨w.heap.size, 2, none⟩) hsz).trans s2, (hb.cell (p := ⟨w.heap.size, 3, none⟩) hsz).trans s3, (hb.cell (p := ⟨w.heap.size, 4, none⟩) hsz).trans s4, (hb.cell (p := ⟨w.heap.size, 5, none⟩) hsz).trans s5, (hb.cell (p := ⟨w.heap.size, 6, none⟩) hsz).trans s6, (hb.cell (p := ⟨w.heap.size, 7, none⟩) hsz).trans s7⟩)
  have HB1 := Lib.hid b1
  have HP1 := Lib.hid (hP.on b1)
  obtain ⟨a, ha⟩ : ∃ a, a = dAt d := ⟨_, rfl⟩
  have HOA := Lib.hid (show a.ok by rw [ha]; exact dAt_ok hd)
  have C1 := Lib.hid (show ∀ W, Calls Tryd.prog 18 #[drV d] W fun e w' => e = .returned (attV a) ∧ Below W.heap.size W w' from fun W => by rw [ha]; exact draft_any W d hd)
  obtain ⟨b, hb⟩ : ∃ b, b = simpleM a n := ⟨_, rfl⟩
  have HOB := Lib.hid (show b.ok by rw [hb]; exact simpleM_ok HOA.out n)
  have HBE := Lib.hid hb
  have CA := Lib.hid (show ∀ (W : World) (v : Value), MatAt W (fun _ => True) v [[(n : Int)]] → Calls Tryd.prog 12 #[attV a, v] W fun e w' => e = .returned (attV b) ∧ Below W.heap.size W w' from fun W v h => by
    have := sgr_any W _ v [[(n : Int)]] a HOA.out (rowsI_one n hn) h
    rw [one_sgr, ← hb] at this
    exact this)
  have CB := Lib.hid (show ∀ (W : World) (v : Value), MatAt W (fun _ => True) v [[(n : Int)]] → Calls Tryd.prog 12 #[attV b, v] W fun e w' => e = .returned (attV b) ∧ Below W.heap.size W w' from fun W v h => by
    have := sgr_any W _ v [[(n : Int)]] b HOB.out (rowsI_one n hn) h
    rw [one_sgr, hb, simple_twice a HOA.out.2.2, ← hb] at this
    exact this)
  have en : IntKind.i64.wrap (n : Int) = (n : Int) := by rw [IntKind.wrap_i64]; omega
  clear ha hb b1 hsz hd hP HS
  go_enter Tryd.func7, Tryd.ntmps7
  go_wp2_with fail
  rw [← hw1]
  clear hw1
  refine (works_any w1 HP1.out).mono ?_
  rintro e w2 ⟨rfl, b2⟩
  have HW2 := Lib.hid b2
  clear b2 HP1
  obtain ⟨s0, s1, s2, s3, s4, s5, s6, s7⟩ := HKD.out _ HW2.out
  go_wp2_with fail
  refine (C1.out _).mono ?_
  rintro e w3 ⟨rfl, b3⟩
  have HW3 := Lib.hid (HW2.out.trans (b3.mono HW2.out.size))
  clear b3 HW2 s0 s1 s2 s3 s4 s5 s6 s7 HKD C1
  obtain ⟨w4, hw4⟩ : ∃ w4, w4 = w3.alloc (.cells #[.int .u8 a.fg.k, .int .u8 a.fg.r, .int .u8 a.fg.g, .int .u8 a.fg.b, .int .u8 a.bg.k, .int .u8 a.bg.r, .int .u8 a.bg.g, .int .u8 a.bg.b, .int .u16 (a.fl : Nat)] 26) := ⟨_, rfl⟩
  obtain ⟨z, hz⟩ : ∃ z, z = w3.heap.size := ⟨_, rfl⟩
  have HA4 := Lib.hid (show AtAt w4 z a by rw [hw4, hz]; exact AtAt.newAt w3 _ rfl a _)
  have HW4 := Lib.hid (show Below w1.heap.size w1 w4 by rw [hw4]; exact HW3.out.trans (((Below.refl _ _).alloc (Nat.le_refl _) _).mono HW3.out.size))
  go_upto_region 4 with (fail)
  rw [← hw4, ← hz]
  clear hw4 hz HW3
  obtain ⟨_, ⟨y1, y2, y3, y4, y5, y6, y7, y8, y9⟩, yf⟩ := HA4.out
  obtain ⟨w5, hw5⟩ : ∃ w5, w5 = w4.alloc (.cells #[.int .i64 (n : Nat)] 3) := ⟨_, rfl⟩
  obtain ⟨w6, hw6⟩ : ∃ w6, w6 = w5.alloc (.cells #[.slice (some ⟨w4.heap.size, 0, none⟩) 1 1] 50) := ⟨_, rfl⟩
  have HM6 := Lib.hid (mat_one hw5 hw6)
  have hs5 : w5.heap.size = w4.heap.size + 1 := by rw [hw5]; simp
  rw [hs5] at HM6
  have b6 : Below w4.heap.size w4 w6 := by rw [hw6, hw5]; exact ((Below.refl _ _).alloc (Nat.le_refl _) _).alloc (by simp) _
  have HA6 := Lib.hid (HA4.out.below b6)
  have HW6 := Lib.hid (HW4.out.trans (b6.mono HW4.out.size))
  go_wp2_with fail
  rw [← hw5, ← hw6]
  clear hw5 hw6 hs5 b6 HA4 HW4 y1 y2 y3 y4 y5 y6 y7 y8 y9 yf
  refine (CA.out _ _ HM6.out).mono ?_
  rintro e w7 ⟨rfl, b7⟩
  have HA7 := Lib.hid (HA6.out.below b7)
  have HW7 := Lib.hid (HW6.out.trans (b7.mono HW6.out.size))
  clear b7 HA6 HW6 HM6 CA
  obtain ⟨w8, hw8⟩ : ∃ w8, w8 = w7.alloc (.cells #[.int .u8 b.fg.k, .int .u8 b.fg.r, .int .u8 b.fg.g, .int .u8 b.fg.b, .int .u8 b.bg.k, .int .u8 b.bg.r, .int .u8 b.bg.g, .int .u8 b.bg.b, .int .u16 (b.fl : Nat)] 26) := ⟨_, rfl⟩
  obtain ⟨y, hy⟩ : ∃ y, y = w7.heap.size := ⟨_, rfl⟩
  have b8 : Below w7.heap.size w7 w8 := by rw [hw8]; exact (Below.refl _ _).alloc (Nat.le_refl _) _
  have HA := Lib.hid (HA7.out.below b8)
  have HA9 := Lib.hid (show AtAt w8 y b by rw [hw8, hy]; exact AtAt.newAt w7 _ rfl b _)
  have HW8 := Lib.hid (HW7.out.trans (b8.mono HW7.out.size))
  go_upto_region 5 with (fail)
  rw [← hw8, ← hy]
  clear hw8 hy b8 HA7 HW7
  have HKEEP := Lib.hid (show ∀ W : World, Below w8.heap.size w8 W → W.cell? ⟨z, 0, none⟩ = some (.int .u8 a.fg.k) ∧ W.cell? ⟨z, 1, none⟩ = some (.int .u8 a.fg.r) ∧ W.cell? ⟨z, 2, none⟩ = some (.int .u8 a.fg.g) ∧ W.cell? ⟨z, 3, none⟩ = some (.int .u8 a.fg.b) ∧ W.cell? ⟨z, 4, none⟩ = some (.int .u8 a.bg.k) ∧ W.cell? ⟨z, 5, none⟩ = some (.int .u8 a.bg.r) ∧ W.cell? ⟨z, 6, none⟩ = some (.int .u8 a.bg.g) ∧ W.cell? ⟨z, 7, none⟩ = some (.int .u8 a.bg.b) ∧ W.cell? ⟨z, 8, none⟩ = some (.int .u16 (a.fl : Nat)) ∧ W.cell? ⟨y, 0, none⟩ = some (.int .u8 b.fg.k) ∧ W.cell? ⟨y, 1, none⟩ = some (.int .u8 b.fg.r) ∧ W.cell? ⟨y, 2, none⟩ = some (.int .u8 b.fg.g) ∧ W.cell? ⟨y, 3, none⟩ = some (.int .u8 b.fg.b) ∧ W.cell? ⟨y, 4, none⟩ = some (.int .u8 b.bg.k) ∧ W.cell? ⟨y, 5, none⟩ = some (.int .u8 b.bg.r) ∧ W.cell? ⟨y, 6, none⟩ = some (.int .u8 b.bg.g) ∧ W.cell? ⟨y, 7, none⟩ = some (.int .u8 b.bg.b) ∧ W.cell? ⟨y, 8, none⟩ = some (.int .u16 (b.fl : Nat)) from fun W hb => by
    obtain ⟨a0, ⟨s0, s1, s2, s3, s4, s5, s6, s7, s8⟩, _⟩ := HA.out
    obtain ⟨a1, ⟨s9, s10, s11, s12, s13, s14, s15, s16, s17⟩, _⟩ := HA9.out
    exact ⟨(hb.cell (p := ⟨z, 0, none⟩) a0).trans s0, (hb.cell (p := ⟨z, 1, none⟩) a0).trans s1, (hb.cell (p := ⟨z, 2, none⟩) a0).trans s2, (hb.cell (p := ⟨z, 3, none⟩) a0).trans s3, (hb.cell (p := ⟨z, 4, none⟩) a0).trans s4, (hb.cell (p := ⟨z, 5, none⟩) a0).trans s5, (hb.cell (p := ⟨z, 6, none⟩) a0).trans s6, (hb.cell (p := ⟨z, 7, none⟩) a0).trans s7, (hb.cell (p := ⟨z, 8, none⟩) a0).trans s8, (hb.cell (p := ⟨y, 0, none⟩) a1).trans s9, (hb.cell (p := ⟨y, 1, none⟩) a1).trans s10, (hb.cell (p := ⟨y, 2, none⟩) a1).trans s11, (hb.cell (p := ⟨y, 3, none⟩) a1).trans s12, (hb.cell (p := ⟨y, 4, none⟩) a1).trans s13, (hb.cell (p := ⟨y, 5, none⟩) a1).trans s14, (hb.cell (p := ⟨y, 6, none⟩) a1).trans s15, (hb.cell (p := ⟨y, 7, none⟩) a1).trans s16, (hb.cell (p := ⟨y, 8, none⟩) a1).trans s17⟩)
  have hqb := fun w => (eqAtt w b b).trans (by rw [eqA_self])
  have BB : Below w8.heap.size w8 w8.drew := ⟨rfl, rfl, rfl, Nat.le_refl _, fun _ _ => rfl⟩
  refine wp_region_held_drew (S := fun w' => w'.cell? ⟨z, 0, none⟩ = some (.int .u8 a.fg.k) ∧ w'.cell? ⟨z, 1, none⟩ = some (.int .u8 a.fg.r) ∧ w'.cell? ⟨z, 2, none⟩ = some (.int .u8 a.fg.g) ∧ w'.cell? ⟨z, 3, none⟩ = some (.int .u8 a.fg.b) ∧ w'.cell? ⟨z, 4, none⟩ = some (.int .u8 a.bg.k) ∧ w'.cell? ⟨z, 5, none⟩ = some (.int .u8 a.bg.r) ∧ w'.cell? ⟨z, 6, none⟩ = some (.int .u8 a.bg.g) ∧ w'.cell? ⟨z, 7, none⟩ = some (.int .u8 a.bg.b) ∧ w'.cell? ⟨z, 8, none⟩ = some (.int .u16 (a.fl : Nat)) ∧ w'.cell? ⟨y, 0, none⟩ = some (.int .u8 b.fg.k) ∧ w'.cell? ⟨y, 1, none⟩ = some (.int .u8 b.fg.r) ∧ w'.cell? ⟨y, 2, none⟩ = some (.int .u8 b.fg.g) ∧ w'.cell? ⟨y, 3, none⟩ = some (.int .u8 b.fg.b) ∧ w'.cell? ⟨y, 4, none⟩ = some (.int .u8 b.bg.k) ∧ w'.cell? ⟨y, 5, none⟩ = some (.int .u8 b.bg.r) ∧ w'.cell? ⟨y, 6, none⟩ = some (.int .u8 b.bg.g) ∧ w'.cell? ⟨y, 7, none⟩ = some (.int .u8 b.bg.b) ∧ w'.cell? ⟨y, 8, none⟩ = some (.int .u16 (b.fl : Nat))) (by kernel_rfl) ?_ (fun hHeld => ?_)
  · exact HKEEP.out _ BB
  obtain ⟨u0, hu0⟩ : ∃ u0, u0 = w8.drew := ⟨_, rfl⟩
  rw [← hu0] at BB hHeld ⊢
  clear hu0
  have HW := Lib.hid BB
  clear BB
  refine take_at (i := 0) (v := ?_) rfl (by kernel_rfl) (by kernel_rfl) (by kernel_rfl) (fun _ _ _ h => h) (by kernel_rfl) (by assumption) ?_ ?_
  rotate_left
  · (intro w hSw; (try dsimp only at hSw); go_simp; try with_reducible rfl)
  simp only [Act.put, List.setIfInBounds_toArray, List.set_cons_zero, List.set_cons_succ]
  refine take_at (i := 1) (v := ?_) rfl (by kernel_rfl) (by kernel_rfl) (by kernel_rfl) (fun _ _ _ h => h) (by kernel_rfl) (by assumption) ?_ ?_
  rotate_left
  · (intro w hSw; (try dsimp only at hSw); go_simp; try with_reducible rfl)
  simp only [Act.put, List.setIfInBounds_toArray, List.set_cons_zero, List.set_cons_succ]
  refine take_at (i := 2) (v := ?_) rfl (by kernel_rfl) (by kernel_rfl) (by kernel_rfl) (fun _ _ _ h => h) (by kernel_rfl) (by assumption) ?_ ?_
  rotate_left
  · (intro w hSw; (try dsimp only at hSw); go_simp; try with_reducible rfl)
  simp only [Act.put, List.setIfInBounds_toArray, List.set_cons_zero, List.set_cons_succ]
  refine take_at (i := 6) (v := ?_) rfl (by kernel_rfl) (by kernel_rfl) (by kernel_rfl) (fun _ _ _ h => h) (by kernel_rfl) (by assumption) ?_ ?_
  rotate_left
  · (intro w hSw; (try dsimp only at hSw); go_simp; try with_reducible rfl)
  simp only [Act.put, List.setIfInBounds_toArray, List.set_cons_zero, List.set_cons_succ]
  refine do_at (i := 3) rfl (by kernel_rfl) (by kernel_rfl) (fun K hK => ?_)
  go_wp2_with fail
  obtain ⟨u1, hu1⟩ : ∃ u, u = u0.alloc (.cells #[.int .i64 (n : Nat)] 3) := ⟨_, rfl⟩
  rw [← hu1]
  have bb : Below u0.heap.size u0 u1 := by rw [hu1]; exact (Below.refl _ _).alloc (Nat.le_refl _) _
  replace HW := Lib.hid (HW.out.trans (bb.mono HW.out.size))
  have HU1 := Lib.hid hu1
  clear bb hu1
  refine hK.out _ _ ?_ (fun hHeld => ?_)
  · exact HKEEP.out _ HW.out
  clear hK K
  try simp only [Act.put, List.setIfInBounds_toArray, List.set_cons_zero, List.set_cons_succ]
  refine do_at (i := 4) rfl (by kernel_rfl) (by kernel_rfl) (fun K hK => ?_)
  go_wp2_with fail
  obtain ⟨u2, hu2⟩ : ∃ u, u = u1.alloc (.cells #[.slice (some ⟨u0.heap.size, 0, none⟩) 1 1] 50) := ⟨_, rfl⟩
  rw [← hu2]
  have HM := Lib.hid (mat_one HU1.out hu2)
  have bb : Below u1.heap.size u1 u2 := by rw [hu2]; exact (Below.refl _ _).alloc (Nat.le_refl _) _
  replace HW := Lib.hid (HW.out.trans (bb.mono HW.out.size))
  clear bb HU1 hu2
  refine hK.out _ _ ?_ (fun hHeld => ?_)
  · exact HKEEP.out _ HW.out
  clear hK K
  try simp only [Act.put, List.setIfInBounds_toArray, List.set_cons_zero, List.set_cons_succ]
  refine do_at (i := 5) rfl (by kernel_rfl) (by kernel_rfl) (fun K hK => ?_)
  go_simp
  refine (CB.out _ _ HM.out).mono ?_
  rintro e u3 ⟨rfl, bb⟩
  replace HW := Lib.hid (HW.out.trans (bb.mono HW.out.size))
  clear bb
  go_wp2_with fail
  refine hK.out _ _ ?_ (fun hHeld => ?_)
  · exact HKEEP.out _ HW.out
  clear hK K
  try simp only [Act.put, List.setIfInBounds_toArray, List.set_cons_zero, List.set_cons_succ]
  refine take_at (i := 7) (v := ?_) rfl (by kernel_rfl) (by kernel_rfl) (by kernel_rfl) (fun _ _ _ h => h) (by kernel_rfl) (by assumption) ?_ ?_
  rotate_left
  · (intro w hSw; (try dsimp only at hSw); go_simp; try with_reducible rfl)
  simp only [Act.put, List.setIfInBounds_toArray, List.set_cons_zero, List.set_cons_succ]
  refine wpAnyH_done (by kernel_rfl) ?_ _
  have HW9 := Lib.hid (HW8.out.trans (HW.out.mono HW8.out.size))
  have HA5 := Lib.hid (HA.out.below HW.out)
  have HA95 := Lib.hid (HA9.out.below HW.out)
  clear HKEEP HA HA9 HW8 HW HM CB hHeld hqb
  obtain ⟨w9, hw9⟩ : ∃ w9 : World, w9 = u3 := ⟨_, rfl⟩
  subst hw9
  have hmm := @run_makeMap Tryd.prog
  have p0 : (Instr.mapUpdate 52 (.map (some w9.heap.size)) (.int .u8 1) (.int .u16 1)).run Tryd.prog (w9.alloc (.map #[] 0)) = .ok () (w9.alloc (.map #[⟨.int .u8 1, .int .u16 1, 0⟩] 1)) := put_n8 w9 #[] 0 1 (by decide) (by decide) (.int .u16 1) rfl
  have p1 : (Instr.mapUpdate 52 (.map (some w9.heap.size)) (.int .u8 2) (.int .u16 2)).run Tryd.prog (w9.alloc (.map #[⟨.int .u8 1, .int .u16 1, 0⟩] 1)) = .ok () (w9.alloc (.map #[⟨.int .u8 1, .int .u16 1, 0⟩, ⟨.int .u8 2, .int .u16 2, 1⟩] 2)) := put_n8 w9 #[⟨.int .u8 1, .int .u16 1, 0⟩] 1 2 (by decide) (by decide) (.int .u16 2) rfl
  have p2 : (Instr.mapUpdate 52 (.map (some w9.heap.size)) (.int .u8 3) (.int .u16 4)).run Tryd.prog (w9.alloc (.map #[⟨.int .u8 1, .int .u16 1, 0⟩, ⟨.int .u8 2, .int .u16 2, 1⟩] 2)) = .ok () (w9.alloc (.map #[⟨.int .u8 1, .int .u16 1, 0⟩, ⟨.int .u8 2, .int .u16 2, 1⟩, ⟨.int .u8 3, .int .u16 4, 2⟩] 3)) := put_n8 w9 #[⟨.int .u8 1, .int .u16 1, 0⟩, ⟨.int .u8 2, .int .u16 2, 1⟩] 2 3 (by decide) (by decide) (.int .u16 4) rfl
  have p3 : (Instr.mapUpdate 52 (.map (some w9.heap.size)) (.int .u8 4) (.int .u16 8)).run Tryd.prog (w9.alloc (.map #[⟨.int .u8 1, .int .u16 1, 0⟩, ⟨.int .u8 2, .int .u16 2, 1⟩, ⟨.int .u8 3, .int .u16 4, 2⟩] 3)) = .ok () (w9.alloc (.map #[⟨.int .u8 1, .int .u16 1, 0⟩, ⟨.int .u8 2, .int .u16 2, 1⟩, ⟨.int .u8 3, .int .u16 4, 2⟩, ⟨.int .u8 4, .int .u16 8, 3⟩] 4)) := put_n8 w9 #[⟨.int .u8 1, .int .u16 1, 0⟩, ⟨.int .u8 2, .int .u16 2, 1⟩, ⟨.int .u8 3, .int .u16 4, 2⟩] 3 4 (by decide) (by decide) (.int .u16 8) rfl
  have p4 : (Instr.mapUpdate 52 (.map (some w9.heap.size)) (.int .u8 5) (.int .u16 16)).run Tryd.prog (w9.alloc (.map #[⟨.int .u8 1, .int .u16 1, 0⟩, ⟨.int .u8 2, .int .u16 2, 1⟩, ⟨.int .u8 3, .int .u16 4, 2⟩, ⟨.int .u8 4, .int .u16 8, 3⟩] 4)) = .ok () (w9.alloc (.map #[⟨.int .u8 1, .int .u16 1, 0⟩, ⟨.int .u8 2, .int .u16 2, 1⟩, ⟨.int .u8 3, .int .u16 4, 2⟩, ⟨.int .u8 4, .int .u16 8, 3⟩, ⟨.int .u8 5, .int .u16 16, 4⟩] 5)) := put_n8 w9 #[⟨.int .u8 1, .int .u16 1, 0⟩, ⟨.int .u8 2, .int .u16 2, 1⟩, ⟨.int .u8 3, .int .u16 4, 2⟩, ⟨.int .u8 4, .int .u16 8, 3⟩] 4 5 (by decide) (by decide) (.int .u16 16) rfl
  have p5 : (Instr.mapUpdate 52 (.map (some w9.heap.size)) (.int .u8 7) (.int .u16 32)).run Tryd.prog (w9.alloc (.map #[⟨.int .u8 1, .int .u16 1, 0⟩, ⟨.int .u8 2, .int .u16 2, 1⟩, ⟨.int .u8 3, .int .u16 4, 2⟩, ⟨.int .u8 4, .int .u16 8, 3⟩, ⟨.int .u8 5, .int .u16 16, 4⟩] 5)) = .ok () (w9.alloc (.map #[⟨.int .u8 1, .int .u16 1, 0⟩, ⟨.int .u8 2, .int .u16 2, 1⟩, ⟨.int .u8 3, .int .u16 4, 2⟩, ⟨.int .u8 4, .int .u16 8, 3⟩, ⟨.int .u8 5, .int .u16 16, 4⟩, ⟨.int .u8 7, .int .u16 32, 5⟩] 6)) := put_n8 w9 #[⟨.int .u8 1, .int .u16 1, 0⟩, ⟨.int .u8 2, .int .u16 2, 1⟩, ⟨.int .u8 3, .int .u16 4, 2⟩, ⟨.int .u8 4, .int .u16 8, 3⟩, ⟨.int .u8 5, .int .u16 16, 4⟩] 5 7 (by decide) (by decide) (.int .u16 32) rfl
  have p6 : (Instr.mapUpdate 52 (.map (some w9.heap.size)) (.int .u8 8) (.int .u16 64)).run Tryd.prog (w9.alloc (.map #[⟨.int .u8 1, .int .u16 1, 0⟩, ⟨.int .u8 2, .int .u16 2, 1⟩, ⟨.int .u8 3, .int .u16 4, 2⟩, ⟨.int .u8 4, .int .u16 8, 3⟩, ⟨.int .u8 5, .int .u16 16, 4⟩, ⟨.int .u8 7, .int .u16 32, 5⟩] 6)) = .ok () (w9.alloc (.map #[⟨.int .u8 1, .int .u16 1, 0⟩, ⟨.int .u8 2, .int .u16 2, 1⟩, ⟨.int .u8 3, .int .u16 4, 2⟩, ⟨.int .u8 4, .int .u16 8, 3⟩, ⟨.int .u8 5, .int .u16 16, 4⟩, ⟨.int .u8 7, .int .u16 32, 5⟩, ⟨.int .u8 8, .int .u16 64, 6⟩] 7)) := put_n8 w9 #[⟨.int .u8 1, .int .u16 1, 0⟩, ⟨.int .u8 2, .int .u16 2, 1⟩, ⟨.int .u8 3, .int .u16 4, 2⟩, ⟨.int .u8 4, .int .u16 8, 3⟩, ⟨.int .u8 5, .int .u16 16, 4⟩, ⟨.int .u8 7, .int .u16 32, 5⟩] 6 8 (by decide) (by decide) (.int .u16 64) rfl
  have p7 : (Instr.mapUpdate 52 (.map (some w9.heap.size)) (.int .u8 9) (.int .u16 128)).run Tryd.prog (w9.alloc (.map #[⟨.int .u8 1, .int .u16 1, 0⟩, ⟨.int .u8 2, .int .u16 2, 1⟩, ⟨.int .u8 3, .int .u16 4, 2⟩, ⟨.int .u8 4, .int .u16 8, 3⟩, ⟨.int .u8 5, .int .u16 16, 4⟩, ⟨.int .u8 7, .int .u16 32, 5⟩, ⟨.int .u8 8, .int .u16 64, 6⟩] 7)) = .ok () (w9.alloc (.map #[⟨.int .u8 1, .int .u16 1, 0⟩, ⟨.int .u8 2, .int .u16 2, 1⟩, ⟨.int .u8 3, .int .u16 4, 2⟩, ⟨.int .u8 4, .int .u16 8, 3⟩, ⟨.int .u8 5, .int .u16 16, 4⟩, ⟨.int .u8 7, .int .u16 32, 5⟩, ⟨.int .u8 8, .int .u16 64, 6⟩, ⟨.int .u8 9, .int .u16 128, 7⟩] 8)) := put_n8 w9 #[⟨.int .u8 1, .int .u16 1, 0⟩, ⟨.int .u8 2, .int .u16 2, 1⟩, ⟨.int .u8 3, .int .u16 4, 2⟩, ⟨.int .u8 4, .int .u16 8, 3⟩, ⟨.int .u8 5, .int .u16 16, 4⟩, ⟨.int .u8 7, .int .u16 32, 5⟩, ⟨.int .u8 8, .int .u16 64, 6⟩] 7 9 (by decide) (by decide) (.int .u16 128) rfl
  have p8 : (Instr.mapUpdate 52 (.map (some w9.heap.size)) (.int .u8 21) (.int .u16 256)).run Tryd.prog (w9.alloc (.map #[⟨.int .u8 1, .int .u16 1, 0⟩, ⟨.int .u8 2, .int .u16 2, 1⟩, ⟨.int .u8 3, .int .u16 4, 2⟩, ⟨.int .u8 4, .int .u16 8, 3⟩, ⟨.int .u8 5, .int .u16 16, 4⟩, ⟨.int .u8 7, .int .u16 32, 5⟩, ⟨.int .u8 8, .int .u16 64, 6⟩, ⟨.int .u8 9, .int .u16 128, 7⟩] 8)) = .ok () (w9.alloc (.map #[⟨.int .u8 1, .int .u16 1, 0⟩, ⟨.int .u8 2, .int .u16 2, 1⟩, ⟨.int .u8 3, .int .u16 4, 2⟩, ⟨.int .u8 4, .int .u16 8, 3⟩, ⟨.int .u8 5, .int .u16 16, 4⟩, ⟨.int .u8 7, .int .u16 32, 5⟩, ⟨.int .u8 8, .int .u16 64, 6⟩, ⟨.int .u8 9, .int .u16 128, 7⟩, ⟨.int .u8 21, .int .u16 256, 8⟩] 9)) := put_n8 w9 #[⟨.int .u8 1, .int .u16 1, 0⟩, ⟨.int .u8 2, .int .u16 2, 1⟩, ⟨.int .u8 3, .int .u16 4, 2⟩, ⟨.int .u8 4, .int .u16 8, 3⟩, ⟨.int .u8 5, .int .u16 16, 4⟩, ⟨.int .u8 7, .int .u16 32, 5⟩, ⟨.int .u8 8, .int .u16 64, 6⟩, ⟨.int .u8 9, .int .u16 128, 7⟩] 8 21 (by decide) (by decide) (.int .u16 256) rfl
  go_upto_region 8 with (fail)
  clear p0 p1 p2 p3 p4 p5 p6 p7 p8
  obtain ⟨m1, hm1⟩ : ∃ m1, m1 = w9.alloc (.map #[⟨.int .u8 1, .int .u16 1, 0⟩, ⟨.int .u8 2, .int .u16 2, 1⟩, ⟨.int .u8 3, .int .u16 4, 2⟩, ⟨.int .u8 4, .int .u16 8, 3⟩, ⟨.int .u8 5, .int .u16 16, 4⟩, ⟨.int .u8 7, .int .u16 32, 5⟩, ⟨.int .u8 8, .int .u16 64, 6⟩, ⟨.int .u8 9, .int .u16 128, 7⟩, ⟨.int .u8 21, .int .u16 256, 8⟩] 9) := ⟨_, rfl⟩
  obtain ⟨B1, hB1⟩ : ∃ B, B = w9.heap.size := ⟨_, rfl⟩
  have e1 : m1.heap[B1]? = some (.map setE 9) := by rw [hm1, hB1]; exact (MapKept.heap_alloc w9 _).1
  have l1 : B1 < m1.heap.size := by rw [hm1, hB1]; simp
  have bm1 : Below w9.heap.size w9 m1 := by rw [hm1]; exact (Below.refl _ _).alloc (Nat.le_refl _) _
  rw [← hm1, ← hB1]
  clear hm1 hB1
  have p0 : (Instr.mapUpdate 52 (.map (some m1.heap.size)) (.int .u8 4) (.int .u16 256)).run Tryd.prog (m1.alloc (.map #[] 0)) = .ok () (m1.alloc (.map #[⟨.int .u8 4, .int .u16 256, 0⟩] 1)) := put_n8 m1 #[] 0 4 (by decide) (by decide) (.int .u16 256) rfl
  have p1 : (Instr.mapUpdate 52 (.map (some m1.heap.size)) (.int .u8 21) (.int .u16 8)).run Tryd.prog (m1.alloc (.map #[⟨.int .u8 4, .int .u16 256, 0⟩] 1)) = .ok () (m1.alloc (.map #[⟨.int .u8 4, .int .u16 256, 0⟩, ⟨.int .u8 21, .int .u16 8, 1⟩] 2)) := put_n8 m1 #[⟨.int .u8 4, .int .u16 256, 0⟩] 1 21 (by decide) (by decide) (.int .u16 8) rfl
  have p2 : (Instr.mapUpdate 52 (.map (some m1.heap.size)) (.int .u8 22) (.int .u16 3)).run Tryd.prog (m1.alloc (.map #[⟨.int .u8 4, .int .u16 256, 0⟩, ⟨.int .u8 21, .int .u16 8, 1⟩] 2)) = .ok () (m1.alloc (.map #[⟨.int .u8 4, .int .u16 256, 0⟩, ⟨.int .u8 21, .int .u16 8, 1⟩, ⟨.int .u8 22, .int .u16 3, 2⟩] 3)) := put_n8 m1 #[⟨.int .u8 4, .int .u16 256, 0⟩, ⟨.int .u8 21, .int .u16 8, 1⟩] 2 22 (by decide) (by decide) (.int .u16 3) rfl
  have p3 : (Instr.mapUpdate 52 (.map (some m1.heap.size)) (.int .u8 23) (.int .u16 4)).run Tryd.prog (m1.alloc (.map #[⟨.int .u8 4, .int .u16 256, 0⟩, ⟨.int .u8 21, .int .u16 8, 1⟩, ⟨.int .u8 22, .int .u16 3, 2⟩] 3)) = .ok () (m1.alloc (.map #[⟨.int .u8 4, .int .u16 256, 0⟩, ⟨.int .u8 21, .int .u16 8, 1⟩, ⟨.int .u8 22, .int .u16 3, 2⟩, ⟨.int .u8 23, .int .u16 4, 3⟩] 4)) := put_n8 m1 #[⟨.int .u8 4, .int .u16 256, 0⟩, ⟨.int .u8 21, .int .u16 8, 1⟩, ⟨.int .u8 22, .int .u16 3, 2⟩] 3 23 (by decide) (by decide) (.int .u16 4) rfl
  have p4 : (Instr.mapUpdate 52 (.map (some m1.heap.size)) (.int .u8 24) (.int .u16 264)).run Tryd.prog (m1.alloc (.map #[⟨.int .u8 4, .int .u16 256, 0⟩, ⟨.int .u8 21, .int .u16 8, 1⟩, ⟨.int .u8 22, .int .u16 3, 2⟩, ⟨.int .u8 23, .int .u16 4, 3⟩] 4)) = .ok () (m1.alloc (.map #[⟨.int .u8 4, .int .u16 256, 0⟩, ⟨.int .u8 21, .int .u16 8, 1⟩, ⟨.int .u8 22, .int .u16 3, 2⟩, ⟨.int .u8 23, .int .u16 4, 3⟩, ⟨.int .u8 24, .int .u16 264, 4⟩] 5)) := put_n8 m1 #[⟨.int .u8 4, .int .u16 256, 0⟩, ⟨.int .u8 21, .int .u16 8, 1⟩, ⟨.int .u8 22, .int .u16 3, 2⟩, ⟨.int .u8 23, .int .u16 4, 3⟩] 4 24 (by decide) (by decide) (.int .u16 264) rfl
  have p5 : (Instr.mapUpdate 52 (.map (some m1.heap.size)) (.int .u8 25) (.int .u16 16)).run Tryd.prog (m1.alloc (.map #[⟨.int .u8 4, .int .u16 256, 0⟩, ⟨.int .u8 21, .int .u16 8, 1⟩, ⟨.int .u8 22, .int .u16 3, 2⟩, ⟨.int .u8 23, .int .u16 4, 3⟩, ⟨.int .u8 24, .int .u16 264, 4⟩] 5)) = .ok () (m1.alloc (.map #[⟨.int .u8 4, .int .u16 256, 0⟩, ⟨.int .u8 21, .int .u16 8, 1⟩, ⟨.int .u8 22, .int .u16 3, 2⟩, ⟨.int .u8 23, .int .u16 4, 3⟩, ⟨.int .u8 24, .int .u16 264, 4⟩, ⟨.int .u8 25, .int .u16 16, 5⟩] 6)) := put_n8 m1 #[⟨.int .u8 4, .int .u16 256, 0⟩, ⟨.int .u8 21, .int .u16 8, 1⟩, ⟨.int .u8 22, .int .u16 3, 2⟩, ⟨.int .u8 23, .int .u16 4, 3⟩, ⟨.int .u8 24, .int .u16 264, 4⟩] 5 25 (by decide) (by decide) (.int .u16 16) rfl
  have p6 : (Instr.mapUpdate 52 (.map (some m1.heap.size)) (.int .u8 27) (.int .u16 32)).run Tryd.prog (m1.alloc (.map #[⟨.int .u8 4, .int .u16 256, 0⟩, ⟨.int .u8 21, .int .u16 8, 1⟩, ⟨.int .u8 22, .int .u16 3, 2⟩, ⟨.int .u8 23, .int .u16 4, 3⟩, ⟨.int .u8 24, .int .u16 264, 4⟩, ⟨.int .u8 25, .int .u16 16, 5⟩] 6)) = .ok () (m1.alloc (.map #[⟨.int .u8 4, .int .u16 256, 0⟩, ⟨.int .u8 21, .int .u16 8, 1⟩, ⟨.int .u8 22, .int .u16 3, 2⟩, ⟨.int .u8 23, .int .u16 4, 3⟩, ⟨.int .u8 24, .int .u16 264, 4⟩, ⟨.int .u8 25, .int .u16 16, 5⟩, ⟨.int .u8 27, .int .u16 32, 6⟩] 7)) := put_n8 m1 #[⟨.int .u8 4, .int .u16 256, 0⟩, ⟨.int .u8 21, .int .u16 8, 1⟩, ⟨.int .u8 22, .int .u16 3, 2⟩, ⟨.int .u8 23, .int .u16 4, 3⟩, ⟨.int .u8 24, .int .u16 264, 4⟩, ⟨.int .u8 25, .int .u16 16, 5⟩] 6 27 (by decide) (by decide) (.int .u16 32) rfl
  have p7 : (Instr.mapUpdate 52 (.map (some m1.heap.size)) (.int .u8 28) (.int .u16 64)).run Tryd.prog (m1.alloc (.map #[⟨.int .u8 4, .int .u16 256, 0⟩, ⟨.int .u8 21, .int .u16 8, 1⟩, ⟨.int .u8 22, .int .u16 3, 2⟩, ⟨.int .u8 23, .int .u16 4, 3⟩, ⟨.int .u8 24, .int .u16 264, 4⟩, ⟨.int .u8 25, .int .u16 16, 5⟩, ⟨.int .u8 27, .int .u16 32, 6⟩] 7)) = .ok () (m1.alloc (.map #[⟨.int .u8 4, .int .u16 256, 0⟩, ⟨.int .u8 21, .int .u16 8, 1⟩, ⟨.int .u8 22, .int .u16 3, 2⟩, ⟨.int .u8 23, .int .u16 4, 3⟩, ⟨.int .u8 24, .int .u16 264, 4⟩, ⟨.int .u8 25, .int .u16 16, 5⟩, ⟨.int .u8 27, .int .u16 32, 6⟩, ⟨.int .u8 28, .int .u16 64, 7⟩] 8)) := put_n8 m1 #[⟨.int .u8 4, .int .u16 256, 0⟩, ⟨.int .u8 21, .int .u16 8, 1⟩, ⟨.int .u8 22, .int .u16 3, 2⟩, ⟨.int .u8 23, .int .u16 4, 3⟩, ⟨.int .u8 24, .int .u16 264, 4⟩, ⟨.int .u8 25, .int .u16 16, 5⟩, ⟨.int .u8 27, .int .u16 32, 6⟩] 7 28 (by decide) (by decide) (.int .u16 64) rfl
  have p8 : (Instr.mapUpdate 52 (.map (some m1.heap.size)) (.int .u8 29) (.int .u16 128)).run Tryd.prog (m1.alloc (.map #[⟨.int .u8 4, .int .u16 256, 0⟩, ⟨.int .u8 21, .int .u16 8, 1⟩, ⟨.int .u8 22, .int .u16 3, 2⟩, ⟨.int .u8 23, .int .u16 4, 3⟩, ⟨.int .u8 24, .int .u16 264, 4⟩, ⟨.int .u8 25, .int .u16 16, 5⟩, ⟨.int .u8 27, .int .u16 32, 6⟩, ⟨.int .u8 28, .int .u16 64, 7⟩] 8)) = .ok () (m1.alloc (.map #[⟨.int .u8 4, .int .u16 256, 0⟩, ⟨.int .u8 21, .int .u16 8, 1⟩, ⟨.int .u8 22, .int .u16 3, 2⟩, ⟨.int .u8 23, .int .u16 4, 3⟩, ⟨.int .u8 24, .int .u16 264, 4⟩, ⟨.int .u8 25, .int .u16 16, 5⟩, ⟨.int .u8 27, .int .u16 32, 6⟩, ⟨.int .u8 28, .int .u16 64, 7⟩, ⟨.int .u8 29, .int .u16 128, 8⟩] 9)) := put_n8 m1 #[⟨.int .u8 4, .int .u16 256, 0⟩, ⟨.int .u8 21, .int .u16 8, 1⟩, ⟨.int .u8 22, .int .u16 3, 2⟩, ⟨.int .u8 23, .int .u16 4, 3⟩, ⟨.int .u8 24, .int .u16 264, 4⟩, ⟨.int .u8 25, .int .u16 16, 5⟩, ⟨.int .u8 27, .int .u16 32, 6⟩, ⟨.int .u8 28, .int .u16 64, 7⟩] 8 29 (by decide) (by decide) (.int .u16 128) rfl
  go_upto_block 0 with (fail)
  obtain ⟨m2, hm2⟩ : ∃ m2, m2 = m1.alloc (.map #[⟨.int .u8 4, .int .u16 256, 0⟩, ⟨.int .u8 21, .int .u16 8, 1⟩, ⟨.int .u8 22, .int .u16 3, 2⟩, ⟨.int .u8 23, .int .u16 4, 3⟩, ⟨.int .u8 24, .int .u16 264, 4⟩, ⟨.int .u8 25, .int .u16 16, 5⟩, ⟨.int .u8 27, .int .u16 32, 6⟩, ⟨.int .u8 28, .int .u16 64, 7⟩, ⟨.int .u8 29, .int .u16 128, 8⟩] 9) := ⟨_, rfl⟩
  obtain ⟨B2, hB2⟩ : ∃ B, B = m1.heap.size := ⟨_, rfl⟩
  have e2 : m2.heap[B2]? = some (.map clrE 9) := by rw [hm2, hB2]; exact (MapKept.heap_alloc m1 _).1
  have bm2 : Below m1.heap.size m1 m2 := by rw [hm2]; exact (Below.refl _ _).alloc (Nat.le_refl _) _
  have k7 := look_set m2 B1 n hn ((bm2.block B1 l1).trans e1)
  have k8 := look_clr m2 B2 n hn e2
  rw [← hm2, ← hB2]
  clear hm2 hB2 e1 e2 l1 p0 p1 p2 p3 p4 p5 p6 p7 p8 hmm
  have bm : Below w9.heap.size w9 m2 := bm1.trans (bm2.mono bm1.size)
  have HA := Lib.hid (HA5.out.below bm)
  have HA9 := Lib.hid (HA95.out.below bm)
  have HWM := Lib.hid (HW9.out.trans (bm.mono HW9.out.size))
  have HBF := Lib.hid (HB1.out.trans (HWM.out.mono HB1.out.size))
  clear bm bm1 bm2 HA5 HA95 HW9 HWM HB1
  have HKEEP := Lib.hid (show ∀ W : World, Below m2.heap.size m2 W → W.cell? ⟨z, 0, none⟩ = some (.int .u8 a.fg.k) ∧ W.cell? ⟨z, 1, none⟩ = some (.int .u8 a.fg.r) ∧ W.cell? ⟨z, 2, none⟩ = some (.int .u8 a.fg.g) ∧ W.cell? ⟨z, 3, none⟩ = some (.int .u8 a.fg.b) ∧ W.cell? ⟨z, 4, none⟩ = some (.int .u8 a.bg.k) ∧ W.cell? ⟨z, 5, none⟩ = some (.int .u8 a.bg.r) ∧ W.cell? ⟨z, 6, none⟩ = some (.int .u8 a.bg.g) ∧ W.cell? ⟨z, 7, none⟩ = some (.int .u8 a.bg.b) ∧ W.cell? ⟨z, 8, none⟩ = some (.int .u16 (a.fl : Nat)) ∧ W.cell? ⟨y, 0, none⟩ = some (.int .u8 b.fg.k) ∧ W.cell? ⟨y, 1, none⟩ = some (.int .u8 b.fg.r) ∧ W.cell? ⟨y, 2, none⟩ = some (.int .u8 b.fg.g) ∧ W.cell? ⟨y, 3, none⟩ = some (.int .u8 b.fg.b) ∧ W.cell? ⟨y, 4, none⟩ = some (.int .u8 b.bg.k) ∧ W.cell? ⟨y, 5, none⟩ = some (.int .u8 b.bg.r) ∧ W.cell? ⟨y, 6, none⟩ = some (.int .u8 b.bg.g) ∧ W.cell? ⟨y, 7, none⟩ = some (.int .u8 b.bg.b) ∧ W.cell? ⟨y, 8, none⟩ = some (.int .u16 (b.fl : Nat)) from fun W hb => by
    obtain ⟨a0, ⟨s0, s1, s2, s3, s4, s5, s6, s7, s8⟩, _⟩ := HA.out
    obtain ⟨a1, ⟨s9, s10, s11, s12, s13, s14, s15, s16, s17⟩, _⟩ := HA9.out
    exact ⟨(hb.cell (p := ⟨z, 0, none⟩) a0).trans s0, (hb.cell (p := ⟨z, 1, none⟩) a0).trans s1, (hb.cell (p := ⟨z, 2, none⟩) a0).trans s2, (hb.cell (p := ⟨z, 3, none⟩) a0).trans s3, (hb.cell (p := ⟨z, 4, none⟩) a0).trans s4, (hb.cell (p := ⟨z, 5, none⟩) a0).trans s5, (hb.cell (p := ⟨z, 6, none⟩) a0).trans s6, (hb.cell (p := ⟨z, 7, none⟩) a0).trans s7, (hb.cell (p := ⟨z, 8, none⟩) a0).trans s8, (hb.cell (p := ⟨y, 0, none⟩) a1).trans s9, (hb.cell (p := ⟨y, 1, none⟩) a1).trans s10, (hb.cell (p := ⟨y, 2, none⟩) a1).trans s11, (hb.cell (p := ⟨y, 3, none⟩) a1).trans s12, (hb.cell (p := ⟨y, 4, none⟩) a1).trans s13, (hb.cell (p := ⟨y, 5, none⟩) a1).trans s14, (hb.cell (p := ⟨y, 6, none⟩) a1).trans s15, (hb.cell (p := ⟨y, 7, none⟩) a1).trans s16, (hb.cell (p := ⟨y, 8, none⟩) a1).trans s17⟩)
  clear HA HA9
  obtain ⟨s, hs⟩ : ∃ s, s = setsN n := ⟨_, rfl⟩
  obtain ⟨c, hc⟩ : ∃ c, c = clrsN n := ⟨_, rfl⟩
  rw [← hs] at k7
  rw [← hc] at k8
  have HS := Lib.hid hs
  have HC := Lib.hid hc
  have HK7 := Lib.hid k7
  have HK8 := Lib.hid k8
  clear hs hc k7 k8
  have hseg : (n = 0) ∨ (1 ≤ n ∧ n ≤ 29) ∨ (30 ≤ n ∧ n ≤ 37) ∨ (n = 38) ∨ (n = 39) ∨ (40 ≤ n ∧ n ≤ 47) ∨ (n = 48) ∨ (n = 49) ∨ (50 ≤ n ∧ n ≤ 89) ∨ (90 ≤ n ∧ n ≤ 97) ∨ (98 ≤ n ∧ n ≤ 99) ∨ (100 ≤ n ∧ n ≤ 107) ∨ (108 ≤ n ∧ n ≤ 255) := by omega
  rcases hseg with h | h | h | h | h | h | h | h | h | h | h | h | h
  · have g0 : ((n : Int) == 0) = true := by simp; omega
    have g30 : decide ((n : Int) ≥ 30) = false := by simp; omega
    have q30 : decide (30 ≤ (n : Int)) = false := by simp; omega
    have g90 : decide ((n : Int) ≥ 90) = false := by simp; omega
    have q90 : decide (90 ≤ (n : Int)) = false := by simp; omega
    have g40 : decide ((n : Int) ≥ 40) = false := by simp; omega
    have q40 : decide (40 ≤ (n : Int)) = false := by simp; omega
    have g100 : decide ((n : Int) ≥ 100) = false := by simp; omega
    have q100 : decide (100 ≤ (n : Int)) = false := by simp; omega
    have l37 : decide ((n : Int) ≤ 37) = true := by simp; omega
    have l97 : decide ((n : Int) ≤ 97) = true := by simp; omega
    have l47 : decide ((n : Int) ≤ 47) = true := by simp; omega
    have l107 : decide ((n : Int) ≤ 107) = true := by simp; omega
    have e39 : ((n : Int) == 39) = false := by simp; omega
    have x39 : ((n : Int) != 39) = true := by simp; omega
    have e49 : ((n : Int) == 49) = false := by simp; omega
    have x49 : ((n : Int) != 49) = true := by simp; omega
    have hq : ∀ w, (Op.equalIn 10000 26 (attV b) (.agg #[.int .u8 0, .int .u8 0, .int .u8 0, .int .u8 0, .int .u8 0, .int .u8 0, .int .u8 0, .int .u8 0, .int .u16 0])).run Tryd.prog w = .ok true w := fun w => by
      have e : b = At.zero := by rw [HBE.out, h]; rfl
      have := eqAtt w b At.zero
      rw [e] at this ⊢
      exact this.trans (by rw [eqA_self])
    obtain ⟨s0, s1, s2, s3, s4, s5, s6, s7, s8, s9, s10, s11, s12, s13, s14, s15, s16, s17⟩ := HKEEP.out _ (Below.refl m2.heap.size m2)
    clear h HKEEP HBE HS HC HK7 HK8
    go_wp2
    go_ret
    exact ⟨rfl, HBF.out⟩
  · have g0 : ((n : Int) == 0) = false := by simp; omega
    have g30 : decide ((n : Int) ≥ 30) = false := by simp; omega
    have q30 : decide (30 ≤ (n : Int)) = false := by simp; omega
    have g90 : decide ((n : Int) ≥ 90) = false := by simp; omega
    have q90 : decide (90 ≤ (n : Int)) = false := by simp; omega
    have g40 : decide ((n : Int) ≥ 40) = false := by simp; omega
    have q40 : decide (40 ≤ (n : Int)) = false := by simp; omega
    have g100 : decide ((n : Int) ≥ 100) = false := by simp; omega
    have q100 : decide (100 ≤ (n : Int)) = false := by simp; omega
    have l37 : decide ((n : Int) ≤ 37) = true := by simp; omega
    have l97 : decide ((n : Int) ≤ 97) = true := by simp; omega
    have l47 : decide ((n : Int) ≤ 47) = true := by simp; omega
    have l107 : decide ((n : Int) ≤ 107) = true := by simp; omega
    have e39 : ((n : Int) == 39) = false := by simp; omega
    have x39 : ((n : Int) != 39) = true := by simp; omega
    have e49 : ((n : Int) == 49) = false := by simp; omega
    have x49 : ((n : Int) != 49) = true := by simp; omega
    have hE : b = a.flags s c := by rw [HBE.out, HS.out, HC.out]; exact simple_flags a HOA.out.2.2 n (by omega)
    have hc16 : c < 65536 := by
      rw [HC.out]
      unfold clrsN
      repeat' split
      all_goals decide
    have hs16 : s < 65536 := by
      rw [HS.out]
      unfold setsN
      repeat' split
      all_goals decide
    obtain ⟨g, hg⟩ : ∃ g, g = a.fl &&& (65535 - c) := ⟨_, rfl⟩
    have hg16 : g < 65536 := by rw [hg]; exact Nat.lt_of_le_of_lt Nat.and_le_left HOA.out.2.2
    have u1' : bits .andNot .u16 (a.fl : Int) (c : Int) = (g : Int) := by rw [hg]; exact u16_andN a.fl c HOA.out.2.2 hc16
    have u2' : bits .or .u16 (g : Int) (s : Int) = (b.fl : Int) := by rw [u16_orN g s hg16 hs16, hE, hg]; rfl
    have hqf : ∀ w, (Op.equalIn 10000 23 (colV b.fg) (colV a.fg)).run Tryd.prog w = .ok true w := fun w => (eqCol 9998 w b.fg a.fg).trans (by rw [(eqC_iff b.fg a.fg).2 (by rw [hE]; rfl)])
    have hqg : ∀ w, (Op.equalIn 10000 23 (colV b.bg) (colV a.bg)).run Tryd.prog w = .ok true w := fun w => (eqCol 9998 w b.bg a.bg).trans (by rw [(eqC_iff b.bg a.bg).2 (by rw [hE]; rfl)])
    obtain ⟨s0, s1, s2, s3, s4, s5, s6, s7, s8, s9, s10, s11, s12, s13, s14, s15, s16, s17⟩ := HKEEP.out _ (Below.refl m2.heap.size m2)
    have k7 := HK7.out
    have k8 := HK8.out
    clear h hE hg hc16 hs16 hg16 HKEEP HBE HS HC HK7 HK8
    go_wp2
    go_ret
    exact ⟨rfl, HBF.out⟩
  · have g0 : ((n : Int) == 0) = false := by simp; omega
    have g30 : decide ((n : Int) ≥ 30) = true := by simp; omega
    have q30 : decide (30 ≤ (n : Int)) = true := by simp; omega
    have g90 : decide ((n : Int) ≥ 90) = false := by simp; omega
    have q90 : decide (90 ≤ (n : Int)) = false := by simp; omega
    have g40 : decide ((n : Int) ≥ 40) = false := by simp; omega
    have q40 : decide (40 ≤ (n : Int)) = false := by simp; omega
    have g100 : decide ((n : Int) ≥ 100) = false := by simp; omega
    have q100 : decide (100 ≤ (n : Int)) = false := by simp; omega
    have l37 : decide ((n : Int) ≤ 37) = true := by simp; omega
    have l97 : decide ((n : Int) ≤ 97) = true := by simp; omega
    have l47 : decide ((n : Int) ≤ 47) = true := by simp; omega
    have l107 : decide ((n : Int) ≤ 107) = true := by simp; omega
    have e39 : ((n : Int) == 39) = false := by simp; omega
    have x39 : ((n : Int) != 39) = true := by simp; omega
    have e49 : ((n : Int) == 49) = false := by simp; omega
    have x49 : ((n : Int) != 49) = true := by simp; omega
    have hE : b = { a with fg := ⟨1, (n : Int) - 30, 0, 0⟩ } := by rw [HBE.out]; exact simple_fg a (by omega)
    obtain ⟨x, hx⟩ : ∃ x : Nat, x = n - 30 := ⟨_, rfl⟩
    obtain ⟨r, hr⟩ : ∃ r : Nat, r = n - 30 := ⟨_, rfl⟩
    have t1 : (n : Int).tmod 10 = (x : Int) := by rw [Int.tmod_eq_emod_of_nonneg (by omega)]; omega
    have t2 : (n : Int).tdiv 90 = 0 := by rw [Int.tdiv_eq_ediv_of_nonneg (by omega)]; omega
    have t3 : IntKind.u8.wrap (x : Int) = (x : Int) := by rw [IntKind.wrap_u8]; omega
    have t6 : IntKind.u8.wrap 0 = 0 := by decide
    have hqx : ∀ w, (Op.equalIn 10000 23 (colV b.fg) (.agg #[.int .u8 1, .int .u8 (x : Int), .int .u8 0, .int .u8 0])).run Tryd.prog w = .ok true w := fun w => (eqCol 9998 w b.fg ⟨1, x, 0, 0⟩).trans (by rw [(eqC_iff b.fg ⟨1, x, 0, 0⟩).2 (by rw [hE, show ((x : Nat) : Int) = (n : Int) - 30 by omega])])
    have hqo : ∀ w, (Op.equalIn 10000 23 (colV b.bg) (colV a.bg)).run Tryd.prog w = .ok true w := fun w => (eqCol 9998 w b.bg a.bg).trans (by rw [(eqC_iff b.bg a.bg).2 (by rw [hE])])
    have hfe : ((b.fl : Int) == (a.fl : Int)) = true := by rw [hE]; simp
    clear h hE hr hx HBE HS HC HK7 HK8
    go_upto_region 12 with (fail)
    have BB : Below m2.heap.size m2 m2.drew := ⟨rfl, rfl, rfl, Nat.le_refl _, fun _ _ => rfl⟩
    refine wp_region_held_drew (S := fun w' => w'.cell? ⟨z, 0, none⟩ = some (.int .u8 a.fg.k) ∧ w'.cell? ⟨z, 1, none⟩ = some (.int .u8 a.fg.r) ∧ w'.cell? ⟨z, 2, none⟩ = some (.int .u8 a.fg.g) ∧ w'.cell? ⟨z, 3, none⟩ = some (.int .u8 a.fg.b) ∧ w'.cell? ⟨z, 4, none⟩ = some (.int .u8 a.bg.k) ∧ w'.cell? ⟨z, 5, none⟩ = some (.int .u8 a.bg.r) ∧ w'.cell? ⟨z, 6, none⟩ = some (.int .u8 a.bg.g) ∧ w'.cell? ⟨z, 7, none⟩ = some (.int .u8 a.bg.b) ∧ w'.cell? ⟨z, 8, none⟩ = some (.int .u16 (a.fl : Nat)) ∧ w'.cell? ⟨y, 0, none⟩ = some (.int .u8 b.fg.k) ∧ w'.cell? ⟨y, 1, none⟩ = some (.int .u8 b.fg.r) ∧ w'.cell? ⟨y, 2, none⟩ = some (.int .u8 b.fg.g) ∧ w'.cell? ⟨y, 3, none⟩ = some (.int .u8 b.fg.b) ∧ w'.cell? ⟨y, 4, none⟩ = some (.int .u8 b.bg.k) ∧ w'.cell? ⟨y, 5, none⟩ = some (.int .u8 b.bg.r) ∧ w'.cell? ⟨y, 6, none⟩ = some (.int .u8 b.bg.g) ∧ w'.cell? ⟨y, 7, none⟩ = some (.int .u8 b.bg.b) ∧ w'.cell? ⟨y, 8, none⟩ = some (.int .u16 (b.fl : Nat))) (by kernel_rfl) ?_ (fun hHeld => ?_)
    · exact HKEEP.out _ BB
    obtain ⟨u0, hu0⟩ : ∃ u0, u0 = m2.drew := ⟨_, rfl⟩
    rw [← hu0] at BB hHeld ⊢
    clear hu0
    have HW := Lib.hid BB
    clear BB
    refine take_at (i := 0) (v := ?_) rfl (by kernel_rfl) (by kernel_rfl) (by kernel_rfl) (fun _ _ _ h => h) (by kernel_rfl) (by assumption) ?_ ?_
    rotate_left
    · (intro w hSw; (try dsimp only at hSw); go_simp; try with_reducible rfl)
    simp only [Act.put, List.setIfInBounds_toArray, List.set_cons_zero, List.set_cons_succ]
    refine take_at (i := 1) (v := ?_) rfl (by kernel_rfl) (by kernel_rfl) (by kernel_rfl) (fun _ _ _ h => h) (by kernel_rfl) (by assumption) ?_ ?_
    rotate_left
    · (intro w hSw; (try dsimp only at hSw); go_simp; try with_reducible rfl)
    simp only [Act.put, List.setIfInBounds_toArray, List.set_cons_zero, List.set_cons_succ]
    refine take_at (i := 2) (v := ?_) rfl (by kernel_rfl) (by kernel_rfl) (by kernel_rfl) (fun _ _ _ h => h) (by kernel_rfl) (by assumption) ?_ ?_
    rotate_left
    · (intro w hSw; (try dsimp only at hSw); go_simp; try with_reducible rfl)
    simp only [Act.put, List.setIfInBounds_toArray, List.set_cons_zero, List.set_cons_succ]
    refine take_at (i := 3) (v := ?_) rfl (by kernel_rfl) (by kernel_rfl) (by kernel_rfl) (fun _ _ _ h => h) (by kernel_rfl) (by assumption) ?_ ?_
    rotate_left
    · (intro w hSw; (try dsimp only at hSw); go_simp; try with_reducible rfl)
    simp only [Act.put, List.setIfInBounds_toArray, List.set_cons_zero, List.set_cons_succ]
    refine take_at (i := 4) (v := ?_) rfl (by kernel_rfl) (by kernel_rfl) (by kernel_rfl) (fun _ _ _ h => h) (by kernel_rfl) (by assumption) ?_ ?_
    rotate_left
    · (intro w hSw; (try dsimp only at hSw); go_simp; try with_reducible rfl)
    simp only [Act.put, List.setIfInBounds_toArray, List.set_cons_zero, List.set_cons_succ]
    refine take_at (i := 5) (v := ?_) rfl (by kernel_rfl) (by kernel_rfl) (by kernel_rfl) (fun _ _ _ h => h) (by kernel_rfl) (by assumption) ?_ ?_
    rotate_left
    · (intro w hSw; (try dsimp only at hSw); go_simp; try with_reducible rfl)
    simp only [Act.put, List.setIfInBounds_toArray, List.set_cons_zero, List.set_cons_succ]
    refine take_at (i := 6) (v := ?_) rfl (by kernel_rfl) (by kernel_rfl) (by kernel_rfl) (fun _ _ _ h => h) (by kernel_rfl) (by assumption) ?_ ?_
    rotate_left
    · (intro w hSw; (try dsimp only at hSw); go_simp; try with_reducible rfl)
    simp only [Act.put, List.setIfInBounds_toArray, List.set_cons_zero, List.set_cons_succ]
    refine take_at (i := 7) (v := ?_) rfl (by kernel_rfl) (by kernel_rfl) (by kernel_rfl) (fun _ _ _ h => h) (by kernel_rfl) (by assumption) ?_ ?_
    rotate_left
    · (intro w hSw; (try dsimp only at hSw); go_simp; try with_reducible rfl)
    simp only [Act.put, List.setIfInBounds_toArray, List.set_cons_zero, List.set_cons_succ]
    refine take_at (i := 8) (v := ?_) rfl (by kernel_rfl) (by kernel_rfl) (by kernel_rfl) (fun _ _ _ h => h) (by kernel_rfl) (by assumption) ?_ ?_
    rotate_left
    · (intro w hSw; (try dsimp only at hSw); go_simp; try with_reducible rfl)
    simp only [Act.put, List.setIfInBounds_toArray, List.set_cons_zero, List.set_cons_succ]
    refine take_at (i := 9) (v := ?_) rfl (by kernel_rfl) (by kernel_rfl) (by kernel_rfl) (fun _ _ _ h => h) (by kernel_rfl) (by assumption) ?_ ?_
    rotate_left
    · (intro w hSw; (try dsimp only at hSw); go_simp; try with_reducible rfl)
    simp only [Act.put, List.setIfInBounds_toArray, List.set_cons_zero, List.set_cons_succ]
    refine take_at (i := 10) (v := ?_) rfl (by kernel_rfl) (by kernel_rfl) (by kernel_rfl) (fun _ _ _ h => h) (by kernel_rfl) (by assumption) ?_ ?_
    rotate_left
    · (intro w hSw; (try dsimp only at hSw); go_simp; try with_reducible rfl)
    simp only [Act.put, List.setIfInBounds_toArray, List.set_cons_zero, List.set_cons_succ]
    refine take_at (i := 11) (v := ?_) rfl (by kernel_rfl) (by kernel_rfl) (by kernel_rfl) (fun _ _ _ h => h) (by kernel_rfl) (by assumption) ?_ ?_
    rotate_left
    · (intro w hSw; (try dsimp only at hSw); go_simp; try with_reducible rfl)
    simp only [Act.put, List.setIfInBounds_toArray, List.set_cons_zero, List.set_cons_succ]
    refine take_at (i := 12) (v := ?_) rfl (by kernel_rfl) (by kernel_rfl) (by kernel_rfl) (fun _ _ _ h => h) (by kernel_rfl) (by assumption) ?_ ?_
    rotate_left
    · (intro w hSw; (try dsimp only at hSw); go_simp; try with_reducible rfl)
    simp only [Act.put, List.setIfInBounds_toArray, List.set_cons_zero, List.set_cons_succ]
    refine take_at (i := 13) (v := ?_) rfl (by kernel_rfl) (by kernel_rfl) (by kernel_rfl) (fun _ _ _ h => h) (by kernel_rfl) (by assumption) ?_ ?_
    rotate_left
    · (intro w hSw; (try dsimp only at hSw); go_simp; try with_reducible rfl)
    simp only [Act.put, List.setIfInBounds_toArray, List.set_cons_zero, List.set_cons_succ]
    refine take_at (i := 14) (v := ?_) rfl (by kernel_rfl) (by kernel_rfl) (by kernel_rfl) (fun _ _ _ h => h) (by kernel_rfl) (by assumption) ?_ ?_
    rotate_left
    · (intro w hSw; (try dsimp only at hSw); go_simp; try with_reducible rfl)
    simp only [Act.put, List.setIfInBounds_toArray, List.set_cons_zero, List.set_cons_succ]
    refine take_at (i := 15) (v := ?_) rfl (by kernel_rfl) (by kernel_rfl) (by kernel_rfl) (fun _ _ _ h => h) (by kernel_rfl) (by assumption) ?_ ?_
    rotate_left
    · (intro w hSw; (try dsimp only at hSw); go_simp; try with_reducible rfl)
    simp only [Act.put, List.setIfInBounds_toArray, List.set_cons_zero, List.set_cons_succ]
    refine skip_at (i := 16) rfl (by kernel_rfl) (by kernel_rfl) (by kernel_rfl) (fun _ _ _ h => h) (by kernel_rfl) (by assumption) ?_
    simp only [Act.put, List.setIfInBounds_toArray, List.set_cons_zero, List.set_cons_succ]
    refine skip_at (i := 17) rfl (by kernel_rfl) (by kernel_rfl) (by kernel_rfl) (fun _ _ _ h => h) (by kernel_rfl) (by assumption) ?_
    simp only [Act.put, List.setIfInBounds_toArray, List.set_cons_zero, List.set_cons_succ]
    refine skip_at (i := 18) rfl (by kernel_rfl) (by kernel_rfl) (by kernel_rfl) (fun _ _ _ h => h) (by kernel_rfl) (by assumption) ?_
    simp only [Act.put, List.setIfInBounds_toArray, List.set_cons_zero, List.set_cons_succ]
    refine skip_at (i := 19) rfl (by kernel_rfl) (by kernel_rfl) (by kernel_rfl) (fun _ _ _ h => h) (by kernel_rfl) (by assumption) ?_
    simp only [Act.put, List.setIfInBounds_toArray, List.set_cons_zero, List.set_cons_succ]
    refine take_at (i := 20) (v := ?_) rfl (by kernel_rfl) (by kernel_rfl) (by kernel_rfl) (fun _ _ _ h => h) (by kernel_rfl) (by assumption) ?_ ?_
    rotate_left
    · (intro w hSw; (try dsimp only at hSw); go_simp; try with_reducible rfl)
    simp only [Act.put, List.setIfInBounds_toArray, List.set_cons_zero, List.set_cons_succ]
    refine take_at (i := 21) (v := ?_) rfl (by kernel_rfl) (by kernel_rfl) (by kernel_rfl) (fun _ _ _ h => h) (by kernel_rfl) (by assumption) ?_ ?_
    rotate_left
    · (intro w hSw; (try dsimp only at hSw); go_simp; try with_reducible rfl)
    simp only [Act.put, List.setIfInBounds_toArray, List.set_cons_zero, List.set_cons_succ]
    refine take_at (i := 22) (v := ?_) rfl (by kernel_rfl) (by kernel_rfl) (by kernel_rfl) (fun _ _ _ h => h) (by kernel_rfl) (by assumption) ?_ ?_
    rotate_left
    · (intro w hSw; (try dsimp only at hSw); go_simp; try with_reducible rfl)
    simp only [Act.put, List.setIfInBounds_toArray, List.set_cons_zero, List.set_cons_succ]
    refine take_at (i := 23) (v := ?_) rfl (by kernel_rfl) (by kernel_rfl) (by kernel_rfl) (fun _ _ _ h => h) (by kernel_rfl) (by assumption) ?_ ?_
    rotate_left
    · (intro w hSw; (try dsimp only at hSw); go_simp; try with_reducible rfl)
    simp only [Act.put, List.setIfInBounds_toArray, List.set_cons_zero, List.set_cons_succ]
    refine take_at (i := 24) (v := ?_) rfl (by kernel_rfl) (by kernel_rfl) (by kernel_rfl) (fun _ _ _ h => h) (by kernel_rfl) (by assumption) ?_ ?_
    rotate_left
    · (intro w hSw; (try dsimp only at hSw); go_simp; try with_reducible rfl)
    simp only [Act.put, List.setIfInBounds_toArray, List.set_cons_zero, List.set_cons_succ]
    refine take_at (i := 25) (v := ?_) rfl (by kernel_rfl) (by kernel_rfl) (by kernel_rfl) (fun _ _ _ h => h) (by kernel_rfl) (by assumption) ?_ ?_
    rotate_left
    · (intro w hSw; (try dsimp only at hSw); go_simp; try with_reducible rfl)
    simp only [Act.put, List.setIfInBounds_toArray, List.set_cons_zero, List.set_cons_succ]
    refine take_at (i := 26) (v := ?_) rfl (by kernel_rfl) (by kernel_rfl) (by kernel_rfl) (fun _ _ _ h => h) (by kernel_rfl) (by assumption) ?_ ?_
    rotate_left
    · (intro w hSw; (try dsimp only at hSw); go_simp; try with_reducible rfl)
    simp only [Act.put, List.setIfInBounds_toArray, List.set_cons_zero, List.set_cons_succ]
    refine take_at (i := 27) (v := ?_) rfl (by kernel_rfl) (by kernel_rfl) (by kernel_rfl) (fun _ _ _ h => h) (by kernel_rfl) (by assumption) ?_ ?_
    rotate_left
    · (intro w hSw; (try dsimp only at hSw); go_simp; try with_reducible rfl)
    simp only [Act.put, List.setIfInBounds_toArray, List.set_cons_zero, List.set_cons_succ]
    refine take_at (i := 28) (v := ?_) rfl (by kernel_rfl) (by kernel_rfl) (by kernel_rfl) (fun _ _ _ h => h) (by kernel_rfl) (by assumption) ?_ ?_
    rotate_left
    · (intro w hSw; (try dsimp only at hSw); go_simp; try with_reducible rfl)
    simp only [Act.put, List.setIfInBounds_toArray, List.set_cons_zero, List.set_cons_succ]
    refine take_at (i := 29) (v := ?_) rfl (by kernel_rfl) (by kernel_rfl) (by kernel_rfl) (fun _ _ _ h => h) (by kernel_rfl) (by assumption) ?_ ?_
    rotate_left
    · (intro w hSw; (try dsimp only at hSw); go_simp; try with_reducible rfl)
    simp only [Act.put, List.setIfInBounds_toArray, List.set_cons_zero, List.set_cons_succ]
    refine take_at (i := 30) (v := ?_) rfl (by kernel_rfl) (by kernel_rfl) (by kernel_rfl) (fun _ _ _ h => h) (by kernel_rfl) (by assumption) ?_ ?_
    rotate_left
    · (intro w hSw; (try dsimp only at hSw); go_simp; try with_reducible rfl)
    simp only [Act.put, List.setIfInBounds_toArray, List.set_cons_zero, List.set_cons_succ]
    refine take_at (i := 31) (v := ?_) rfl (by kernel_rfl) (by kernel_rfl) (by kernel_rfl) (fun _ _ _ h => h) (by kernel_rfl) (by assumption) ?_ ?_
    rotate_left
    · (intro w hSw; (try dsimp only at hSw); go_simp; try with_reducible rfl)
    simp only [Act.put, List.setIfInBounds_toArray, List.set_cons_zero, List.set_cons_succ]
    refine take_at (i := 32) (v := ?_) rfl (by kernel_rfl) (by kernel_rfl) (by kernel_rfl) (fun _ _ _ h => h) (by kernel_rfl) (by assumption) ?_ ?_
    rotate_left
    · (intro w hSw; (try dsimp only at hSw); go_simp; try with_reducible rfl)
    simp only [Act.put, List.setIfInBounds_toArray, List.set_cons_zero, List.set_cons_succ]
    refine take_at (i := 33) (v := ?_) rfl (by kernel_rfl) (by kernel_rfl) (by kernel_rfl) (fun _ _ _ h => h) (by kernel_rfl) (by assumption) ?_ ?_
    rotate_left
    · (intro w hSw; (try dsimp only at hSw); go_simp; try with_reducible rfl)
    simp only [Act.put, List.setIfInBounds_toArray, List.set_cons_zero, List.set_cons_succ]
    refine do_at (i := 34) rfl (by kernel_rfl) (by kernel_rfl) (fun K hK => ?_)
    go_simp
    refine (index_any _ _).mono ?_
    rintro e u4 ⟨rfl, bb⟩
    replace HW := Lib.hid (HW.out.trans (bb.mono HW.out.size))
    clear bb
    go_wp2_with fail
    refine hK.out _ _ ?_ (fun hHeld => ?_)
    · exact HKEEP.out _ HW.out
    clear hK K
    try simp only [Act.put, List.setIfInBounds_toArray, List.set_cons_zero, List.set_cons_succ]
    refine take_at (i := 35) (v := ?_) rfl (by kernel_rfl) (by kernel_rfl) (by kernel_rfl) (fun _ _ _ h => h) (by kernel_rfl) (by assumption) ?_ ?_
    rotate_left
    · (intro w hSw; (try dsimp only at hSw); go_simp; try with_reducible rfl)
    simp only [Act.put, List.setIfInBounds_toArray, List.set_cons_zero, List.set_cons_succ]
    refine take_at (i := 36) (v := ?_) rfl (by kernel_rfl) (by kernel_rfl) (by kernel_rfl) (fun _ _ _ h => h) (by kernel_rfl) (by assumption) ?_ ?_
    rotate_left
    · (intro w hSw; (try dsimp only at hSw); go_simp; try with_reducible rfl)
    simp only [Act.put, List.setIfInBounds_toArray, List.set_cons_zero, List.set_cons_succ]
    refine take_at (i := 37) (v := ?_) rfl (by kernel_rfl) (by kernel_rfl) (by kernel_rfl) (fun _ _ _ h => h) (by kernel_rfl) (by assumption) ?_ ?_
    rotate_left
    · (intro w hSw; (try dsimp only at hSw); go_simp; try with_reducible rfl)
    simp only [Act.put, List.setIfInBounds_toArray, List.set_cons_zero, List.set_cons_succ]
    refine take_at (i := 38) (v := ?_) rfl (by kernel_rfl) (by kernel_rfl) (by kernel_rfl) (fun _ _ _ h => h) (by kernel_rfl) (by assumption) ?_ ?_
    rotate_left
    · (intro w hSw; (try dsimp only at hSw); go_simp; try with_reducible rfl)
    simp only [Act.put, List.setIfInBounds_toArray, List.set_cons_zero, List.set_cons_succ]
    refine wpAnyH_done (by kernel_rfl) ?_ _
    go_wp2
    go_ret
    exact ⟨rfl, HBF.out.trans (HW.out.mono HBF.out.size)⟩
  · have g0 : ((n : Int) == 0) = false := by simp; omega
    have g30 : decide ((n : Int) ≥ 30) = true := by simp; omega
    have q30 : decide (30 ≤ (n : Int)) = true := by simp; omega
    have g90 : decide ((n : Int) ≥ 90) = false := by simp; omega
    have q90 : decide (90 ≤ (n : Int)) = false := by simp; omega
    have g40 : decide ((n : Int) ≥ 40) = false := by simp; omega
    have q40 : decide (40 ≤ (n : Int)) = false := by simp; omega
    have g100 : decide ((n : Int) ≥ 100) = false := by simp; omega
    have q100 : decide (100 ≤ (n : Int)) = false := by simp; omega
    have l37 : decide ((n : Int) ≤ 37) = false := by simp; omega
    have l97 : decide ((n : Int) ≤ 97) = true := by simp; omega
    have l47 : decide ((n : Int) ≤ 47) = true := by simp; omega
    have l107 : decide ((n : Int) ≤ 107) = true := by simp; omega
    have e39 : ((n : Int) == 39) = false := by simp; omega
    have x39 : ((n : Int) != 39) = true := by simp; omega
    have e49 : ((n : Int) == 49) = false := by simp; omega
    have x49 : ((n : Int) != 49) = true := by simp; omega
    have hE : b = a.flags s c := by rw [HBE.out, HS.out, HC.out]; exact simple_flags a HOA.out.2.2 n (by omega)
    have hc16 : c < 65536 := by
      rw [HC.out]
      unfold clrsN
      repeat' split
      all_goals decide
    have hs16 : s < 65536 := by
      rw [HS.out]
      unfold setsN
      repeat' split
      all_goals decide
    obtain ⟨g, hg⟩ : ∃ g, g = a.fl &&& (65535 - c) := ⟨_, rfl⟩
    have hg16 : g < 65536 := by rw [hg]; exact Nat.lt_of_le_of_lt Nat.and_le_left HOA.out.2.2
    have u1' : bits .andNot .u16 (a.fl : Int) (c : Int) = (g : Int) := by rw [hg]; exact u16_andN a.fl c HOA.out.2.2 hc16
    have u2' : bits .or .u16 (g : Int) (s : Int) = (b.fl : Int) := by rw [u16_orN g s hg16 hs16, hE, hg]; rfl
    have hqf : ∀ w, (Op.equalIn 10000 23 (colV b.fg) (colV a.fg)).run Tryd.prog w = .ok true w := fun w => (eqCol 9998 w b.fg a.fg).trans (by rw [(eqC_iff b.fg a.fg).2 (by rw [hE]; rfl)])
    have hqg : ∀ w, (Op.equalIn 10000 23 (colV b.bg) (colV a.bg)).run Tryd.prog w = .ok true w := fun w => (eqCol 9998 w b.bg a.bg).trans (by rw [(eqC_iff b.bg a.bg).2 (by rw [hE]; rfl)])
    obtain ⟨s0, s1, s2, s3, s4, s5, s6, s7, s8, s9, s10, s11, s12, s13, s14, s15, s16, s17⟩ := HKEEP.out _ (Below.refl m2.heap.size m2)
    have k7 := HK7.out
    have k8 := HK8.out
    clear h hE hg hc16 hs16 hg16 HKEEP HBE HS HC HK7 HK8
    go_wp2
    go_ret
    exact ⟨rfl, HBF.out⟩
  · have g0 : ((n : Int) == 0) = false := by simp; omega
    have g30 : decide ((n : Int) ≥ 30) = true := by simp; omega
    have q30 : decide (30 ≤ (n : Int)) = true := by simp; omega
    have g90 : decide ((n : Int) ≥ 90) = false := by simp; omega
    have q90 : decide (90 ≤ (n : Int)) = false := by simp; omega
    have g40 : decide ((n : Int) ≥ 40) = false := by simp; omega
    have q40 : decide (40 ≤ (n : Int)) = false := by simp; omega
    have g100 : decide ((n : Int) ≥ 100) = false := by simp; omega
    have q100 : decide (100 ≤ (n : Int)) = false := by simp; omega
    have l37 : decide ((n : Int) ≤ 37) = false := by simp; omega
    have l97 : decide ((n : Int) ≤ 97) = true := by simp; omega
    have l47 : decide ((n : Int) ≤ 47) = true := by simp; omega
    have l107 : decide ((n : Int) ≤ 107) = true := by simp; omega
    have e39 : ((n : Int) == 39) = true := by simp; omega
    have x39 : ((n : Int) != 39) = false := by simp; omega
    have e49 : ((n : Int) == 49) = false := by simp; omega
    have x49 : ((n : Int) != 49) = true := by simp; omega
    have hE : b = { a with fg := Cl.zero } := by rw [HBE.out, h]; rfl
    have hqx : ∀ w, (Op.equalIn 10000 23 (colV b.fg) (.agg #[.int .u8 0, .int .u8 0, .int .u8 0, .int .u8 0])).run Tryd.prog w = .ok true w := fun w => (eqCol 9998 w b.fg Cl.zero).trans (by rw [(eqC_iff b.fg Cl.zero).2 (by rw [hE])])
    have hqo : ∀ w, (Op.equalIn 10000 23 (colV b.bg) (colV a.bg)).run Tryd.prog w = .ok true w := fun w => (eqCol 9998 w b.bg a.bg).trans (by rw [(eqC_iff b.bg a.bg).2 (by rw [hE])])
    have hfe : ((b.fl : Int) == (a.fl : Int)) = true := by rw [hE]; simp
    clear h hE  HBE HS HC HK7 HK8
    go_upto_region 12 with (fail)
    have BB : Below m2.heap.size m2 m2.drew := ⟨rfl, rfl, rfl, Nat.le_refl _, fun _ _ => rfl⟩
    refine wp_region_held_drew (S := fun w' => w'.cell? ⟨z, 0, none⟩ = some (.int .u8 a.fg.k) ∧ w'.cell? ⟨z, 1, none⟩ = some (.int .u8 a.fg.r) ∧ w'.cell? ⟨z, 2, none⟩ = some (.int .u8 a.fg.g) ∧ w'.cell? ⟨z, 3, none⟩ = some (.int .u8 a.fg.b) ∧ w'.cell? ⟨z, 4, none⟩ = some (.int .u8 a.bg.k) ∧ w'.cell? ⟨z, 5, none⟩ = some (.int .u8 a.bg.r) ∧ w'.cell? ⟨z, 6, none⟩ = some (.int .u8 a.bg.g) ∧ w'.cell? ⟨z, 7, none⟩ = some (.int .u8 a.bg.b) ∧ w'.cell? ⟨z, 8, none⟩ = some (.int .u16 (a.fl : Nat)) ∧ w'.cell? ⟨y, 0, none⟩ = some (.int .u8 b.fg.k) ∧ w'.cell? ⟨y, 1, none⟩ = some (.int .u8 b.fg.r) ∧ w'.cell? ⟨y, 2, none⟩ = some (.int .u8 b.fg.g) ∧ w'.cell? ⟨y, 3, none⟩ = some (.int .u8 b.fg.b) ∧ w'.cell? ⟨y, 4, none⟩ = some (.int .u8 b.bg.k) ∧ w'.cell? ⟨y, 5, none⟩ = some (.int .u8 b.bg.r) ∧ w'.cell? ⟨y, 6, none⟩ = some (.int .u8 b.bg.g) ∧ w'.cell? ⟨y, 7, none⟩ = some (.int .u8 b.bg.b) ∧ w'.cell? ⟨y, 8, none⟩ = some (.int .u16 (b.fl : Nat))) (by kernel_rfl) ?_ (fun hHeld => ?_)
    · exact HKEEP.out _ BB
    obtain ⟨u0, hu0⟩ : ∃ u0, u0 = m2.drew := ⟨_, rfl⟩
    rw [← hu0] at BB hHeld ⊢
    clear hu0
    have HW := Lib.hid BB
    clear BB
    refine take_at (i := 0) (v := ?_) rfl (by kernel_rfl) (by kernel_rfl) (by kernel_rfl) (fun _ _ _ h => h) (by kernel_rfl) (by assumption) ?_ ?_
    rotate_left
    · (intro w hSw; (try dsimp only at hSw); go_simp; try with_reducible rfl)
    simp only [Act.put, List.setIfInBounds_toArray, List.set_cons_zero, List.set_cons_succ]
    refine take_at (i := 1) (v := ?_) rfl (by kernel_rfl) (by kernel_rfl) (by kernel_rfl) (fun _ _ _ h => h) (by kernel_rfl) (by assumption) ?_ ?_
    rotate_left
    · (intro w hSw; (try dsimp only at hSw); go_simp; try with_reducible rfl)
    simp only [Act.put, List.setIfInBounds_toArray, List.set_cons_zero, List.set_cons_succ]
    refine take_at (i := 2) (v := ?_) rfl (by kernel_rfl) (by kernel_rfl) (by kernel_rfl) (fun _ _ _ h => h) (by kernel_rfl) (by assumption) ?_ ?_
    rotate_left
    · (intro w hSw; (try dsimp only at hSw); go_simp; try with_reducible rfl)
    simp only [Act.put, List.setIfInBounds_toArray, List.set_cons_zero, List.set_cons_succ]
    refine take_at (i := 3) (v := ?_) rfl (by kernel_rfl) (by kernel_rfl) (by kernel_rfl) (fun _ _ _ h => h) (by kernel_rfl) (by assumption) ?_ ?_
    rotate_left
    · (intro w hSw; (try dsimp only at hSw); go_simp; try with_reducible rfl)
    simp only [Act.put, List.setIfInBounds_toArray, List.set_cons_zero, List.set_cons_succ]
    refine take_at (i := 4) (v := ?_) rfl (by kernel_rfl) (by kernel_rfl) (by kernel_rfl) (fun _ _ _ h => h) (by kernel_rfl) (by assumption) ?_ ?_
    rotate_left
    · (intro w hSw; (try dsimp only at hSw); go_simp; try with_reducible rfl)
    simp only [Act.put, List.setIfInBounds_toArray, List.set_cons_zero, List.set_cons_succ]
    refine take_at (i := 5) (v := ?_) rfl (by kernel_rfl) (by kernel_rfl) (by kernel_rfl) (fun _ _ _ h => h) (by kernel_rfl) (by assumption) ?_ ?_
    rotate_left
    · (intro w hSw; (try dsimp only at hSw); go_simp; try with_reducible rfl)
    simp only [Act.put, List.setIfInBounds_toArray, List.set_cons_zero, List.set_cons_succ]
    refine take_at (i := 6) (v := ?_) rfl (by kernel_rfl) (by kernel_rfl) (by kernel_rfl) (fun _ _ _ h => h) (by kernel_rfl) (by assumption) ?_ ?_
    rotate_left
    · (intro w hSw; (try dsimp only at hSw); go_simp; try with_reducible rfl)
    simp only [Act.put, List.setIfInBounds_toArray, List.set_cons_zero, List.set_cons_succ]
    refine take_at (i := 7) (v := ?_) rfl (by kernel_rfl) (by kernel_rfl) (by kernel_rfl) (fun _ _ _ h => h) (by kernel_rfl) (by assumption) ?_ ?_
    rotate_left
    · (intro w hSw; (try dsimp only at hSw); go_simp; try with_reducible rfl)
    simp only [Act.put, List.setIfInBounds_toArray, List.set_cons_zero, List.set_cons_succ]
    refine take_at (i := 8) (v := ?_) rfl (by kernel_rfl) (by kernel_rfl) (by kernel_rfl) (fun _ _ _ h => h) (by kernel_rfl) (by assumption) ?_ ?_
    rotate_left
    · (intro w hSw; (try dsimp only at hSw); go_simp; try with_reducible rfl)
    simp only [Act.put, List.setIfInBounds_toArray, List.set_cons_zero, List.set_cons_succ]
    refine take_at (i := 9) (v := ?_) rfl (by kernel_rfl) (by kernel_rfl) (by kernel_rfl) (fun _ _ _ h => h) (by kernel_rfl) (by assumption) ?_ ?_
    rotate_left
    · (intro w hSw; (try dsimp only at hSw); go_simp; try with_reducible rfl)
    simp only [Act.put, List.setIfInBounds_toArray, List.set_cons_zero, List.set_cons_succ]
    refine take_at (i := 10) (v := ?_) rfl (by kernel_rfl) (by kernel_rfl) (by kernel_rfl) (fun _ _ _ h => h) (by kernel_rfl) (by assumption) ?_ ?_
    rotate_left
    · (intro w hSw; (try dsimp only at hSw); go_simp; try with_reducible rfl)
    simp only [Act.put, List.setIfInBounds_toArray, List.set_cons_zero, List.set_cons_succ]
    refine take_at (i := 11) (v := ?_) rfl (by kernel_rfl) (by kernel_rfl) (by kernel_rfl) (fun _ _ _ h => h) (by kernel_rfl) (by assumption) ?_ ?_
    rotate_left
    · (intro w hSw; (try dsimp only at hSw); go_simp; try with_reducible rfl)
    simp only [Act.put, List.setIfInBounds_toArray, List.set_cons_zero, List.set_cons_succ]
    refine take_at (i := 12) (v := ?_) rfl (by kernel_rfl) (by kernel_rfl) (by kernel_rfl) (fun _ _ _ h => h) (by kernel_rfl) (by assumption) ?_ ?_
    rotate_left
    · (intro w hSw; (try dsimp only at hSw); go_simp; try with_reducible rfl)
    simp only [Act.put, List.setIfInBounds_toArray, List.set_cons_zero, List.set_cons_succ]
    refine take_at (i := 13) (v := ?_) rfl (by kernel_rfl) (by kernel_rfl) (by kernel_rfl) (fun _ _ _ h => h) (by kernel_rfl) (by assumption) ?_ ?_
    rotate_left
    · (intro w hSw; (try dsimp only at hSw); go_simp; try with_reducible rfl)
    simp only [Act.put, List.setIfInBounds_toArray, List.set_cons_zero, List.set_cons_succ]
    refine take_at (i := 14) (v := ?_) rfl (by kernel_rfl) (by kernel_rfl) (by kernel_rfl) (fun _ _ _ h => h) (by kernel_rfl) (by assumption) ?_ ?_
    rotate_left
    · (intro w hSw; (try dsimp only at hSw); go_simp; try with_reducible rfl)
    simp only [Act.put, List.setIfInBounds_toArray, List.set_cons_zero, List.set_cons_succ]
    refine take_at (i := 15) (v := ?_) rfl (by kernel_rfl) (by kernel_rfl) (by kernel_rfl) (fun _ _ _ h => h) (by kernel_rfl) (by assumption) ?_ ?_
    rotate_left
    · (intro w hSw; (try dsimp only at hSw); go_simp; try with_reducible rfl)
    simp only [Act.put, List.setIfInBounds_toArray, List.set_cons_zero, List.set_cons_succ]
    refine take_at (i := 16) (v := ?_) rfl (by kernel_rfl) (by kernel_rfl) (by kernel_rfl) (fun _ _ _ h => h) (by kernel_rfl) (by assumption) ?_ ?_
    rotate_left
    · (intro w hSw; (try dsimp only at hSw); go_simp; try with_reducible rfl)
    simp only [Act.put, List.setIfInBounds_toArray, List.set_cons_zero, List.set_cons_succ]
    refine take_at (i := 17) (v := ?_) rfl (by kernel_rfl) (by kernel_rfl) (by kernel_rfl) (fun _ _ _ h => h) (by kernel_rfl) (by assumption) ?_ ?_
    rotate_left
    · (intro w hSw; (try dsimp only at hSw); go_simp; try with_reducible rfl)
    simp only [Act.put, List.setIfInBounds_toArray, List.set_cons_zero, List.set_cons_succ]
    refine take_at (i := 18) (v := ?_) rfl (by kernel_rfl) (by kernel_rfl) (by kernel_rfl) (fun _ _ _ h => h) (by kernel_rfl) (by assumption) ?_ ?_
    rotate_left
    · (intro w hSw; (try dsimp only at hSw); go_simp; try with_reducible rfl)
    simp only [Act.put, List.setIfInBounds_toArray, List.set_cons_zero, List.set_cons_succ]
    refine take_at (i := 19) (v := ?_) rfl (by kernel_rfl) (by kernel_rfl) (by kernel_rfl) (fun _ _ _ h => h) (by kernel_rfl) (by assumption) ?_ ?_
    rotate_left
    · (intro w hSw; (try dsimp only at hSw); go_simp; try with_reducible rfl)
    simp only [Act.put, List.setIfInBounds_toArray, List.set_cons_zero, List.set_cons_succ]
    refine take_at (i := 20) (v := ?_) rfl (by kernel_rfl) (by kernel_rfl) (by kernel_rfl) (fun _ _ _ h => h) (by kernel_rfl) (by assumption) ?_ ?_
    rotate_left
    · (intro w hSw; (try dsimp only at hSw); go_simp; try with_reducible rfl)
    simp only [Act.put, List.setIfInBounds_toArray, List.set_cons_zero, List.set_cons_succ]
    refine take_at (i := 21) (v := ?_) rfl (by kernel_rfl) (by kernel_rfl) (by kernel_rfl) (fun _ _ _ h => h) (by kernel_rfl) (by assumption) ?_ ?_
    rotate_left
    · (intro w hSw; (try dsimp only at hSw); go_simp; try with_reducible rfl)
    simp only [Act.put, List.setIfInBounds_toArray, List.set_cons_zero, List.set_cons_succ]
    refine take_at (i := 22) (v := ?_) rfl (by kernel_rfl) (by kernel_rfl) (by kernel_rfl) (fun _ _ _ h => h) (by kernel_rfl) (by assumption) ?_ ?_
    rotate_left
    · (intro w hSw; (try dsimp only at hSw); go_simp; try with_reducible rfl)
    simp only [Act.put, List.setIfInBounds_toArray, List.set_cons_zero, List.set_cons_succ]
    refine take_at (i := 23) (v := ?_) rfl (by kernel_rfl) (by kernel_rfl) (by kernel_rfl) (fun _ _ _ h => h) (by kernel_rfl) (by assumption) ?_ ?_
    rotate_left
    · (intro w hSw; (try dsimp only at hSw); go_simp; try with_reducible rfl)
    simp only [Act.put, List.setIfInBounds_toArray, List.set_cons_zero, List.set_cons_succ]
    refine take_at (i := 24) (v := ?_) rfl (by kernel_rfl) (by kernel_rfl) (by kernel_rfl) (fun _ _ _ h => h) (by kernel_rfl) (by assumption) ?_ ?_
    rotate_left
    · (intro w hSw; (try dsimp only at hSw); go_simp; try with_reducible rfl)
    simp only [Act.put, List.setIfInBounds_toArray, List.set_cons_zero, List.set_cons_succ]
    refine take_at (i := 25) (v := ?_) rfl (by kernel_rfl) (by kernel_rfl) (by kernel_rfl) (fun _ _ _ h => h) (by kernel_rfl) (by assumption) ?_ ?_
    rotate_left
    · (intro w hSw; (try dsimp only at hSw); go_simp; try with_reducible rfl)
    simp only [Act.put, List.setIfInBounds_toArray, List.set_cons_zero, List.set_cons_succ]
    refine skip_at (i := 26) rfl (by kernel_rfl) (by kernel_rfl) (by kernel_rfl) (fun _ _ _ h => h) (by kernel_rfl) (by assumption) ?_
    simp only [Act.put, List.setIfInBounds_toArray, List.set_cons_zero, List.set_cons_succ]
    refine skip_at (i := 27) rfl (by kernel_rfl) (by kernel_rfl) (by kernel_rfl) (fun _ _ _ h => h) (by kernel_rfl) (by assumption) ?_
    simp only [Act.put, List.setIfInBounds_toArray, List.set_cons_zero, List.set_cons_succ]
    refine skip_at (i := 28) rfl (by kernel_rfl) (by kernel_rfl) (by kernel_rfl) (fun _ _ _ h => h) (by kernel_rfl) (by assumption) ?_
    simp only [Act.put, List.setIfInBounds_toArray, List.set_cons_zero, List.set_cons_succ]
    refine skip_at (i := 29) rfl (by kernel_rfl) (by kernel_rfl) (by kernel_rfl) (fun _ _ _ h => h) (by kernel_rfl) (by assumption) ?_
    simp only [Act.put, List.setIfInBounds_toArray, List.set_cons_zero, List.set_cons_succ]
    refine skip_at (i := 30) rfl (by kernel_rfl) (by kernel_rfl) (by kernel_rfl) (fun _ _ _ h => h) (by kernel_rfl) (by assumption) ?_
    simp only [Act.put, List.setIfInBounds_toArray, List.set_cons_zero, List.set_cons_succ]
    refine skip_at (i := 31) rfl (by kernel_rfl) (by kernel_rfl) (by kernel_rfl) (fun _ _ _ h => h) (by kernel_rfl) (by assumption) ?_
    simp only [Act.put, List.setIfInBounds_toArray, List.set_cons_zero, List.set_cons_succ]
    refine skip_at (i := 32) rfl (by kernel_rfl) (by kernel_rfl) (by kernel_rfl) (fun _ _ _ h => h) (by kernel_rfl) (by assumption) ?_
    simp only [Act.put, List.setIfInBounds_toArray, List.set_cons_zero, List.set_cons_succ]
    refine skip_at (i := 33) rfl (by kernel_rfl) (by kernel_rfl) (by kernel_rfl) (fun _ _ _ h => h) (by kernel_rfl) (by assumption) ?_
    simp only [Act.put, List.setIfInBounds_toArray, List.set_cons_zero, List.set_cons_succ]
    refine skip_at (i := 34) rfl (by kernel_rfl) (by kernel_rfl) (by kernel_rfl) (fun _ _ _ h => h) (by kernel_rfl) (by assumption) ?_
    simp only [Act.put, List.setIfInBounds_toArray, List.set_cons_zero, List.set_cons_succ]
    refine skip_at (i := 35) rfl (by kernel_rfl) (by kernel_rfl) (by kernel_rfl) (fun _ _ _ h => h) (by kernel_rfl) (by assumption) ?_
    simp only [Act.put, List.setIfInBounds_toArray, List.set_cons_zero, List.set_cons_succ]
    refine take_at (i := 36) (v := ?_) rfl (by kernel_rfl) (by kernel_rfl) (by kernel_rfl) (fun _ _ _ h => h) (by kernel_rfl) (by assumption) ?_ ?_
    rotate_left
    · (intro w hSw; (try dsimp only at hSw); go_simp; try with_reducible rfl)
    simp only [Act.put, List.setIfInBounds_toArray, List.set_cons_zero, List.set_cons_succ]
    refine take_at (i := 37) (v := ?_) rfl (by kernel_rfl) (by kernel_rfl) (by kernel_rfl) (fun _ _ _ h => h) (by kernel_rfl) (by assumption) ?_ ?_
    rotate_left
    · (intro w hSw; (try dsimp only at hSw); go_simp; try with_reducible rfl)
    simp only [Act.put, List.setIfInBounds_toArray, List.set_cons_zero, List.set_cons_succ]
    refine take_at (i := 38) (v := ?_) rfl (by kernel_rfl) (by kernel_rfl) (by kernel_rfl) (fun _ _ _ h => h) (by kernel_rfl) (by assumption) ?_ ?_
    rotate_left
    · (intro w hSw; (try dsimp only at hSw); go_simp; try with_reducible rfl)
    simp only [Act.put, List.setIfInBounds_toArray, List.set_cons_zero, List.set_cons_succ]
    refine wpAnyH_done (by kernel_rfl) ?_ _
    go_wp2
    go_ret
    exact ⟨rfl, HBF.out.trans (HW.out.mono HBF.out.size)⟩
  · have g0 : ((n : Int) == 0) = false := by simp; omega
    have g30 : decide ((n : Int) ≥ 30) = true := by simp; omega
    have q30 : decide (30 ≤ (n : Int)) = true := by simp; omega
    have g90 : decide ((n : Int) ≥ 90) = false := by simp; omega
    have q90 : decide (90 ≤ (n : Int)) = false := by simp; omega
    have g40 : decide ((n : Int) ≥ 40) = true := by simp; omega
    have q40 : decide (40 ≤ (n : Int)) = true := by simp; omega
    have g100 : decide ((n : Int) ≥ 100) = false := by simp; omega
    have q100 : decide (100 ≤ (n : Int)) = false := by simp; omega
    have l37 : decide ((n : Int) ≤ 37) = false := by simp; omega
    have l97 : decide ((n : Int) ≤ 97) = true := by simp; omega
    have l47 : decide ((n : Int) ≤ 47) = true := by simp; omega
    have l107 : decide ((n : Int) ≤ 107) = true := by simp; omega
    have e39 : ((n : Int) == 39) = false := by simp; omega
    have x39 : ((n : Int) != 39) = true := by simp; omega
    have e49 : ((n : Int) == 49) = false := by simp; omega
    have x49 : ((n : Int) != 49) = true := by simp; omega
    have hE : b = { a with bg := ⟨1, (n : Int) - 40, 0, 0⟩ } := by rw [HBE.out]; exact simple_bg a (by omega)
    obtain ⟨x, hx⟩ : ∃ x : Nat, x = n - 40 := ⟨_, rfl⟩
    obtain ⟨r, hr⟩ : ∃ r : Nat, r = n - 40 := ⟨_, rfl⟩
    have t1 : (n : Int).tmod 10 = (x : Int) := by rw [Int.tmod_eq_emod_of_nonneg (by omega)]; omega
    have t2 : (n : Int).tdiv 100 = 0 := by rw [Int.tdiv_eq_ediv_of_nonneg (by omega)]; omega
    have t3 : IntKind.u8.wrap (x : Int) = (x : Int) := by rw [IntKind.wrap_u8]; omega
    have t6 : IntKind.u8.wrap 0 = 0 := by decide
    have hqx : ∀ w, (Op.equalIn 10000 23 (colV b.bg) (.agg #[.int .u8 1, .int .u8 (x : Int), .int .u8 0, .int .u8 0])).run Tryd.prog w = .ok true w := fun w => (eqCol 9998 w b.bg ⟨1, x, 0, 0⟩).trans (by rw [(eqC_iff b.bg ⟨1, x, 0, 0⟩).2 (by rw [hE, show ((x : Nat) : Int) = (n : Int) - 40 by omega])])
    have hqo : ∀ w, (Op.equalIn 10000 23 (colV b.fg) (colV a.fg)).run Tryd.prog w = .ok true w := fun w => (eqCol 9998 w b.fg a.fg).trans (by rw [(eqC_iff b.fg a.fg).2 (by rw [hE])])
    have hfe : ((b.fl : Int) == (a.fl : Int)) = true := by rw [hE]; simp
    clear h hE hr hx HBE HS HC HK7 HK8
    go_upto_region 14 with (fail)
    have BB : Below m2.heap.size m2 m2.drew := ⟨rfl, rfl, rfl, Nat.le_refl _, fun _ _ => rfl⟩
    refine wp_region_held_drew (S := fun w' => w'.cell? ⟨z, 0, none⟩ = some (.int .u8 a.fg.k) ∧ w'.cell? ⟨z, 1, none⟩ = some (.int .u8 a.fg.r) ∧ w'.cell? ⟨z, 2, none⟩ = some (.int .u8 a.fg.g) ∧ w'.cell? ⟨z, 3, none⟩ = some (.int .u8 a.fg.b) ∧ w'.cell? ⟨z, 4, none⟩ = some (.int .u8 a.bg.k) ∧ w'.cell? ⟨z, 5, none⟩ = some (.int .u8 a.bg.r) ∧ w'.cell? ⟨z, 6, none⟩ = some (.int .u8 a.bg.g) ∧ w'.cell? ⟨z, 7, none⟩ = some (.int .u8 a.bg.b) ∧ w'.cell? ⟨z, 8, none⟩ = some (.int .u16 (a.fl : Nat)) ∧ w'.cell? ⟨y, 0, none⟩ = some (.int .u8 b.fg.k) ∧ w'.cell? ⟨y, 1, none⟩ = some (.int .u8 b.fg.r) ∧ w'.cell? ⟨y, 2, none⟩ = some (.int .u8 b.fg.g) ∧ w'.cell? ⟨y, 3, none⟩ = some (.int .u8 b.fg.b) ∧ w'.cell? ⟨y, 4, none⟩ = some (.int .u8 b.bg.k) ∧ w'.cell? ⟨y, 5, none⟩ = some (.int .u8 b.bg.r) ∧ w'.cell? ⟨y, 6, none⟩ = some (.int .u8 b.bg.g) ∧ w'.cell? ⟨y, 7, none⟩ = some (.int .u8 b.bg.b) ∧ w'.cell? ⟨y, 8, none⟩ = some (.int .u16 (b.fl : Nat))) (by kernel_rfl) ?_ (fun hHeld => ?_)
    · exact HKEEP.out _ BB
    obtain ⟨u0, hu0⟩ : ∃ u0, u0 = m2.drew := ⟨_, rfl⟩
    rw [← hu0] at BB hHeld ⊢
    clear hu0
    have HW := Lib.hid BB
    clear BB
    refine take_at (i := 0) (v := ?_) rfl (by kernel_rfl) (by kernel_rfl) (by kernel_rfl) (fun _ _ _ h => h) (by kernel_rfl) (by assumption) ?_ ?_
    rotate_left
    · (intro w hSw; (try dsimp only at hSw); go_simp; try with_reducible rfl)
    simp only [Act.put, List.setIfInBounds_toArray, List.set_cons_zero, List.set_cons_succ]
    refine take_at (i := 1) (v := ?_) rfl (by kernel_rfl) (by kernel_rfl) (by kernel_rfl) (fun _ _ _ h => h) (by kernel_rfl) (by assumption) ?_ ?_
    rotate_left
    · (intro w hSw; (try dsimp only at hSw); go_simp; try with_reducible rfl)
    simp only [Act.put, List.setIfInBounds_toArray, List.set_cons_zero, List.set_cons_succ]
    refine take_at (i := 2) (v := ?_) rfl (by kernel_rfl) (by kernel_rfl) (by kernel_rfl) (fun _ _ _ h => h) (by kernel_rfl) (by assumption) ?_ ?_
    rotate_left
    · (intro w hSw; (try dsimp only at hSw); go_simp; try with_reducible rfl)
    simp only [Act.put, List.setIfInBounds_toArray, List.set_cons_zero, List.set_cons_succ]
    refine take_at (i := 3) (v := ?_) rfl (by kernel_rfl) (by kernel_rfl) (by kernel_rfl) (fun _ _ _ h => h) (by kernel_rfl) (by assumption) ?_ ?_
    rotate_left
    · (intro w hSw; (try dsimp only at hSw); go_simp; try with_reducible rfl)
    simp only [Act.put, List.setIfInBounds_toArray, List.set_cons_zero, List.set_cons_succ]
    refine take_at (i := 4) (v := ?_) rfl (by kernel_rfl) (by kernel_rfl) (by kernel_rfl) (fun _ _ _ h => h) (by kernel_rfl) (by assumption) ?_ ?_
    rotate_left
    · (intro w hSw; (try dsimp only at hSw); go_simp; try with_reducible rfl)
    simp only [Act.put, List.setIfInBounds_toArray, List.set_cons_zero, List.set_cons_succ]
    refine take_at (i := 5) (v := ?_) rfl (by kernel_rfl) (by kernel_rfl) (by kernel_rfl) (fun _ _ _ h => h) (by kernel_rfl) (by assumption) ?_ ?_
    rotate_left
    · (intro w hSw; (try dsimp only at hSw); go_simp; try with_reducible rfl)
    simp only [Act.put, List.setIfInBounds_toArray, List.set_cons_zero, List.set_cons_succ]
    refine take_at (i := 6) (v := ?_) rfl (by kernel_rfl) (by kernel_rfl) (by kernel_rfl) (fun _ _ _ h => h) (by kernel_rfl) (by assumption) ?_ ?_
    rotate_left
    · (intro w hSw; (try dsimp only at hSw); go_simp; try with_reducible rfl)
    simp only [Act.put, List.setIfInBounds_toArray, List.set_cons_zero, List.set_cons_succ]
    refine take_at (i := 7) (v := ?_) rfl (by kernel_rfl) (by kernel_rfl) (by kernel_rfl) (fun _ _ _ h => h) (by kernel_rfl) (by assumption) ?_ ?_
    rotate_left
    · (intro w hSw; (try dsimp only at hSw); go_simp; try with_reducible rfl)
    simp only [Act.put, List.setIfInBounds_toArray, List.set_cons_zero, List.set_cons_succ]
    refine take_at (i := 8) (v := ?_) rfl (by kernel_rfl) (by kernel_rfl) (by kernel_rfl) (fun _ _ _ h => h) (by kernel_rfl) (by assumption) ?_ ?_
    rotate_left
    · (intro w hSw; (try dsimp only at hSw); go_simp; try with_reducible rfl)
    simp only [Act.put, List.setIfInBounds_toArray, List.set_cons_zero, List.set_cons_succ]
    refine take_at (i := 9) (v := ?_) rfl (by kernel_rfl) (by kernel_rfl) (by kernel_rfl) (fun _ _ _ h => h) (by kernel_rfl) (by assumption) ?_ ?_
    rotate_left
    · (intro w hSw; (try dsimp only at hSw); go_simp; try with_reducible rfl)
    simp only [Act.put, List.setIfInBounds_toArray, List.set_cons_zero, List.set_cons_succ]
    refine take_at (i := 10) (v := ?_) rfl (by kernel_rfl) (by kernel_rfl) (by kernel_rfl) (fun _ _ _ h => h) (by kernel_rfl) (by assumption) ?_ ?_
    rotate_left
    · (intro w hSw; (try dsimp only at hSw); go_simp; try with_reducible rfl)
    simp only [Act.put, List.setIfInBounds_toArray, List.set_cons_zero, List.set_cons_succ]
    refine take_at (i := 11) (v := ?_) rfl (by kernel_rfl) (by kernel_rfl) (by kernel_rfl) (fun _ _ _ h => h) (by kernel_rfl) (by assumption) ?_ ?_
    rotate_left
    · (intro w hSw; (try dsimp only at hSw); go_simp; try with_reducible rfl)
    simp only [Act.put, List.setIfInBounds_toArray, List.set_cons_zero, List.set_cons_succ]
    refine take_at (i := 12) (v := ?_) rfl (by kernel_rfl) (by kernel_rfl) (by kernel_rfl) (fun _ _ _ h => h) (by kernel_rfl) (by assumption) ?_ ?_
    rotate_left
    · (intro w hSw; (try dsimp only at hSw); go_simp; try with_reducible rfl)
    simp only [Act.put, List.setIfInBounds_toArray, List.set_cons_zero, List.set_cons_succ]
    refine take_at (i := 13) (v := ?_) rfl (by kernel_rfl) (by kernel_rfl) (by kernel_rfl) (fun _ _ _ h => h) (by kernel_rfl) (by assumption) ?_ ?_
    rotate_left
    · (intro w hSw; (try dsimp only at hSw); go_simp; try with_reducible rfl)
    simp only [Act.put, List.setIfInBounds_toArray, List.set_cons_zero, List.set_cons_succ]
    refine take_at (i := 14) (v := ?_) rfl (by kernel_rfl) (by kernel_rfl) (by kernel_rfl) (fun _ _ _ h => h) (by kernel_rfl) (by assumption) ?_ ?_
    rotate_left
    · (intro w hSw; (try dsimp only at hSw); go_simp; try with_reducible rfl)
    simp only [Act.put, List.setIfInBounds_toArray, List.set_cons_zero, List.set_cons_succ]
    refine take_at (i := 15) (v := ?_) rfl (by kernel_rfl) (by kernel_rfl) (by kernel_rfl) (fun _ _ _ h => h) (by kernel_rfl) (by assumption) ?_ ?_
    rotate_left
    · (intro w hSw; (try dsimp only at hSw); go_simp; try with_reducible rfl)
    simp only [Act.put, List.setIfInBounds_toArray, List.set_cons_zero, List.set_cons_succ]
    refine skip_at (i := 16) rfl (by kernel_rfl) (by kernel_rfl) (by kernel_rfl) (fun _ _ _ h => h) (by kernel_rfl) (by assumption) ?_
    simp only [Act.put, List.setIfInBounds_toArray, List.set_cons_zero, List.set_cons_succ]
    refine skip_at (i := 17) rfl (by kernel_rfl) (by kernel_rfl) (by kernel_rfl) (fun _ _ _ h => h) (by kernel_rfl) (by assumption) ?_
    simp only [Act.put, List.setIfInBounds_toArray, List.set_cons_zero, List.set_cons_succ]
    refine skip_at (i := 18) rfl (by kernel_rfl) (by kernel_rfl) (by kernel_rfl) (fun _ _ _ h => h) (by kernel_rfl) (by assumption) ?_
    simp only [Act.put, List.setIfInBounds_toArray, List.set_cons_zero, List.set_cons_succ]
    refine skip_at (i := 19) rfl (by kernel_rfl) (by kernel_rfl) (by kernel_rfl) (fun _ _ _ h => h) (by kernel_rfl) (by assumption) ?_
    simp only [Act.put, List.setIfInBounds_toArray, List.set_cons_zero, List.set_cons_succ]
    refine take_at (i := 20) (v := ?_) rfl (by kernel_rfl) (by kernel_rfl) (by kernel_rfl) (fun _ _ _ h => h) (by kernel_rfl) (by assumption) ?_ ?_
    rotate_left
    · (intro w hSw; (try dsimp only at hSw); go_simp; try with_reducible rfl)
    simp only [Act.put, List.setIfInBounds_toArray, List.set_cons_zero, List.set_cons_succ]
    refine take_at (i := 21) (v := ?_) rfl (by kernel_rfl) (by kernel_rfl) (by kernel_rfl) (fun _ _ _ h => h) (by kernel_rfl) (by assumption) ?_ ?_
    rotate_left
    · (intro w hSw; (try dsimp only at hSw); go_simp; try with_reducible rfl)
    simp only [Act.put, List.setIfInBounds_toArray, List.set_cons_zero, List.set_cons_succ]
    refine take_at (i := 22) (v := ?_) rfl (by kernel_rfl) (by kernel_rfl) (by kernel_rfl) (fun _ _ _ h => h) (by kernel_rfl) (by assumption) ?_ ?_
    rotate_left
    · (intro w hSw; (try dsimp only at hSw); go_simp; try with_reducible rfl)
    simp only [Act.put, List.setIfInBounds_toArray, List.set_cons_zero, List.set_cons_succ]
    refine take_at (i := 23) (v := ?_) rfl (by kernel_rfl) (by kernel_rfl) (by kernel_rfl) (fun _ _ _ h => h) (by kernel_rfl) (by assumption) ?_ ?_
    rotate_left
    · (intro w hSw; (try dsimp only at hSw); go_simp; try with_reducible rfl)
    simp only [Act.put, List.setIfInBounds_toArray, List.set_cons_zero, List.set_cons_succ]
    refine take_at (i := 24) (v := ?_) rfl (by kernel_rfl) (by kernel_rfl) (by kernel_rfl) (fun _ _ _ h => h) (by kernel_rfl) (by assumption) ?_ ?_
    rotate_left
    · (intro w hSw; (try dsimp only at hSw); go_simp; try with_reducible rfl)
    simp only [Act.put, List.setIfInBounds_toArray, List.set_cons_zero, List.set_cons_succ]
    refine take_at (i := 25) (v := ?_) rfl (by kernel_rfl) (by kernel_rfl) (by kernel_rfl) (fun _ _ _ h => h) (by kernel_rfl) (by assumption) ?_ ?_
    rotate_left
    · (intro w hSw; (try dsimp only at hSw); go_simp; try with_reducible rfl)
    simp only [Act.put, List.setIfInBounds_toArray, List.set_cons_zero, List.set_cons_succ]
    refine take_at (i := 26) (v := ?_) rfl (by kernel_rfl) (by kernel_rfl) (by kernel_rfl) (fun _ _ _ h => h) (by kernel_rfl) (by assumption) ?_ ?_
    rotate_left
    · (intro w hSw; (try dsimp only at hSw); go_simp; try with_reducible rfl)
    simp only [Act.put, List.setIfInBounds_toArray, List.set_cons_zero, List.set_cons_succ]
    refine take_at (i := 27) (v := ?_) rfl (by kernel_rfl) (by kernel_rfl) (by kernel_rfl) (fun _ _ _ h => h) (by kernel_rfl) (by assumption) ?_ ?_
    rotate_left
    · (intro w hSw; (try dsimp only at hSw); go_simp; try with_reducible rfl)
    simp only [Act.put, List.setIfInBounds_toArray, List.set_cons_zero, List.set_cons_succ]
    refine take_at (i := 28) (v := ?_) rfl (by kernel_rfl) (by kernel_rfl) (by kernel_rfl) (fun _ _ _ h => h) (by kernel_rfl) (by assumption) ?_ ?_
    rotate_left
    · (intro w hSw; (try dsimp only at hSw); go_simp; try with_reducible rfl)
    simp only [Act.put, List.setIfInBounds_toArray, List.set_cons_zero, List.set_cons_succ]
    refine take_at (i := 29) (v := ?_) rfl (by kernel_rfl) (by kernel_rfl) (by kernel_rfl) (fun _ _ _ h => h) (by kernel_rfl) (by assumption) ?_ ?_
    rotate_left
    · (intro w hSw; (try dsimp only at hSw); go_simp; try with_reducible rfl)
    simp only [Act.put, List.setIfInBounds_toArray, List.set_cons_zero, List.set_cons_succ]
    refine take_at (i := 30) (v := ?_) rfl (by kernel_rfl) (by kernel_rfl) (by kernel_rfl) (fun _ _ _ h => h) (by kernel_rfl) (by assumption) ?_ ?_
    rotate_left
    · (intro w hSw; (try dsimp only at hSw); go_simp; try with_reducible rfl)
    simp only [Act.put, List.setIfInBounds_toArray, List.set_cons_zero, List.set_cons_succ]
    refine take_at (i := 31) (v := ?_) rfl (by kernel_rfl) (by kernel_rfl) (by kernel_rfl) (fun _ _ _ h => h) (by kernel_rfl) (by assumption) ?_ ?_
    rotate_left
    · (intro w hSw; (try dsimp only at hSw); go_simp; try with_reducible rfl)
    simp only [Act.put, List.setIfInBounds_toArray, List.set_cons_zero, List.set_cons_succ]
    refine take_at (i := 32) (v := ?_) rfl (by kernel_rfl) (by kernel_rfl) (by kernel_rfl) (fun _ _ _ h => h) (by kernel_rfl) (by assumption) ?_ ?_
    rotate_left
    · (intro w hSw; (try dsimp only at hSw); go_simp; try with_reducible rfl)
    simp only [Act.put, List.setIfInBounds_toArray, List.set_cons_zero, List.set_cons_succ]
    refine take_at (i := 33) (v := ?_) rfl (by kernel_rfl) (by kernel_rfl) (by kernel_rfl) (fun _ _ _ h => h) (by kernel_rfl) (by assumption) ?_ ?_
    rotate_left
    · (intro w hSw; (try dsimp only at hSw); go_simp; try with_reducible rfl)
    simp only [Act.put, List.setIfInBounds_toArray, List.set_cons_zero, List.set_cons_succ]
    refine do_at (i := 34) rfl (by kernel_rfl) (by kernel_rfl) (fun K hK => ?_)
    go_simp
    refine (index_any _ _).mono ?_
    rintro e u4 ⟨rfl, bb⟩
    replace HW := Lib.hid (HW.out.trans (bb.mono HW.out.size))
    clear bb
    go_wp2_with fail
    refine hK.out _ _ ?_ (fun hHeld => ?_)
    · exact HKEEP.out _ HW.out
    clear hK K
    try simp only [Act.put, List.setIfInBounds_toArray, List.set_cons_zero, List.set_cons_succ]
    refine take_at (i := 35) (v := ?_) rfl (by kernel_rfl) (by kernel_rfl) (by kernel_rfl) (fun _ _ _ h => h) (by kernel_rfl) (by assumption) ?_ ?_
    rotate_left
    · (intro w hSw; (try dsimp only at hSw); go_simp; try with_reducible rfl)
    simp only [Act.put, List.setIfInBounds_toArray, List.set_cons_zero, List.set_cons_succ]
    refine take_at (i := 36) (v := ?_) rfl (by kernel_rfl) (by kernel_rfl) (by kernel_rfl) (fun _ _ _ h => h) (by kernel_rfl) (by assumption) ?_ ?_
    rotate_left
    · (intro w hSw; (try dsimp only at hSw); go_simp; try with_reducible rfl)
    simp only [Act.put, List.setIfInBounds_toArray, List.set_cons_zero, List.set_cons_succ]
    refine take_at (i := 37) (v := ?_) rfl (by kernel_rfl) (by kernel_rfl) (by kernel_rfl) (fun _ _ _ h => h) (by kernel_rfl) (by assumption) ?_ ?_
    rotate_left
    · (intro w hSw; (try dsimp only at hSw); go_simp; try with_reducible rfl)
    simp only [Act.put, List.setIfInBounds_toArray, List.set_cons_zero, List.set_cons_succ]
    refine take_at (i := 38) (v := ?_) rfl (by kernel_rfl) (by kernel_rfl) (by kernel_rfl) (fun _ _ _ h => h) (by kernel_rfl) (by assumption) ?_ ?_
    rotate_left
    · (intro w hSw; (try dsimp only at hSw); go_simp; try with_reducible rfl)
    simp only [Act.put, List.setIfInBounds_toArray, List.set_cons_zero, List.set_cons_succ]
    refine wpAnyH_done (by kernel_rfl) ?_ _
    go_wp2
    go_ret
    exact ⟨rfl, HBF.out.trans (HW.out.mono HBF.out.size)⟩
  · have g0 : ((n : Int) == 0) = false := by simp; omega
    have g30 : decide ((n : Int) ≥ 30) = true := by simp; omega
    have q30 : decide (30 ≤ (n : Int)) = true := by simp; omega
    have g90 : decide ((n : Int) ≥ 90) = false := by simp; omega
    have q90 : decide (90 ≤ (n : Int)) = false := by simp; omega
    have g40 : decide ((n : Int) ≥ 40) = true := by simp; omega
    have q40 : decide (40 ≤ (n : Int)) = true := by simp; omega
    have g100 : decide ((n : Int) ≥ 100) = false := by simp; omega
    have q100 : decide (100 ≤ (n : Int)) = false := by simp; omega
    have l37 : decide ((n : Int) ≤ 37) = false := by simp; omega
    have l97 : decide ((n : Int) ≤ 97) = true := by simp; omega
    have l47 : decide ((n : Int) ≤ 47) = false := by simp; omega
    have l107 : decide ((n : Int) ≤ 107) = true := by simp; omega
    have e39 : ((n : Int) == 39) = false := by simp; omega
    have x39 : ((n : Int) != 39) = true := by simp; omega
    have e49 : ((n : Int) == 49) = false := by simp; omega
    have x49 : ((n : Int) != 49) = true := by simp; omega
    have hE : b = a.flags s c := by rw [HBE.out, HS.out, HC.out]; exact simple_flags a HOA.out.2.2 n (by omega)
    have hc16 : c < 65536 := by
      rw [HC.out]
      unfold clrsN
      repeat' split
      all_goals decide
    have hs16 : s < 65536 := by
      rw [HS.out]
      unfold setsN
      repeat' split
      all_goals decide
    obtain ⟨g, hg⟩ : ∃ g, g = a.fl &&& (65535 - c) := ⟨_, rfl⟩
    have hg16 : g < 65536 := by rw [hg]; exact Nat.lt_of_le_of_lt Nat.and_le_left HOA.out.2.2
    have u1' : bits .andNot .u16 (a.fl : Int) (c : Int) = (g : Int) := by rw [hg]; exact u16_andN a.fl c HOA.out.2.2 hc16
    have u2' : bits .or .u16 (g : Int) (s : Int) = (b.fl : Int) := by rw [u16_orN g s hg16 hs16, hE, hg]; rfl
    have hqf : ∀ w, (Op.equalIn 10000 23 (colV b.fg) (colV a.fg)).run Tryd.prog w = .ok true w := fun w => (eqCol 9998 w b.fg a.fg).trans (by rw [(eqC_iff b.fg a.fg).2 (by rw [hE]; rfl)])
    have hqg : ∀ w, (Op.equalIn 10000 23 (colV b.bg) (colV a.bg)).run Tryd.prog w = .ok true w := fun w => (eqCol 9998 w b.bg a.bg).trans (by rw [(eqC_iff b.bg a.bg).2 (by rw [hE]; rfl)])
    obtain ⟨s0, s1, s2, s3, s4, s5, s6, s7, s8, s9, s10, s11, s12, s13, s14, s15, s16, s17⟩ := HKEEP.out _ (Below.refl m2.heap.size m2)
    have k7 := HK7.out
    have k8 := HK8.out
    clear h hE hg hc16 hs16 hg16 HKEEP HBE HS HC HK7 HK8
    go_wp2
    go_ret
    exact ⟨rfl, HBF.out⟩
  · have g0 : ((n : Int) == 0) = false := by simp; omega
    have g30 : decide ((n : Int) ≥ 30) = true := by simp; omega
    have q30 : decide (30 ≤ (n : Int)) = true := by simp; omega
    have g90 : decide ((n : Int) ≥ 90) = false := by simp; omega
    have q90 : decide (90 ≤ (n : Int)) = false := by simp; omega
    have g40 : decide ((n : Int) ≥ 40) = true := by simp; omega
    have q40 : decide (40 ≤ (n : Int)) = true := by simp; omega
    have g100 : decide ((n : Int) ≥ 100) = false := by simp; omega
    have q100 : decide (100 ≤ (n : Int)) = false := by simp; omega
    have l37 : decide ((n : Int) ≤ 37) = false := by simp; omega
    have l97 : decide ((n : Int) ≤ 97) = true := by simp; omega
    have l47 : decide ((n : Int) ≤ 47) = false := by simp; omega
    have l107 : decide ((n : Int) ≤ 107) = true := by simp; omega
    have e39 : ((n : Int) == 39) = false := by simp; omega
    have x39 : ((n : Int) != 39) = true := by simp; omega
    have e49 : ((n : Int) == 49) = true := by simp; omega
    have x49 : ((n : Int) != 49) = false := by simp; omega
    have hE : b = { a with bg := Cl.zero } := by rw [HBE.out, h]; rfl
    have hqx : ∀ w, (Op.equalIn 10000 23 (colV b.bg) (.agg #[.int .u8 0, .int .u8 0, .int .u8 0, .int .u8 0])).run Tryd.prog w = .ok true w := fun w => (eqCol 9998 w b.bg Cl.zero).trans (by rw [(eqC_iff b.bg Cl.zero).2 (by rw [hE])])
    have hqo : ∀ w, (Op.equalIn 10000 23 (colV b.fg) (colV a.fg)).run Tryd.prog w = .ok true w := fun w => (eqCol 9998 w b.fg a.fg).trans (by rw [(eqC_iff b.fg a.fg).2 (by rw [hE])])
    have hfe : ((b.fl : Int) == (a.fl : Int)) = true := by rw [hE]; simp
    clear h hE  HBE HS HC HK7 HK8
    go_upto_region 14 with (fail)
    have BB : Below m2.heap.size m2 m2.drew := ⟨rfl, rfl, rfl, Nat.le_refl _, fun _ _ => rfl⟩
    refine wp_region_held_drew (S := fun w' => w'.cell? ⟨z, 0, none⟩ = some (.int .u8 a.fg.k) ∧ w'.cell? ⟨z, 1, none⟩ = some (.int .u8 a.fg.r) ∧ w'.cell? ⟨z, 2, none⟩ = some (.int .u8 a.fg.g) ∧ w'.cell? ⟨z, 3, none⟩ = some (.int .u8 a.fg.b) ∧ w'.cell? ⟨z, 4, none⟩ = some (.int .u8 a.bg.k) ∧ w'.cell? ⟨z, 5, none⟩ = some (.int .u8 a.bg.r) ∧ w'.cell? ⟨z, 6, none⟩ = some (.int .u8 a.bg.g) ∧ w'.cell? ⟨z, 7, none⟩ = some (.int .u8 a.bg.b) ∧ w'.cell? ⟨z, 8, none⟩ = some (.int .u16 (a.fl : Nat)) ∧ w'.cell? ⟨y, 0, none⟩ = some (.int .u8 b.fg.k) ∧ w'.cell? ⟨y, 1, none⟩ = some (.int .u8 b.fg.r) ∧ w'.cell? ⟨y, 2, none⟩ = some (.int .u8 b.fg.g) ∧ w'.cell? ⟨y, 3, none⟩ = some (.int .u8 b.fg.b) ∧ w'.cell? ⟨y, 4, none⟩ = some (.int .u8 b.bg.k) ∧ w'.cell? ⟨y, 5, none⟩ = some (.int .u8 b.bg.r) ∧ w'.cell? ⟨y, 6, none⟩ = some (.int .u8 b.bg.g) ∧ w'.cell? ⟨y, 7, none⟩ = some (.int .u8 b.bg.b) ∧ w'.cell? ⟨y, 8, none⟩ = some (.int .u16 (b.fl : Nat))) (by kernel_rfl) ?_ (fun hHeld => ?_)
    · exact HKEEP.out _ BB
    obtain ⟨u0, hu0⟩ : ∃ u0, u0 = m2.drew := ⟨_, rfl⟩
    rw [← hu0] at BB hHeld ⊢
    clear hu0
    have HW := Lib.hid BB
    clear BB
    refine take_at (i := 0) (v := ?_) rfl (by kernel_rfl) (by kernel_rfl) (by kernel_rfl) (fun _ _ _ h => h) (by kernel_rfl) (by assumption) ?_ ?_
    rotate_left
    · (intro w hSw; (try dsimp only at hSw); go_simp; try with_reducible rfl)
    simp only [Act.put, List.setIfInBounds_toArray, List.set_cons_zero, List.set_cons_succ]
    refine take_at (i := 1) (v := ?_) rfl (by kernel_rfl) (by kernel_rfl) (by kernel_rfl) (fun _ _ _ h => h) (by kernel_rfl) (by assumption) ?_ ?_
    rotate_left
    · (intro w hSw; (try dsimp only at hSw); go_simp; try with_reducible rfl)
    simp only [Act.put, List.setIfInBounds_toArray, List.set_cons_zero, List.set_cons_succ]
    refine take_at (i := 2) (v := ?_) rfl (by kernel_rfl) (by kernel_rfl) (by kernel_rfl) (fun _ _ _ h => h) (by kernel_rfl) (by assumption) ?_ ?_
    rotate_left
    · (intro w hSw; (try dsimp only at hSw); go_simp; try with_reducible rfl)
    simp only [Act.put, List.setIfInBounds_toArray, List.set_cons_zero, List.set_cons_succ]
    refine take_at (i := 3) (v := ?_) rfl (by kernel_rfl) (by kernel_rfl) (by kernel_rfl) (fun _ _ _ h => h) (by kernel_rfl) (by assumption) ?_ ?_
    rotate_left
    · (intro w hSw; (try dsimp only at hSw); go_simp; try with_reducible rfl)
    simp only [Act.put, List.setIfInBounds_toArray, List.set_cons_zero, List.set_cons_succ]
    refine take_at (i := 4) (v := ?_) rfl (by kernel_rfl) (by kernel_rfl) (by kernel_rfl) (fun _ _ _ h => h) (by kernel_rfl) (by assumption) ?_ ?_
    rotate_left
    · (intro w hSw; (try dsimp only at hSw); go_simp; try with_reducible rfl)
    simp only [Act.put, List.setIfInBounds_toArray, List.set_cons_zero, List.set_cons_succ]
    refine take_at (i := 5) (v := ?_) rfl (by kernel_rfl) (by kernel_rfl) (by kernel_rfl) (fun _ _ _ h => h) (by kernel_rfl) (by assumption) ?_ ?_
    rotate_left
    · (intro w hSw; (try dsimp only at hSw); go_simp; try with_reducible rfl)
    simp only [Act.put, List.setIfInBounds_toArray, List.set_cons_zero, List.set_cons_succ]
    refine take_at (i := 6) (v := ?_) rfl (by kernel_rfl) (by kernel_rfl) (by kernel_rfl) (fun _ _ _ h => h) (by kernel_rfl) (by assumption) ?_ ?_
    rotate_left
    · (intro w hSw; (try dsimp only at hSw); go_simp; try with_reducible rfl)
    simp only [Act.put, List.setIfInBounds_toArray, List.set_cons_zero, List.set_cons_succ]
    refine take_at (i := 7) (v := ?_) rfl (by kernel_rfl) (by kernel_rfl) (by kernel_rfl) (fun _ _ _ h => h) (by kernel_rfl) (by assumption) ?_ ?_
    rotate_left
    · (intro w hSw; (try dsimp only at hSw); go_simp; try with_reducible rfl)
    simp only [Act.put, List.setIfInBounds_toArray, List.set_cons_zero, List.set_cons_succ]
    refine take_at (i := 8) (v := ?_) rfl (by kernel_rfl) (by kernel_rfl) (by kernel_rfl) (fun _ _ _ h => h) (by kernel_rfl) (by assumption) ?_ ?_
    rotate_left
    · (intro w hSw; (try dsimp only at hSw); go_simp; try with_reducible rfl)
    simp only [Act.put, List.setIfInBounds_toArray, List.set_cons_zero, List.set_cons_succ]
    refine take_at (i := 9) (v := ?_) rfl (by kernel_rfl) (by kernel_rfl) (by kernel_rfl) (fun _ _ _ h => h) (by kernel_rfl) (by assumption) ?_ ?_
    rotate_left
    · (intro w hSw; (try dsimp only at hSw); go_simp; try with_reducible rfl)
    simp only [Act.put, List.setIfInBounds_toArray, List.set_cons_zero, List.set_cons_succ]
    refine take_at (i := 10) (v := ?_) rfl (by kernel_rfl) (by kernel_rfl) (by kernel_rfl) (fun _ _ _ h => h) (by kernel_rfl) (by assumption) ?_ ?_
    rotate_left
    · (intro w hSw; (try dsimp only at hSw); go_simp; try with_reducible rfl)
    simp only [Act.put, List.setIfInBounds_toArray, List.set_cons_zero, List.set_cons_succ]
    refine take_at (i := 11) (v := ?_) rfl (by kernel_rfl) (by kernel_rfl) (by kernel_rfl) (fun _ _ _ h => h) (by kernel_rfl) (by assumption) ?_ ?_
    rotate_left
    · (intro w hSw; (try dsimp only at hSw); go_simp; try with_reducible rfl)
    simp only [Act.put, List.setIfInBounds_toArray, List.set_cons_zero, List.set_cons_succ]
    refine take_at (i := 12) (v := ?_) rfl (by kernel_rfl) (by kernel_rfl) (by kernel_rfl) (fun _ _ _ h => h) (by kernel_rfl) (by assumption) ?_ ?_
    rotate_left
    · (intro w hSw; (try dsimp only at hSw); go_simp; try with_reducible rfl)
    simp only [Act.put, List.setIfInBounds_toArray, List.set_cons_zero, List.set_cons_succ]
    refine take_at (i := 13) (v := ?_) rfl (by kernel_rfl) (by kernel_rfl) (by kernel_rfl) (fun _ _ _ h => h) (by kernel_rfl) (by assumption) ?_ ?_
    rotate_left
    · (intro w hSw; (try dsimp only at hSw); go_simp; try with_reducible rfl)
    simp only [Act.put, List.setIfInBounds_toArray, List.set_cons_zero, List.set_cons_succ]
    refine take_at (i := 14) (v := ?_) rfl (by kernel_rfl) (by kernel_rfl) (by kernel_rfl) (fun _ _ _ h => h) (by kernel_rfl) (by assumption) ?_ ?_
    rotate_left
    · (intro w hSw; (try dsimp only at hSw); go_simp; try with_reducible rfl)
    simp only [Act.put, List.setIfInBounds_toArray, List.set_cons_zero, List.set_cons_succ]
    refine take_at (i := 15) (v := ?_) rfl (by kernel_rfl) (by kernel_rfl) (by kernel_rfl) (fun _ _ _ h => h) (by kernel_rfl) (by assumption) ?_ ?_
    rotate_left
    · (intro w hSw; (try dsimp only at hSw); go_simp; try with_reducible rfl)
    simp only [Act.put, List.setIfInBounds_toArray, List.set_cons_zero, List.set_cons_succ]
    refine take_at (i := 16) (v := ?_) rfl (by kernel_rfl) (by kernel_rfl) (by kernel_rfl) (fun _ _ _ h => h) (by kernel_rfl) (by assumption) ?_ ?_
    rotate_left
    · (intro w hSw; (try dsimp only at hSw); go_simp; try with_reducible rfl)
    simp only [Act.put, List.setIfInBounds_toArray, List.set_cons_zero, List.set_cons_succ]
    refine take_at (i := 17) (v := ?_) rfl (by kernel_rfl) (by kernel_rfl) (by kernel_rfl) (fun _ _ _ h => h) (by kernel_rfl) (by assumption) ?_ ?_
    rotate_left
    · (intro w hSw; (try dsimp only at hSw); go_simp; try with_reducible rfl)
    simp only [Act.put, List.setIfInBounds_toArray, List.set_cons_zero, List.set_cons_succ]
    refine take_at (i := 18) (v := ?_) rfl (by kernel_rfl) (by kernel_rfl) (by kernel_rfl) (fun _ _ _ h => h) (by kernel_rfl) (by assumption) ?_ ?_
    rotate_left
    · (intro w hSw; (try dsimp only at hSw); go_simp; try with_reducible rfl)
    simp only [Act.put, List.setIfInBounds_toArray, List.set_cons_zero, List.set_cons_succ]
    refine take_at (i := 19) (v := ?_) rfl (by kernel_rfl) (by kernel_rfl) (by kernel_rfl) (fun _ _ _ h => h) (by kernel_rfl) (by assumption) ?_ ?_
    rotate_left
    · (intro w hSw; (try dsimp only at hSw); go_simp; try with_reducible rfl)
    simp only [Act.put, List.setIfInBounds_toArray, List.set_cons_zero, List.set_cons_succ]
    refine take_at (i := 20) (v := ?_) rfl (by kernel_rfl) (by kernel_rfl) (by kernel_rfl) (fun _ _ _ h => h) (by kernel_rfl) (by assumption) ?_ ?_
    rotate_left
    · (intro w hSw; (try dsimp only at hSw); go_simp; try with_reducible rfl)
    simp only [Act.put, List.setIfInBounds_toArray, List.set_cons_zero, List.set_cons_succ]
    refine take_at (i := 21) (v := ?_) rfl (by kernel_rfl) (by kernel_rfl) (by kernel_rfl) (fun _ _ _ h => h) (by kernel_rfl) (by assumption) ?_ ?_
    rotate_left
    · (intro w hSw; (try dsimp only at hSw); go_simp; try with_reducible rfl)
    simp only [Act.put, List.setIfInBounds_toArray, List.set_cons_zero, List.set_cons_succ]
    refine take_at (i := 22) (v := ?_) rfl (by kernel_rfl) (by kernel_rfl) (by kernel_rfl) (fun _ _ _ h => h) (by kernel_rfl) (by assumption) ?_ ?_
    rotate_left
    · (intro w hSw; (try dsimp only at hSw); go_simp; try with_reducible rfl)
    simp only [Act.put, List.setIfInBounds_toArray, List.set_cons_zero, List.set_cons_succ]
    refine take_at (i := 23) (v := ?_) rfl (by kernel_rfl) (by kernel_rfl) (by kernel_rfl) (fun _ _ _ h => h) (by kernel_rfl) (by assumption) ?_ ?_
    rotate_left
    · (intro w hSw; (try dsimp only at hSw); go_simp; try with_reducible rfl)
    simp only [Act.put, List.setIfInBounds_toArray, List.set_cons_zero, List.set_cons_succ]
    refine take_at (i := 24) (v := ?_) rfl (by kernel_rfl) (by kernel_rfl) (by kernel_rfl) (fun _ _ _ h => h) (by kernel_rfl) (by assumption) ?_ ?_
    rotate_left
    · (intro w hSw; (try dsimp only at hSw); go_simp; try with_reducible rfl)
    simp only [Act.put, List.setIfInBounds_toArray, List.set_cons_zero, List.set_cons_succ]
    refine take_at (i := 25) (v := ?_) rfl (by kernel_rfl) (by kernel_rfl) (by kernel_rfl) (fun _ _ _ h => h) (by kernel_rfl) (by assumption) ?_ ?_
    rotate_left
    · (intro w hSw; (try dsimp only at hSw); go_simp; try with_reducible rfl)
    simp only [Act.put, List.setIfInBounds_toArray, List.set_cons_zero, List.set_cons_succ]
    refine skip_at (i := 26) rfl (by kernel_rfl) (by kernel_rfl) (by kernel_rfl) (fun _ _ _ h => h) (by kernel_rfl) (by assumption) ?_
    simp only [Act.put, List.setIfInBounds_toArray, List.set_cons_zero, List.set_cons_succ]
    refine skip_at (i := 27) rfl (by kernel_rfl) (by kernel_rfl) (by kernel_rfl) (fun _ _ _ h => h) (by kernel_rfl) (by assumption) ?_
    simp only [Act.put, List.setIfInBounds_toArray, List.set_cons_zero, List.set_cons_succ]
    refine skip_at (i := 28) rfl (by kernel_rfl) (by kernel_rfl) (by kernel_rfl) (fun _ _ _ h => h) (by kernel_rfl) (by assumption) ?_
    simp only [Act.put, List.setIfInBounds_toArray, List.set_cons_zero, List.set_cons_succ]
    refine skip_at (i := 29) rfl (by kernel_rfl) (by kernel_rfl) (by kernel_rfl) (fun _ _ _ h => h) (by kernel_rfl) (by assumption) ?_
    simp only [Act.put, List.setIfInBounds_toArray, List.set_cons_zero, List.set_cons_succ]
    refine skip_at (i := 30) rfl (by kernel_rfl) (by kernel_rfl) (by kernel_rfl) (fun _ _ _ h => h) (by kernel_rfl) (by assumption) ?_
    simp only [Act.put, List.setIfInBounds_toArray, List.set_cons_zero, List.set_cons_succ]
    refine skip_at (i := 31) rfl (by kernel_rfl) (by kernel_rfl) (by kernel_rfl) (fun _ _ _ h => h) (by kernel_rfl) (by assumption) ?_
    simp only [Act.put, List.setIfInBounds_toArray, List.set_cons_zero, List.set_cons_succ]
    refine skip_at (i := 32) rfl (by kernel_rfl) (by kernel_rfl) (by kernel_rfl) (fun _ _ _ h => h) (by kernel_rfl) (by assumption) ?_
    simp only [Act.put, List.setIfInBounds_toArray, List.set_cons_zero, List.set_cons_succ]
    refine skip_at (i := 33) rfl (by kernel_rfl) (by kernel_rfl) (by kernel_rfl) (fun _ _ _ h => h) (by kernel_rfl) (by assumption) ?_
    simp only [Act.put, List.setIfInBounds_toArray, List.set_cons_zero, List.set_cons_succ]
    refine skip_at (i := 34) rfl (by kernel_rfl) (by kernel_rfl) (by kernel_rfl) (fun _ _ _ h => h) (by kernel_rfl) (by assumption) ?_
    simp only [Act.put, List.setIfInBounds_toArray, List.set_cons_zero, List.set_cons_succ]
    refine skip_at (i := 35) rfl (by kernel_rfl) (by kernel_rfl) (by kernel_rfl) (fun _ _ _ h => h) (by kernel_rfl) (by assumption) ?_
    simp only [Act.put, List.setIfInBounds_toArray, List.set_cons_zero, List.set_cons_succ]
    refine take_at (i := 36) (v := ?_) rfl (by kernel_rfl) (by kernel_rfl) (by kernel_rfl) (fun _ _ _ h => h) (by kernel_rfl) (by assumption) ?_ ?_
    rotate_left
    · (intro w hSw; (try dsimp only at hSw); go_simp; try with_reducible rfl)
    simp only [Act.put, List.setIfInBounds_toArray, List.set_cons_zero, List.set_cons_succ]
    refine take_at (i := 37) (v := ?_) rfl (by kernel_rfl) (by kernel_rfl) (by kernel_rfl) (fun _ _ _ h => h) (by kernel_rfl) (by assumption) ?_ ?_
    rotate_left
    · (intro w hSw; (try dsimp only at hSw); go_simp; try with_reducible rfl)
    simp only [Act.put, List.setIfInBounds_toArray, List.set_cons_zero, List.set_cons_succ]
    refine take_at (i := 38) (v := ?_) rfl (by kernel_rfl) (by kernel_rfl) (by kernel_rfl) (fun _ _ _ h => h) (by kernel_rfl) (by assumption) ?_ ?_
    rotate_left
    · (intro w hSw; (try dsimp only at hSw); go_simp; try with_reducible rfl)
    simp only [Act.put, List.setIfInBounds_toArray, List.set_cons_zero, List.set_cons_succ]
    refine wpAnyH_done (by kernel_rfl) ?_ _
    go_wp2
    go_ret
    exact ⟨rfl, HBF.out.trans (HW.out.mono HBF.out.size)⟩
  · have g0 : ((n : Int) == 0) = false := by simp; omega
    have g30 : decide ((n : Int) ≥ 30) = true := by simp; omega
    have q30 : decide (30 ≤ (n : Int)) = true := by simp; omega
    have g90 : decide ((n : Int) ≥ 90) = false := by simp; omega
    have q90 : decide (90 ≤ (n : Int)) = false := by simp; omega
    have g40 : decide ((n : Int) ≥ 40) = true := by simp; omega
    have q40 : decide (40 ≤ (n : Int)) = true := by simp; omega
    have g100 : decide ((n : Int) ≥ 100) = false := by simp; omega
    have q100 : decide (100 ≤ (n : Int)) = false := by simp; omega
    have l37 : decide ((n : Int) ≤ 37) = false := by simp; omega
    have l97 : decide ((n : Int) ≤ 97) = true := by simp; omega
    have l47 : decide ((n : Int) ≤ 47) = false := by simp; omega
    have l107 : decide ((n : Int) ≤ 107) = true := by simp; omega
    have e39 : ((n : Int) == 39) = false := by simp; omega
    have x39 : ((n : Int) != 39) = true := by simp; omega
    have e49 : ((n : Int) == 49) = false := by simp; omega
    have x49 : ((n : Int) != 49) = true := by simp; omega
    have hE : b = a.flags s c := by rw [HBE.out, HS.out, HC.out]; exact simple_flags a HOA.out.2.2 n (by omega)
    have hc16 : c < 65536 := by
      rw [HC.out]
      unfold clrsN
      repeat' split
      all_goals decide
    have hs16 : s < 65536 := by
      rw [HS.out]
      unfold setsN
      repeat' split
      all_goals decide
    obtain ⟨g, hg⟩ : ∃ g, g = a.fl &&& (65535 - c) := ⟨_, rfl⟩
    have hg16 : g < 65536 := by rw [hg]; exact Nat.lt_of_le_of_lt Nat.and_le_left HOA.out.2.2
    have u1' : bits .andNot .u16 (a.fl : Int) (c : Int) = (g : Int) := by rw [hg]; exact u16_andN a.fl c HOA.out.2.2 hc16
    have u2' : bits .or .u16 (g : Int) (s : Int) = (b.fl : Int) := by rw [u16_orN g s hg16 hs16, hE, hg]; rfl
    have hqf : ∀ w, (Op.equalIn 10000 23 (colV b.fg) (colV a.fg)).run Tryd.prog w = .ok true w := fun w => (eqCol 9998 w b.fg a.fg).trans (by rw [(eqC_iff b.fg a.fg).2 (by rw [hE]; rfl)])
    have hqg : ∀ w, (Op.equalIn 10000 23 (colV b.bg) (colV a.bg)).run Tryd.prog w = .ok true w := fun w => (eqCol 9998 w b.bg a.bg).trans (by rw [(eqC_iff b.bg a.bg).2 (by rw [hE]; rfl)])
    obtain ⟨s0, s1, s2, s3, s4, s5, s6, s7, s8, s9, s10, s11, s12, s13, s14, s15, s16, s17⟩ := HKEEP.out _ (Below.refl m2.heap.size m2)
    have k7 := HK7.out
    have k8 := HK8.out
    clear h hE hg hc16 hs16 hg16 HKEEP HBE HS HC HK7 HK8
    go_wp2
    go_ret
    exact ⟨rfl, HBF.out⟩
  · have g0 : ((n : Int) == 0) = false := by simp; omega
    have g30 : decide ((n : Int) ≥ 30) = true := by simp; omega
    have q30 : decide (30 ≤ (n : Int)) = true := by simp; omega
    have g90 : decide ((n : Int) ≥ 90) = true := by simp; omega
    have q90 : decide (90 ≤ (n : Int)) = true := by simp; omega
    have g40 : decide ((n : Int) ≥ 40) = true := by simp; omega
    have q40 : decide (40 ≤ (n : Int)) = true := by simp; omega
    have g100 : decide ((n : Int) ≥ 100) = false := by simp; omega
    have q100 : decide (100 ≤ (n : Int)) = false := by simp; omega
    have l37 : decide ((n : Int) ≤ 37) = false := by simp; omega
    have l97 : decide ((n : Int) ≤ 97) = true := by simp; omega
    have l47 : decide ((n : Int) ≤ 47) = false := by simp; omega
    have l107 : decide ((n : Int) ≤ 107) = true := by simp; omega
    have e39 : ((n : Int) == 39) = false := by simp; omega
    have x39 : ((n : Int) != 39) = true := by simp; omega
    have e49 : ((n : Int) == 49) = false := by simp; omega
    have x49 : ((n : Int) != 49) = true := by simp; omega
    have hE : b = { a with fg := ⟨1, (n : Int) - 82, 0, 0⟩ } := by rw [HBE.out]; exact simple_fgB a (by omega)
    obtain ⟨x, hx⟩ : ∃ x : Nat, x = n - 82 := ⟨_, rfl⟩
    obtain ⟨r, hr⟩ : ∃ r : Nat, r = n - 90 := ⟨_, rfl⟩
    have t1 : (n : Int).tmod 10 = (r : Int) := by rw [Int.tmod_eq_emod_of_nonneg (by omega)]; omega
    have t2 : (n : Int).tdiv 90 = 1 := by rw [Int.tdiv_eq_ediv_of_nonneg (by omega)]; omega
    have t3 : IntKind.u8.wrap (r : Int) = (r : Int) := by rw [IntKind.wrap_u8]; omega
    have t6 : IntKind.u8.wrap 1 = 1 := by decide
    have t4 : IntKind.u8.wrap ((r : Int) + 8) = (x : Int) := by rw [IntKind.wrap_u8]; omega
    have t7 : IntKind.u8.wrap 8 = 8 := by decide
    have hqx : ∀ w, (Op.equalIn 10000 23 (colV b.fg) (.agg #[.int .u8 1, .int .u8 (x : Int), .int .u8 0, .int .u8 0])).run Tryd.prog w = .ok true w := fun w => (eqCol 9998 w b.fg ⟨1, x, 0, 0⟩).trans (by rw [(eqC_iff b.fg ⟨1, x, 0, 0⟩).2 (by rw [hE, show ((x : Nat) : Int) = (n : Int) - 82 by omega])])
    have hqo : ∀ w, (Op.equalIn 10000 23 (colV b.bg) (colV a.bg)).run Tryd.prog w = .ok true w := fun w => (eqCol 9998 w b.bg a.bg).trans (by rw [(eqC_iff b.bg a.bg).2 (by rw [hE])])
    have hfe : ((b.fl : Int) == (a.fl : Int)) = true := by rw [hE]; simp
    clear h hE hr hx HBE HS HC HK7 HK8
    go_upto_region 12 with (fail)
    have BB : Below m2.heap.size m2 m2.drew := ⟨rfl, rfl, rfl, Nat.le_refl _, fun _ _ => rfl⟩
    refine wp_region_held_drew (S := fun w' => w'.cell? ⟨z, 0, none⟩ = some (.int .u8 a.fg.k) ∧ w'.cell? ⟨z, 1, none⟩ = some (.int .u8 a.fg.r) ∧ w'.cell? ⟨z, 2, none⟩ = some (.int .u8 a.fg.g) ∧ w'.cell? ⟨z, 3, none⟩ = some (.int .u8 a.fg.b) ∧ w'.cell? ⟨z, 4, none⟩ = some (.int .u8 a.bg.k) ∧ w'.cell? ⟨z, 5, none⟩ = some (.int .u8 a.bg.r) ∧ w'.cell? ⟨z, 6, none⟩ = some (.int .u8 a.bg.g) ∧ w'.cell? ⟨z, 7, none⟩ = some (.int .u8 a.bg.b) ∧ w'.cell? ⟨z, 8, none⟩ = some (.int .u16 (a.fl : Nat)) ∧ w'.cell? ⟨y, 0, none⟩ = some (.int .u8 b.fg.k) ∧ w'.cell? ⟨y, 1, none⟩ = some (.int .u8 b.fg.r) ∧ w'.cell? ⟨y, 2, none⟩ = some (.int .u8 b.fg.g) ∧ w'.cell? ⟨y, 3, none⟩ = some (.int .u8 b.fg.b) ∧ w'.cell? ⟨y, 4, none⟩ = some (.int .u8 b.bg.k) ∧ w'.cell? ⟨y, 5, none⟩ = some (.int .u8 b.bg.r) ∧ w'.cell? ⟨y, 6, none⟩ = some (.int .u8 b.bg.g) ∧ w'.cell? ⟨y, 7, none⟩ = some (.int .u8 b.bg.b) ∧ w'.cell? ⟨y, 8, none⟩ = some (.int .u16 (b.fl : Nat))) (by kernel_rfl) ?_ (fun hHeld => ?_)
    · exact HKEEP.out _ BB
    obtain ⟨u0, hu0⟩ : ∃ u0, u0 = m2.drew := ⟨_, rfl⟩
    rw [← hu0] at BB hHeld ⊢
    clear hu0
    have HW := Lib.hid BB
    clear BB
    refine take_at (i := 0) (v := ?_) rfl (by kernel_rfl) (by kernel_rfl) (by kernel_rfl) (fun _ _ _ h => h) (by kernel_rfl) (by assumption) ?_ ?_
    rotate_left
    · (intro w hSw; (try dsimp only at hSw); go_simp; try with_reducible rfl)
    simp only [Act.put, List.setIfInBounds_toArray, List.set_cons_zero, List.set_cons_succ]
    refine take_at (i := 1) (v := ?_) rfl (by kernel_rfl) (by kernel_rfl) (by kernel_rfl) (fun _ _ _ h => h) (by kernel_rfl) (by assumption) ?_ ?_
    rotate_left
    · (intro w hSw; (try dsimp only at hSw); go_simp; try with_reducible rfl)
    simp only [Act.put, List.setIfInBounds_toArray, List.set_cons_zero, List.set_cons_succ]
    refine take_at (i := 2) (v := ?_) rfl (by kernel_rfl) (by kernel_rfl) (by kernel_rfl) (fun _ _ _ h => h) (by kernel_rfl) (by assumption) ?_ ?_
    rotate_left
    · (intro w hSw; (try dsimp only at hSw); go_simp; try with_reducible rfl)
    simp only [Act.put, List.setIfInBounds_toArray, List.set_cons_zero, List.set_cons_succ]
    refine take_at (i := 3) (v := ?_) rfl (by kernel_rfl) (by kernel_rfl) (by kernel_rfl) (fun _ _ _ h => h) (by kernel_rfl) (by assumption) ?_ ?_
    rotate_left
    · (intro w hSw; (try dsimp only at hSw); go_simp; try with_reducible rfl)
    simp only [Act.put, List.setIfInBounds_toArray, List.set_cons_zero, List.set_cons_succ]
    refine take_at (i := 4) (v := ?_) rfl (by kernel_rfl) (by kernel_rfl) (by kernel_rfl) (fun _ _ _ h => h) (by kernel_rfl) (by assumption) ?_ ?_
    rotate_left
    · (intro w hSw; (try dsimp only at hSw); go_simp; try with_reducible rfl)
    simp only [Act.put, List.setIfInBounds_toArray, List.set_cons_zero, List.set_cons_succ]
    refine take_at (i := 5) (v := ?_) rfl (by kernel_rfl) (by kernel_rfl) (by kernel_rfl) (fun _ _ _ h => h) (by kernel_rfl) (by assumption) ?_ ?_
    rotate_left
    · (intro w hSw; (try dsimp only at hSw); go_simp; try with_reducible rfl)
    simp only [Act.put, List.setIfInBounds_toArray, List.set_cons_zero, List.set_cons_succ]
    refine take_at (i := 6) (v := ?_) rfl (by kernel_rfl) (by kernel_rfl) (by kernel_rfl) (fun _ _ _ h => h) (by kernel_rfl) (by assumption) ?_ ?_
    rotate_left
    · (intro w hSw; (try dsimp only at hSw); go_simp; try with_reducible rfl)
    simp only [Act.put, List.setIfInBounds_toArray, List.set_cons_zero, List.set_cons_succ]
    refine take_at (i := 7) (v := ?_) rfl (by kernel_rfl) (by kernel_rfl) (by kernel_rfl) (fun _ _ _ h => h) (by kernel_rfl) (by assumption) ?_ ?_
    rotate_left
    · (intro w hSw; (try dsimp only at hSw); go_simp; try with_reducible rfl)
    simp only [Act.put, List.setIfInBounds_toArray, List.set_cons_zero, List.set_cons_succ]
    refine take_at (i := 8) (v := ?_) rfl (by kernel_rfl) (by kernel_rfl) (by kernel_rfl) (fun _ _ _ h => h) (by kernel_rfl) (by assumption) ?_ ?_
    rotate_left
    · (intro w hSw; (try dsimp only at hSw); go_simp; try with_reducible rfl)
    simp only [Act.put, List.setIfInBounds_toArray, List.set_cons_zero, List.set_cons_succ]
    refine take_at (i := 9) (v := ?_) rfl (by kernel_rfl) (by kernel_rfl) (by kernel_rfl) (fun _ _ _ h => h) (by kernel_rfl) (by assumption) ?_ ?_
    rotate_left
    · (intro w hSw; (try dsimp only at hSw); go_simp; try with_reducible rfl)
    simp only [Act.put, List.setIfInBounds_toArray, List.set_cons_zero, List.set_cons_succ]
    refine take_at (i := 10) (v := ?_) rfl (by kernel_rfl) (by kernel_rfl) (by kernel_rfl) (fun _ _ _ h => h) (by kernel_rfl) (by assumption) ?_ ?_
    rotate_left
    · (intro w hSw; (try dsimp only at hSw); go_simp; try with_reducible rfl)
    simp only [Act.put, List.setIfInBounds_toArray, List.set_cons_zero, List.set_cons_succ]
    refine take_at (i := 11) (v := ?_) rfl (by kernel_rfl) (by kernel_rfl) (by kernel_rfl) (fun _ _ _ h => h) (by kernel_rfl) (by assumption) ?_ ?_
    rotate_left
    · (intro w hSw; (try dsimp only at hSw); go_simp; try with_reducible rfl)
    simp only [Act.put, List.setIfInBounds_toArray, List.set_cons_zero, List.set_cons_succ]
    refine take_at (i := 12) (v := ?_) rfl (by kernel_rfl) (by kernel_rfl) (by kernel_rfl) (fun _ _ _ h => h) (by kernel_rfl) (by assumption) ?_ ?_
    rotate_left
    · (intro w hSw; (try dsimp only at hSw); go_simp; try with_reducible rfl)
    simp only [Act.put, List.setIfInBounds_toArray, List.set_cons_zero, List.set_cons_succ]
    refine take_at (i := 13) (v := ?_) rfl (by kernel_rfl) (by kernel_rfl) (by kernel_rfl) (fun _ _ _ h => h) (by kernel_rfl) (by assumption) ?_ ?_
    rotate_left
    · (intro w hSw; (try dsimp only at hSw); go_simp; try with_reducible rfl)
    simp only [Act.put, List.setIfInBounds_toArray, List.set_cons_zero, List.set_cons_succ]
    refine take_at (i := 14) (v := ?_) rfl (by kernel_rfl) (by kernel_rfl) (by kernel_rfl) (fun _ _ _ h => h) (by kernel_rfl) (by assumption) ?_ ?_
    rotate_left
    · (intro w hSw; (try dsimp only at hSw); go_simp; try with_reducible rfl)
    simp only [Act.put, List.setIfInBounds_toArray, List.set_cons_zero, List.set_cons_succ]
    refine take_at (i := 15) (v := ?_) rfl (by kernel_rfl) (by kernel_rfl) (by kernel_rfl) (fun _ _ _ h => h) (by kernel_rfl) (by assumption) ?_ ?_
    rotate_left
    · (intro w hSw; (try dsimp only at hSw); go_simp; try with_reducible rfl)
    simp only [Act.put, List.setIfInBounds_toArray, List.set_cons_zero, List.set_cons_succ]
    refine skip_at (i := 16) rfl (by kernel_rfl) (by kernel_rfl) (by kernel_rfl) (fun _ _ _ h => h) (by kernel_rfl) (by assumption) ?_
    simp only [Act.put, List.setIfInBounds_toArray, List.set_cons_zero, List.set_cons_succ]
    refine skip_at (i := 17) rfl (by kernel_rfl) (by kernel_rfl) (by kernel_rfl) (fun _ _ _ h => h) (by kernel_rfl) (by assumption) ?_
    simp only [Act.put, List.setIfInBounds_toArray, List.set_cons_zero, List.set_cons_succ]
    refine skip_at (i := 18) rfl (by kernel_rfl) (by kernel_rfl) (by kernel_rfl) (fun _ _ _ h => h) (by kernel_rfl) (by assumption) ?_
    simp only [Act.put, List.setIfInBounds_toArray, List.set_cons_zero, List.set_cons_succ]
    refine skip_at (i := 19) rfl (by kernel_rfl) (by kernel_rfl) (by kernel_rfl) (fun _ _ _ h => h) (by kernel_rfl) (by assumption) ?_
    simp only [Act.put, List.setIfInBounds_toArray, List.set_cons_zero, List.set_cons_succ]
    refine take_at (i := 20) (v := ?_) rfl (by kernel_rfl) (by kernel_rfl) (by kernel_rfl) (fun _ _ _ h => h) (by kernel_rfl) (by assumption) ?_ ?_
    rotate_left
    · (intro w hSw; (try dsimp only at hSw); go_simp; try with_reducible rfl)
    simp only [Act.put, List.setIfInBounds_toArray, List.set_cons_zero, List.set_cons_succ]
    refine take_at (i := 21) (v := ?_) rfl (by kernel_rfl) (by kernel_rfl) (by kernel_rfl) (fun _ _ _ h => h) (by kernel_rfl) (by assumption) ?_ ?_
    rotate_left
    · (intro w hSw; (try dsimp only at hSw); go_simp; try with_reducible rfl)
    simp only [Act.put, List.setIfInBounds_toArray, List.set_cons_zero, List.set_cons_succ]
    refine take_at (i := 22) (v := ?_) rfl (by kernel_rfl) (by kernel_rfl) (by kernel_rfl) (fun _ _ _ h => h) (by kernel_rfl) (by assumption) ?_ ?_
    rotate_left
    · (intro w hSw; (try dsimp only at hSw); go_simp; try with_reducible rfl)
    simp only [Act.put, List.setIfInBounds_toArray, List.set_cons_zero, List.set_cons_succ]
    refine take_at (i := 23) (v := ?_) rfl (by kernel_rfl) (by kernel_rfl) (by kernel_rfl) (fun _ _ _ h => h) (by kernel_rfl) (by assumption) ?_ ?_
    rotate_left
    · (intro w hSw; (try dsimp only at hSw); go_simp; try with_reducible rfl)
    simp only [Act.put, List.setIfInBounds_toArray, List.set_cons_zero, List.set_cons_succ]
    refine take_at (i := 24) (v := ?_) rfl (by kernel_rfl) (by kernel_rfl) (by kernel_rfl) (fun _ _ _ h => h) (by kernel_rfl) (by assumption) ?_ ?_
    rotate_left
    · (intro w hSw; (try dsimp only at hSw); go_simp; try with_reducible rfl)
    simp only [Act.put, List.setIfInBounds_toArray, List.set_cons_zero, List.set_cons_succ]
    refine take_at (i := 25) (v := ?_) rfl (by kernel_rfl) (by kernel_rfl) (by kernel_rfl) (fun _ _ _ h => h) (by kernel_rfl) (by assumption) ?_ ?_
    rotate_left
    · (intro w hSw; (try dsimp only at hSw); go_simp; try with_reducible rfl)
    simp only [Act.put, List.setIfInBounds_toArray, List.set_cons_zero, List.set_cons_succ]
    refine take_at (i := 26) (v := ?_) rfl (by kernel_rfl) (by kernel_rfl) (by kernel_rfl) (fun _ _ _ h => h) (by kernel_rfl) (by assumption) ?_ ?_
    rotate_left
    · (intro w hSw; (try dsimp only at hSw); go_simp; try with_reducible rfl)
    simp only [Act.put, List.setIfInBounds_toArray, List.set_cons_zero, List.set_cons_succ]
    refine take_at (i := 27) (v := ?_) rfl (by kernel_rfl) (by kernel_rfl) (by kernel_rfl) (fun _ _ _ h => h) (by kernel_rfl) (by assumption) ?_ ?_
    rotate_left
    · (intro w hSw; (try dsimp only at hSw); go_simp; try with_reducible rfl)
    simp only [Act.put, List.setIfInBounds_toArray, List.set_cons_zero, List.set_cons_succ]
    refine take_at (i := 28) (v := ?_) rfl (by kernel_rfl) (by kernel_rfl) (by kernel_rfl) (fun _ _ _ h => h) (by kernel_rfl) (by assumption) ?_ ?_
    rotate_left
    · (intro w hSw; (try dsimp only at hSw); go_simp; try with_reducible rfl)
    simp only [Act.put, List.setIfInBounds_toArray, List.set_cons_zero, List.set_cons_succ]
    refine take_at (i := 29) (v := ?_) rfl (by kernel_rfl) (by kernel_rfl) (by kernel_rfl) (fun _ _ _ h => h) (by kernel_rfl) (by assumption) ?_ ?_
    rotate_left
    · (intro w hSw; (try dsimp only at hSw); go_simp; try with_reducible rfl)
    simp only [Act.put, List.setIfInBounds_toArray, List.set_cons_zero, List.set_cons_succ]
    refine take_at (i := 30) (v := ?_) rfl (by kernel_rfl) (by kernel_rfl) (by kernel_rfl) (fun _ _ _ h => h) (by kernel_rfl) (by assumption) ?_ ?_
    rotate_left
    · (intro w hSw; (try dsimp only at hSw); go_simp; try with_reducible rfl)
    simp only [Act.put, List.setIfInBounds_toArray, List.set_cons_zero, List.set_cons_succ]
    refine take_at (i := 31) (v := ?_) rfl (by kernel_rfl) (by kernel_rfl) (by kernel_rfl) (fun _ _ _ h => h) (by kernel_rfl) (by assumption) ?_ ?_
    rotate_left
    · (intro w hSw; (try dsimp only at hSw); go_simp; try with_reducible rfl)
    simp only [Act.put, List.setIfInBounds_toArray, List.set_cons_zero, List.set_cons_succ]
    refine take_at (i := 32) (v := ?_) rfl (by kernel_rfl) (by kernel_rfl) (by kernel_rfl) (fun _ _ _ h => h) (by kernel_rfl) (by assumption) ?_ ?_
    rotate_left
    · (intro w hSw; (try dsimp only at hSw); go_simp; try with_reducible rfl)
    simp only [Act.put, List.setIfInBounds_toArray, List.set_cons_zero, List.set_cons_succ]
    refine take_at (i := 33) (v := ?_) rfl (by kernel_rfl) (by kernel_rfl) (by kernel_rfl) (fun _ _ _ h => h) (by kernel_rfl) (by assumption) ?_ ?_
    rotate_left
    · (intro w hSw; (try dsimp only at hSw); go_simp; try with_reducible rfl)
    simp only [Act.put, List.setIfInBounds_toArray, List.set_cons_zero, List.set_cons_succ]
    refine do_at (i := 34) rfl (by kernel_rfl) (by kernel_rfl) (fun K hK => ?_)
    go_simp
    refine (index_any _ _).mono ?_
    rintro e u4 ⟨rfl, bb⟩
    replace HW := Lib.hid (HW.out.trans (bb.mono HW.out.size))
    clear bb
    go_wp2_with fail
    refine hK.out _ _ ?_ (fun hHeld => ?_)
    · exact HKEEP.out _ HW.out
    clear hK K
    try simp only [Act.put, List.setIfInBounds_toArray, List.set_cons_zero, List.set_cons_succ]
    refine take_at (i := 35) (v := ?_) rfl (by kernel_rfl) (by kernel_rfl) (by kernel_rfl) (fun _ _ _ h => h) (by kernel_rfl) (by assumption) ?_ ?_
    rotate_left
    · (intro w hSw; (try dsimp only at hSw); go_simp; try with_reducible rfl)
    simp only [Act.put, List.setIfInBounds_toArray, List.set_cons_zero, List.set_cons_succ]
    refine take_at (i := 36) (v := ?_) rfl (by kernel_rfl) (by kernel_rfl) (by kernel_rfl) (fun _ _ _ h => h) (by kernel_rfl) (by assumption) ?_ ?_
    rotate_left
    · (intro w hSw; (try dsimp only at hSw); go_simp; try with_reducible rfl)
    simp only [Act.put, List.setIfInBounds_toArray, List.set_cons_zero, List.set_cons_succ]
    refine take_at (i := 37) (v := ?_) rfl (by kernel_rfl) (by kernel_rfl) (by kernel_rfl) (fun _ _ _ h => h) (by kernel_rfl) (by assumption) ?_ ?_
    rotate_left
    · (intro w hSw; (try dsimp only at hSw); go_simp; try with_reducible rfl)
    simp only [Act.put, List.setIfInBounds_toArray, List.set_cons_zero, List.set_cons_succ]
    refine take_at (i := 38) (v := ?_) rfl (by kernel_rfl) (by kernel_rfl) (by kernel_rfl) (fun _ _ _ h => h) (by kernel_rfl) (by assumption) ?_ ?_
    rotate_left
    · (intro w hSw; (try dsimp only at hSw); go_simp; try with_reducible rfl)
    simp only [Act.put, List.setIfInBounds_toArray, List.set_cons_zero, List.set_cons_succ]
    refine wpAnyH_done (by kernel_rfl) ?_ _
    go_wp2
    go_ret
    exact ⟨rfl, HBF.out.trans (HW.out.mono HBF.out.size)⟩
  · have g0 : ((n : Int) == 0) = false := by simp; omega
    have g30 : decide ((n : Int) ≥ 30) = true := by simp; omega
    have q30 : decide (30 ≤ (n : Int)) = true := by simp; omega
    have g90 : decide ((n : Int) ≥ 90) = true := by simp; omega
    have q90 : decide (90 ≤ (n : Int)) = true := by simp; omega
    have g40 : decide ((n : Int) ≥ 40) = true := by simp; omega
    have q40 : decide (40 ≤ (n : Int)) = true := by simp; omega
    have g100 : decide ((n : Int) ≥ 100) = false := by simp; omega
    have q100 : decide (100 ≤ (n : Int)) = false := by simp; omega
    have l37 : decide ((n : Int) ≤ 37) = false := by simp; omega
    have l97 : decide ((n : Int) ≤ 97) = false := by simp; omega
    have l47 : decide ((n : Int) ≤ 47) = false := by simp; omega
    have l107 : decide ((n : Int) ≤ 107) = true := by simp; omega
    have e39 : ((n : Int) == 39) = false := by simp; omega
    have x39 : ((n : Int) != 39) = true := by simp; omega
    have e49 : ((n : Int) == 49) = false := by simp; omega
    have x49 : ((n : Int) != 49) = true := by simp; omega
    have hE : b = a.flags s c := by rw [HBE.out, HS.out, HC.out]; exact simple_flags a HOA.out.2.2 n (by omega)
    have hc16 : c < 65536 := by
      rw [HC.out]
      unfold clrsN
      repeat' split
      all_goals decide
    have hs16 : s < 65536 := by
      rw [HS.out]
      unfold setsN
      repeat' split
      all_goals decide
    obtain ⟨g, hg⟩ : ∃ g, g = a.fl &&& (65535 - c) := ⟨_, rfl⟩
    have hg16 : g < 65536 := by rw [hg]; exact Nat.lt_of_le_of_lt Nat.and_le_left HOA.out.2.2
    have u1' : bits .andNot .u16 (a.fl : Int) (c : Int) = (g : Int) := by rw [hg]; exact u16_andN a.fl c HOA.out.2.2 hc16
    have u2' : bits .or .u16 (g : Int) (s : Int) = (b.fl : Int) := by rw [u16_orN g s hg16 hs16, hE, hg]; rfl
    have hqf : ∀ w, (Op.equalIn 10000 23 (colV b.fg) (colV a.fg)).run Tryd.prog w = .ok true w := fun w => (eqCol 9998 w b.fg a.fg).trans (by rw [(eqC_iff b.fg a.fg).2 (by rw [hE]; rfl)])
    have hqg : ∀ w, (Op.equalIn 10000 23 (colV b.bg) (colV a.bg)).run Tryd.prog w = .ok true w := fun w => (eqCol 9998 w b.bg a.bg).trans (by rw [(eqC_iff b.bg a.bg).2 (by rw [hE]; rfl)])
    obtain ⟨s0, s1, s2, s3, s4, s5, s6, s7, s8, s9, s10, s11, s12, s13, s14, s15, s16, s17⟩ := HKEEP.out _ (Below.refl m2.heap.size m2)
    have k7 := HK7.out
    have k8 := HK8.out
    clear h hE hg hc16 hs16 hg16 HKEEP HBE HS HC HK7 HK8
    go_wp2
    go_ret
    exact ⟨rfl, HBF.out⟩
  · have g0 : ((n : Int) == 0) = false := by simp; omega
    have g30 : decide ((n : Int) ≥ 30) = true := by simp; omega
    have q30 : decide (30 ≤ (n : Int)) = true := by simp; omega
    have g90 : decide ((n : Int) ≥ 90) = true := by simp; omega
    have q90 : decide (90 ≤ (n : Int)) = true := by simp; omega
    have g40 : decide ((n : Int) ≥ 40) = true := by simp; omega
    have q40 : decide (40 ≤ (n : Int)) = true := by simp; omega
    have g100 : decide ((n : Int) ≥ 100) = true := by simp; omega
    have q100 : decide (100 ≤ (n : Int)) = true := by simp; omega
    have l37 : decide ((n : Int) ≤ 37) = false := by simp; omega
    have l97 : decide ((n : Int) ≤ 97) = false := by simp; omega
    have l47 : decide ((n : Int) ≤ 47) = false := by simp; omega
    have l107 : decide ((n : Int) ≤ 107) = true := by simp; omega
    have e39 : ((n : Int) == 39) = false := by simp; omega
    have x39 : ((n : Int) != 39) = true := by simp; omega
    have e49 : ((n : Int) == 49) = false := by simp; omega
    have x49 : ((n : Int) != 49) = true := by simp; omega
    have hE : b = { a with bg := ⟨1, (n : Int) - 92, 0, 0⟩ } := by rw [HBE.out]; exact simple_bgB a (by omega)
    obtain ⟨x, hx⟩ : ∃ x : Nat, x = n - 92 := ⟨_, rfl⟩
    obtain ⟨r, hr⟩ : ∃ r : Nat, r = n - 100 := ⟨_, rfl⟩
    have t1 : (n : Int).tmod 10 = (r : Int) := by rw [Int.tmod_eq_emod_of_nonneg (by omega)]; omega
    have t2 : (n : Int).tdiv 100 = 1 := by rw [Int.tdiv_eq_ediv_of_nonneg (by omega)]; omega
    have t3 : IntKind.u8.wrap (r : Int) = (r : Int) := by rw [IntKind.wrap_u8]; omega
    have t6 : IntKind.u8.wrap 1 = 1 := by decide
    have t4 : IntKind.u8.wrap ((r : Int) + 8) = (x : Int) := by rw [IntKind.wrap_u8]; omega
    have t7 : IntKind.u8.wrap 8 = 8 := by decide
    have hqx : ∀ w, (Op.equalIn 10000 23 (colV b.bg) (.agg #[.int .u8 1, .int .u8 (x : Int), .int .u8 0, .int .u8 0])).run Tryd.prog w = .ok true w := fun w => (eqCol 9998 w b.bg ⟨1, x, 0, 0⟩).trans (by rw [(eqC_iff b.bg ⟨1, x, 0, 0⟩).2 (by rw [hE, show ((x : Nat) : Int) = (n : Int) - 92 by omega])])
    have hqo : ∀ w, (Op.equalIn 10000 23 (colV b.fg) (colV a.fg)).run Tryd.prog w = .ok true w := fun w => (eqCol 9998 w b.fg a.fg).trans (by rw [(eqC_iff b.fg a.fg).2 (by rw [hE])])
    have hfe : ((b.fl : Int) == (a.fl : Int)) = true := by rw [hE]; simp
    clear h hE hr hx HBE HS HC HK7 HK8
    go_upto_region 14 with (fail)
    have BB : Below m2.heap.size m2 m2.drew := ⟨rfl, rfl, rfl, Nat.le_refl _, fun _ _ => rfl⟩
    refine wp_region_held_drew (S := fun w' => w'.cell? ⟨z, 0, none⟩ = some (.int .u8 a.fg.k) ∧ w'.cell? ⟨z, 1, none⟩ = some (.int .u8 a.fg.r) ∧ w'.cell? ⟨z, 2, none⟩ = some (.int .u8 a.fg.g) ∧ w'.cell? ⟨z, 3, none⟩ = some (.int .u8 a.fg.b) ∧ w'.cell? ⟨z, 4, none⟩ = some (.int .u8 a.bg.k) ∧ w'.cell? ⟨z, 5, none⟩ = some (.int .u8 a.bg.r) ∧ w'.cell? ⟨z, 6, none⟩ = some (.int .u8 a.bg.g) ∧ w'.cell? ⟨z, 7, none⟩ = some (.int .u8 a.bg.b) ∧ w'.cell? ⟨z, 8, none⟩ = some (.int .u16 (a.fl : Nat)) ∧ w'.cell? ⟨y, 0, none⟩ = some (.int .u8 b.fg.k) ∧ w'.cell? ⟨y, 1, none⟩ = some (.int .u8 b.fg.r) ∧ w'.cell? ⟨y, 2, none⟩ = some (.int .u8 b.fg.g) ∧ w'.cell? ⟨y, 3, none⟩ = some (.int .u8 b.fg.b) ∧ w'.cell? ⟨y, 4, none⟩ = some (.int .u8 b.bg.k) ∧ w'.cell? ⟨y, 5, none⟩ = some (.int .u8 b.bg.r) ∧ w'.cell? ⟨y, 6, none⟩ = some (.int .u8 b.bg.g) ∧ w'.cell? ⟨y, 7, none⟩ = some (.int .u8 b.bg.b) ∧ w'.cell? ⟨y, 8, none⟩ = some (.int .u16 (b.fl : Nat))) (by kernel_rfl) ?_ (fun hHeld => ?_)
    · exact HKEEP.out _ BB
    obtain ⟨u0, hu0⟩ : ∃ u0, u0 = m2.drew := ⟨_, rfl⟩
    rw [← hu0] at BB hHeld ⊢
    clear hu0
    have HW := Lib.hid BB
    clear BB
    refine take_at (i := 0) (v := ?_) rfl (by kernel_rfl) (by kernel_rfl) (by kernel_rfl) (fun _ _ _ h => h) (by kernel_rfl) (by assumption) ?_ ?_
    rotate_left
    · (intro w hSw; (try dsimp only at hSw); go_simp; try with_reducible rfl)
    simp only [Act.put, List.setIfInBounds_toArray, List.set_cons_zero, List.set_cons_succ]
    refine take_at (i := 1) (v := ?_) rfl (by kernel_rfl) (by kernel_rfl) (by kernel_rfl) (fun _ _ _ h => h) (by kernel_rfl) (by assumption) ?_ ?_
    rotate_left
    · (intro w hSw; (try dsimp only at hSw); go_simp; try with_reducible rfl)
    simp only [Act.put, List.setIfInBounds_toArray, List.set_cons_zero, List.set_cons_succ]
    refine take_at (i := 2) (v := ?_) rfl (by kernel_rfl) (by kernel_rfl) (by kernel_rfl) (fun _ _ _ h => h) (by kernel_rfl) (by assumption) ?_ ?_
    rotate_left
    · (intro w hSw; (try dsimp only at hSw); go_simp; try with_reducible rfl)
    simp only [Act.put, List.setIfInBounds_toArray, List.set_cons_zero, List.set_cons_succ]
    refine take_at (i := 3) (v := ?_) rfl (by kernel_rfl) (by kernel_rfl) (by kernel_rfl) (fun _ _ _ h => h) (by kernel_rfl) (by assumption) ?_ ?_
    rotate_left
    · (intro w hSw; (try dsimp only at hSw); go_simp; try with_reducible rfl)
    simp only [Act.put, List.setIfInBounds_toArray, List.set_cons_zero, List.set_cons_succ]
    refine take_at (i := 4) (v := ?_) rfl (by kernel_rfl) (by kernel_rfl) (by kernel_rfl) (fun _ _ _ h => h) (by kernel_rfl) (by assumption) ?_ ?_
    rotate_left
    · (intro w hSw; (try dsimp only at hSw); go_simp; try with_reducible rfl)
    simp only [Act.put, List.setIfInBounds_toArray, List.set_cons_zero, List.set_cons_succ]
    refine take_at (i := 5) (v := ?_) rfl (by kernel_rfl) (by kernel_rfl) (by kernel_rfl) (fun _ _ _ h => h) (by kernel_rfl) (by assumption) ?_ ?_
    rotate_left
    · (intro w hSw; (try dsimp only at hSw); go_simp; try with_reducible rfl)
    simp only [Act.put, List.setIfInBounds_toArray, List.set_cons_zero, List.set_cons_succ]
    refine take_at (i := 6) (v := ?_) rfl (by kernel_rfl) (by kernel_rfl) (by kernel_rfl) (fun _ _ _ h => h) (by kernel_rfl) (by assumption) ?_ ?_
    rotate_left
    · (intro w hSw; (try dsimp only at hSw); go_simp; try with_reducible rfl)
    simp only [Act.put, List.setIfInBounds_toArray, List.set_cons_zero, List.set_cons_succ]
    refine take_at (i := 7) (v := ?_) rfl (by kernel_rfl) (by kernel_rfl) (by kernel_rfl) (fun _ _ _ h => h) (by kernel_rfl) (by assumption) ?_ ?_
    rotate_left
    · (intro w hSw; (try dsimp only at hSw); go_simp; try with_reducible rfl)
    simp only [Act.put, List.setIfInBounds_toArray, List.set_cons_zero, List.set_cons_succ]
    refine take_at (i := 8) (v := ?_) rfl (by kernel_rfl) (by kernel_rfl) (by kernel_rfl) (fun _ _ _ h => h) (by kernel_rfl) (by assumption) ?_ ?_
    rotate_left
    · (intro w hSw; (try dsimp only at hSw); go_simp; try with_reducible rfl)
    simp only [Act.put, List.setIfInBounds_toArray, List.set_cons_zero, List.set_cons_succ]
    refine take_at (i := 9) (v := ?_) rfl (by kernel_rfl) (by kernel_rfl) (by kernel_rfl) (fun _ _ _ h => h) (by kernel_rfl) (by assumption) ?_ ?_
    rotate_left
    · (intro w hSw; (try dsimp only at hSw); go_simp; try with_reducible rfl)
    simp only [Act.put, List.setIfInBounds_toArray, List.set_cons_zero, List.set_cons_succ]
    refine take_at (i := 10) (v := ?_) rfl (by kernel_rfl) (by kernel_rfl) (by kernel_rfl) (fun _ _ _ h => h) (by kernel_rfl) (by assumption) ?_ ?_
    rotate_left
    · (intro w hSw; (try dsimp only at hSw); go_simp; try with_reducible rfl)
    simp only [Act.put, List.setIfInBounds_toArray, List.set_cons_zero, List.set_cons_succ]
    refine take_at (i := 11) (v := ?_) rfl (by kernel_rfl) (by kernel_rfl) (by kernel_rfl) (fun _ _ _ h => h) (by kernel_rfl) (by assumption) ?_ ?_
    rotate_left
    · (intro w hSw; (try dsimp only at hSw); go_simp; try with_reducible rfl)
    simp only [Act.put, List.setIfInBounds_toArray, List.set_cons_zero, List.set_cons_succ]
    refine take_at (i := 12) (v := ?_) rfl (by kernel_rfl) (by kernel_rfl) (by kernel_rfl) (fun _ _ _ h => h) (by kernel_rfl) (by assumption) ?_ ?_
    rotate_left
    · (intro w hSw; (try dsimp only at hSw); go_simp; try with_reducible rfl)
    simp only [Act.put, List.setIfInBounds_toArray, List.set_cons_zero, List.set_cons_succ]
    refine take_at (i := 13) (v := ?_) rfl (by kernel_rfl) (by kernel_rfl) (by kernel_rfl) (fun _ _ _ h => h) (by kernel_rfl) (by assumption) ?_ ?_
    rotate_left
    · (intro w hSw; (try dsimp only at hSw); go_simp; try with_reducible rfl)
    simp only [Act.put, List.setIfInBounds_toArray, List.set_cons_zero, List.set_cons_succ]
    refine take_at (i := 14) (v := ?_) rfl (by kernel_rfl) (by kernel_rfl) (by kernel_rfl) (fun _ _ _ h => h) (by kernel_rfl) (by assumption) ?_ ?_
    rotate_left
    · (intro w hSw; (try dsimp only at hSw); go_simp; try with_reducible rfl)
    simp only [Act.put, List.setIfInBounds_toArray, List.set_cons_zero, List.set_cons_succ]
    refine take_at (i := 15) (v := ?_) rfl (by kernel_rfl) (by kernel_rfl) (by kernel_rfl) (fun _ _ _ h => h) (by kernel_rfl) (by assumption) ?_ ?_
    rotate_left
    · (intro w hSw; (try dsimp only at hSw); go_simp; try with_reducible rfl)
    simp only [Act.put, List.setIfInBounds_toArray, List.set_cons_zero, List.set_cons_succ]
    refine skip_at (i := 16) rfl (by kernel_rfl) (by kernel_rfl) (by kernel_rfl) (fun _ _ _ h => h) (by kernel_rfl) (by assumption) ?_
    simp only [Act.put, List.setIfInBounds_toArray, List.set_cons_zero, List.set_cons_succ]
    refine skip_at (i := 17) rfl (by kernel_rfl) (by kernel_rfl) (by kernel_rfl) (fun _ _ _ h => h) (by kernel_rfl) (by assumption) ?_
    simp only [Act.put, List.setIfInBounds_toArray, List.set_cons_zero, List.set_cons_succ]
    refine skip_at (i := 18) rfl (by kernel_rfl) (by kernel_rfl) (by kernel_rfl) (fun _ _ _ h => h) (by kernel_rfl) (by assumption) ?_
    simp only [Act.put, List.setIfInBounds_toArray, List.set_cons_zero, List.set_cons_succ]
    refine skip_at (i := 19) rfl (by kernel_rfl) (by kernel_rfl) (by kernel_rfl) (fun _ _ _ h => h) (by kernel_rfl) (by assumption) ?_
    simp only [Act.put, List.setIfInBounds_toArray, List.set_cons_zero, List.set_cons_succ]
    refine take_at (i := 20) (v := ?_) rfl (by kernel_rfl) (by kernel_rfl) (by kernel_rfl) (fun _ _ _ h => h) (by kernel_rfl) (by assumption) ?_ ?_
    rotate_left
    · (intro w hSw; (try dsimp only at hSw); go_simp; try with_reducible rfl)
    simp only [Act.put, List.setIfInBounds_toArray, List.set_cons_zero, List.set_cons_succ]
    refine take_at (i := 21) (v := ?_) rfl (by kernel_rfl) (by kernel_rfl) (by kernel_rfl) (fun _ _ _ h => h) (by kernel_rfl) (by assumption) ?_ ?_
    rotate_left
    · (intro w hSw; (try dsimp only at hSw); go_simp; try with_reducible rfl)
    simp only [Act.put, List.setIfInBounds_toArray, List.set_cons_zero, List.set_cons_succ]
    refine take_at (i := 22) (v := ?_) rfl (by kernel_rfl) (by kernel_rfl) (by kernel_rfl) (fun _ _ _ h => h) (by kernel_rfl) (by assumption) ?_ ?_
    rotate_left
    · (intro w hSw; (try dsimp only at hSw); go_simp; try with_reducible rfl)
    simp only [Act.put, List.setIfInBounds_toArray, List.set_cons_zero, List.set_cons_succ]
    refine take_at (i := 23) (v := ?_) rfl (by kernel_rfl) (by kernel_rfl) (by kernel_rfl) (fun _ _ _ h => h) (by kernel_rfl) (by assumption) ?_ ?_
    rotate_left
    · (intro w hSw; (try dsimp only at hSw); go_simp; try with_reducible rfl)
    simp only [Act.put, List.setIfInBounds_toArray, List.set_cons_zero, List.set_cons_succ]
    refine take_at (i := 24) (v := ?_) rfl (by kernel_rfl) (by kernel_rfl) (by kernel_rfl) (fun _ _ _ h => h) (by kernel_rfl) (by assumption) ?_ ?_
    rotate_left
    · (intro w hSw; (try dsimp only at hSw); go_simp; try with_reducible rfl)
    simp only [Act.put, List.setIfInBounds_toArray, List.set_cons_zero, List.set_cons_succ]
    refine take_at (i := 25) (v := ?_) rfl (by kernel_rfl) (by kernel_rfl) (by kernel_rfl) (fun _ _ _ h => h) (by kernel_rfl) (by assumption) ?_ ?_
    rotate_left
    · (intro w hSw; (try dsimp only at hSw); go_simp; try with_reducible rfl)
    simp only [Act.put, List.setIfInBounds_toArray, List.set_cons_zero, List.set_cons_succ]
    refine take_at (i := 26) (v := ?_) rfl (by kernel_rfl) (by kernel_rfl) (by kernel_rfl) (fun _ _ _ h => h) (by kernel_rfl) (by assumption) ?_ ?_
    rotate_left
    · (intro w hSw; (try dsimp only at hSw); go_simp; try with_reducible rfl)
    simp only [Act.put, List.setIfInBounds_toArray, List.set_cons_zero, List.set_cons_succ]
    refine take_at (i := 27) (v := ?_) rfl (by kernel_rfl) (by kernel_rfl) (by kernel_rfl) (fun _ _ _ h => h) (by kernel_rfl) (by assumption) ?_ ?_
    rotate_left
    · (intro w hSw; (try dsimp only at hSw); go_simp; try with_reducible rfl)
    simp only [Act.put, List.setIfInBounds_toArray, List.set_cons_zero, List.set_cons_succ]
    refine take_at (i := 28) (v := ?_) rfl (by kernel_rfl) (by kernel_rfl) (by kernel_rfl) (fun _ _ _ h => h) (by kernel_rfl) (by assumption) ?_ ?_
    rotate_left
    · (intro w hSw; (try dsimp only at hSw); go_simp; try with_reducible rfl)
    simp only [Act.put, List.setIfInBounds_toArray, List.set_cons_zero, List.set_cons_succ]
    refine take_at (i := 29) (v := ?_) rfl (by kernel_rfl) (by kernel_rfl) (by kernel_rfl) (fun _ _ _ h => h) (by kernel_rfl) (by assumption) ?_ ?_
    rotate_left
    · (intro w hSw; (try dsimp only at hSw); go_simp; try with_reducible rfl)
    simp only [Act.put, List.setIfInBounds_toArray, List.set_cons_zero, List.set_cons_succ]
    refine take_at (i := 30) (v := ?_) rfl (by kernel_rfl) (by kernel_rfl) (by kernel_rfl) (fun _ _ _ h => h) (by kernel_rfl) (by assumption) ?_ ?_
    rotate_left
    · (intro w hSw; (try dsimp only at hSw); go_simp; try with_reducible rfl)
    simp only [Act.put, List.setIfInBounds_toArray, List.set_cons_zero, List.set_cons_succ]
    refine take_at (i := 31) (v := ?_) rfl (by kernel_rfl) (by kernel_rfl) (by kernel_rfl) (fun _ _ _ h => h) (by kernel_rfl) (by assumption) ?_ ?_
    rotate_left
    · (intro w hSw; (try dsimp only at hSw); go_simp; try with_reducible rfl)
    simp only [Act.put, List.setIfInBounds_toArray, List.set_cons_zero, List.set_cons_succ]
    refine take_at (i := 32) (v := ?_) rfl (by kernel_rfl) (by kernel_rfl) (by kernel_rfl) (fun _ _ _ h => h) (by kernel_rfl) (by assumption) ?_ ?_
    rotate_left
    · (intro w hSw; (try dsimp only at hSw); go_simp; try with_reducible rfl)
    simp only [Act.put, List.setIfInBounds_toArray, List.set_cons_zero, List.set_cons_succ]
    refine take_at (i := 33) (v := ?_) rfl (by kernel_rfl) (by kernel_rfl) (by kernel_rfl) (fun _ _ _ h => h) (by kernel_rfl) (by assumption) ?_ ?_
    rotate_left
    · (intro w hSw; (try dsimp only at hSw); go_simp; try with_reducible rfl)
    simp only [Act.put, List.setIfInBounds_toArray, List.set_cons_zero, List.set_cons_succ]
    refine do_at (i := 34) rfl (by kernel_rfl) (by kernel_rfl) (fun K hK => ?_)
    go_simp
    refine (index_any _ _).mono ?_
    rintro e u4 ⟨rfl, bb⟩
    replace HW := Lib.hid (HW.out.trans (bb.mono HW.out.size))
    clear bb
    go_wp2_with fail
    refine hK.out _ _ ?_ (fun hHeld => ?_)
    · exact HKEEP.out _ HW.out
    clear hK K
    try simp only [Act.put, List.setIfInBounds_toArray, List.set_cons_zero, List.set_cons_succ]
    refine take_at (i := 35) (v := ?_) rfl (by kernel_rfl) (by kernel_rfl) (by kernel_rfl) (fun _ _ _ h => h) (by kernel_rfl) (by assumption) ?_ ?_
    rotate_left
    · (intro w hSw; (try dsimp only at hSw); go_simp; try with_reducible rfl)
    simp only [Act.put, List.setIfInBounds_toArray, List.set_cons_zero, List.set_cons_succ]
    refine take_at (i := 36) (v := ?_) rfl (by kernel_rfl) (by kernel_rfl) (by kernel_rfl) (fun _ _ _ h => h) (by kernel_rfl) (by assumption) ?_ ?_
    rotate_left
    · (intro w hSw; (try dsimp only at hSw); go_simp; try with_reducible rfl)
    simp only [Act.put, List.setIfInBounds_toArray, List.set_cons_zero, List.set_cons_succ]
    refine take_at (i := 37) (v := ?_) rfl (by kernel_rfl) (by kernel_rfl) (by kernel_rfl) (fun _ _ _ h => h) (by kernel_rfl) (by assumption) ?_ ?_
    rotate_left
    · (intro w hSw; (try dsimp only at hSw); go_simp; try with_reducible rfl)
    simp only [Act.put, List.setIfInBounds_toArray, List.set_cons_zero, List.set_cons_succ]
    refine take_at (i := 38) (v := ?_) rfl (by kernel_rfl) (by kernel_rfl) (by kernel_rfl) (fun _ _ _ h => h) (by kernel_rfl) (by assumption) ?_ ?_
    rotate_left
    · (intro w hSw; (try dsimp only at hSw); go_simp; try with_reducible rfl)
    simp only [Act.put, List.setIfInBounds_toArray, List.set_cons_zero, List.set_cons_succ]
    refine wpAnyH_done (by kernel_rfl) ?_ _
    go_wp2
    go_ret
    exact ⟨rfl, HBF.out.trans (HW.out.mono HBF.out.size)⟩
  · have g0 : ((n : Int) == 0) = false := by simp; omega
    have g30 : decide ((n : Int) ≥ 30) = true := by simp; omega
    have q30 : decide (30 ≤ (n : Int)) = true := by simp; omega
    have g90 : decide ((n : Int) ≥ 90) = true := by simp; omega
    have q90 : decide (90 ≤ (n : Int)) = true := by simp; omega
    have g40 : decide ((n : Int) ≥ 40) = true := by simp; omega
    have q40 : decide (40 ≤ (n : Int)) = true := by simp; omega
    have g100 : decide ((n : Int) ≥ 100) = true := by simp; omega
    have q100 : decide (100 ≤ (n : Int)) = true := by simp; omega
    have l37 : decide ((n : Int) ≤ 37) = false := by simp; omega
    have l97 : decide ((n : Int) ≤ 97) = false := by simp; omega
    have l47 : decide ((n : Int) ≤ 47) = false := by simp; omega
    have l107 : decide ((n : Int) ≤ 107) = false := by simp; omega
    have e39 : ((n : Int) == 39) = false := by simp; omega
    have x39 : ((n : Int) != 39) = true := by simp; omega
    have e49 : ((n : Int) == 49) = false := by simp; omega
    have x49 : ((n : Int) != 49) = true := by simp; omega
    have hE : b = a.flags s c := by rw [HBE.out, HS.out, HC.out]; exact simple_flags a HOA.out.2.2 n (by omega)
    have hc16 : c < 65536 := by
      rw [HC.out]
      unfold clrsN
      repeat' split
      all_goals decide
    have hs16 : s < 65536 := by
      rw [HS.out]
      unfold setsN
      repeat' split
      all_goals decide
    obtain ⟨g, hg⟩ : ∃ g, g = a.fl &&& (65535 - c) := ⟨_, rfl⟩
    have hg16 : g < 65536 := by rw [hg]; exact Nat.lt_of_le_of_lt Nat.and_le_left HOA.out.2.2
    have u1' : bits .andNot .u16 (a.fl : Int) (c : Int) = (g : Int) := by rw [hg]; exact u16_andN a.fl c HOA.out.2.2 hc16
    have u2' : bits .or .u16 (g : Int) (s : Int) = (b.fl : Int) := by rw [u16_orN g s hg16 hs16, hE, hg]; rfl
    have hqf : ∀ w, (Op.equalIn 10000 23 (colV b.fg) (colV a.fg)).run Tryd.prog w = .ok true w := fun w => (eqCol 9998 w b.fg a.fg).trans (by rw [(eqC_iff b.fg a.fg).2 (by rw [hE]; rfl)])
    have hqg : ∀ w, (Op.equalIn 10000 23 (colV b.bg) (colV a.bg)).run Tryd.prog w = .ok true w := fun w => (eqCol 9998 w b.bg a.bg).trans (by rw [(eqC_iff b.bg a.bg).2 (by rw [hE]; rfl)])
    obtain ⟨s0, s1, s2, s3, s4, s5, s6, s7, s8, s9, s10, s11, s12, s13, s14, s15, s16, s17⟩ := HKEEP.out _ (Below.refl m2.heap.size m2)
    have k7 := HK7.out
    have k8 := HK8.out
    clear h hE hg hc16 hs16 hg16 HKEEP HBE HS HC HK7 HK8
    go_wp2
    go_ret
    exact ⟨rfl, HBF.out⟩
end Go.Proofs.YtlmhnebgkginkaaDoor.Lab
