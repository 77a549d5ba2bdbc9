/- GridKnown: the walk. -/
import Derived.Test.YtdeahnphcfcfpaaGgWorks
import Derived.Test.YtdeahnphcfcfpaaGdCopy
import Derived.Test.YtdeahnphcfcfpaaGkNil
import Derived.Test.YtdeahnphcfcfpaaGkNilB
namespace Go.Proofs.Ytdeahnphcfcfpaa.Lab
open Go Go.RowKit

theorem Lie.buts {w w' : World} {b : Nat} {l : List Value} {S : Nat → Prop} (h : Lie w b l) (k : Buts S w w') (hn : ¬ S b) : Lie w' b l := ⟨Nat.lt_of_lt_of_le h.1 k.size, fun j v hj => k.cell (h.2 j v hj) hn⟩
def K0 : List Cls := List.replicate 2 (newM 3 Cel.z)
def K1 : List Cls := [Cel.z :: takesM (cA 20013) true, newM 3 Cel.z]
def K2 : List Cls := resG K1 2 2 Cel.z 2
def K3 : List Cls := K2.map fun R => raiseM R 1
theorem good512 : Good (List.replicate 512 (newM 512 Cel.z)) 512 :=
  ⟨fun R hR => by rw [List.eq_of_mem_replicate hR]; exact newM_rw 512 rfl (.inl rfl), by rw [List.length_replicate]; decide, by rw [List.length_replicate]; decide, by decide, by decide⟩
theorem put_gen (W : World) (lo p rb c m : Nat) (r cl ru : Int) (wide : Bool) (G K : List Cls) (h : Gg W lo p rb c G) (g : goodB G m = true) (hlo : lo ≤ W.heap.size) (hs : editG G m r cl (fun R => putP R cl (cA ru) wide) = K) :
    Calls Try.prog 32 #[gV p, .agg #[.int .i64 r, .int .i64 cl], cV ru, .bool wide] W fun e w' => e = .returned (.tuple #[]) ∧ Gg w' lo p rb c K ∧ Buts (· = rb) W w' := by
  subst hs
  exact gput W lo p rb c m G r cl (cA ru) wide h (good_of g) hlo
set_option maxHeartbeats 16000000 in
set_option maxRecDepth 100000 in
theorem gridKnown_walk (w : World) : Calls Try.prog 6 #[] w fun e w' => e = .returned (.bool true) ∧ Below w.heap.size w w' := by
  go_enter Try.func6, Try.ntmps6
  go_wp2_with fail
  refine (gnew w 2 3 Cel.z (by decide)).mono ?_
  rintro e w1 ⟨p, rb, c, rfl, gg, bb⟩
  have HB := Lib.hid bb
  have HG := Lib.hid (show Gg w1 w.heap.size p rb c K0 from gg)
  clear gg
  clear bb
  go_wp2_with fail
  refine (put_gen w1 w.heap.size p rb c 3 0 1 20013 true K0 K1 HG.out (by decide +kernel) HB.out.size (by decide +kernel)).mono ?_
  rintro e w2 ⟨rfl, gg, bt⟩
  replace HB := Lib.hid (HB.out.trans (bt.below (C := w.heap.size) (fun i hi => by have := HG.out.lt; omega) HB.out.size))
  replace HG := Lib.hid gg
  clear gg bt
  go_wp2_with fail
  refine (put_gen w2 w.heap.size p rb c 3 1 2 20013 true K1 K1 HG.out (by decide +kernel) HB.out.size (by decide +kernel)).mono ?_
  rintro e w3 ⟨rfl, gg, bt⟩
  replace HB := Lib.hid (HB.out.trans (bt.below (C := w.heap.size) (fun i hi => by have := HG.out.lt; omega) HB.out.size))
  replace HG := Lib.hid gg
  clear gg bt
  go_wp2_with fail
  refine (put_gen w3 w.heap.size p rb c 3 2 0 120 false K1 K1 HG.out (by decide +kernel) HB.out.size (by decide +kernel)).mono ?_
  rintro e w4 ⟨rfl, gg, bt⟩
  replace HB := Lib.hid (HB.out.trans (bt.below (C := w.heap.size) (fun i hi => by have := HG.out.lt; omega) HB.out.size))
  replace HG := Lib.hid gg
  clear gg bt
  go_wp2_with fail
  refine (put_gen w4 w.heap.size p rb c 3 0 3 120 false K1 K1 HG.out (by decide +kernel) HB.out.size (by decide +kernel)).mono ?_
  rintro e w5 ⟨rfl, gg, bt⟩
  replace HB := Lib.hid (HB.out.trans (bt.below (C := w.heap.size) (fun i hi => by have := HG.out.lt; omega) HB.out.size))
  replace HG := Lib.hid gg
  clear gg bt
  obtain ⟨w6, hwn⟩ : ∃ X, X = w5.alloc (.cells #[.string ⟨#[32, 228, 184, 173]⟩, .string ⟨#[32, 32, 32]⟩] 9) := ⟨_, rfl⟩
  obtain ⟨q6, hqn⟩ : ∃ b, b = w5.heap.size := ⟨_, rfl⟩
  have HLT := Lib.hid (show Lie w6 q6 (([⟨#[32, 228, 184, 173]⟩, ⟨#[32, 32, 32]⟩] : List ByteArray).map .string) by rw [hwn]; exact Lie.new w5 _ _ q6 hqn)
  have bb : Below w5.heap.size w5 w6 := by rw [hwn]; exact (Below.refl _ _).alloc (Nat.le_refl _) _
  replace HG := Lib.hid (HG.out.below bb)
  replace HB := Lib.hid (HB.out.trans (bb.mono HB.out.size))
  clear bb
  go_wp2_with fail
  rw [← hwn, ← hqn]
  clear hwn hqn
  refine (texts_is w6 w.heap.size p rb c 3 q6 2 K1 [⟨#[32, 228, 184, 173]⟩, ⟨#[32, 32, 32]⟩] HG.out (by decide +kernel) (by decide +kernel) rfl (by decide) HLT.out (by decide +kernel) (by decide +kernel)).mono ?_
  rintro e w7 ⟨rfl, bb⟩
  replace HG := Lib.hid (HG.out.below bb)
  replace HB := Lib.hid (HB.out.trans (bb.mono HB.out.size))
  clear bb HLT
  go_wp2_with fail
  obtain ⟨H, h1, h2⟩ := HG.out
  have HAT := Lib.hid (show Calls Try.prog 14 #[gV p, .agg #[.int .i64 0, .int .i64 1]] w7 fun e w' => e = .returned (.tuple #[celV (gc (rowG K1 0) 1), .bool true]) ∧ Below w7.heap.size w7 w' from by
    have hl : H.length = 2 := by have := congrArg List.length h2; rw [List.length_map] at this; exact this
    have hr : ∀ i, (hdAt H i).R = rowG K1 i := fun i => by rw [rowG_hd, h2]
    have := at_yes w7 w.heap.size p rb c 0 1 H h1 (by omega) (by rw [hr]; decide) (by rw [hr])
    rw [hr] at this
    exact this)
  clear h1 h2
  refine HAT.out.mono ?_
  rintro e w8 ⟨rfl, bb⟩
  replace HG := Lib.hid (HG.out.below bb)
  replace HB := Lib.hid (HB.out.trans (bb.mono HB.out.size))
  clear bb HAT
  obtain ⟨x4, hx4⟩ : ∃ x, x = gc (rowG K1 0) 1 := ⟨_, rfl⟩
  have HK4 := Lib.hid (show x4.k = 1 by rw [hx4]; decide +kernel)
  rw [← hx4]
  obtain ⟨w9, hwn⟩ : ∃ X, X = w8.alloc (.cells #[.int .i32 x4.ru, .int .i32 x4.m0, .int .i32 x4.m1, .int .u8 x4.k, .int .u8 x4.a.fg.k, .int .u8 x4.a.fg.r, .int .u8 x4.a.fg.g, .int .u8 x4.a.fg.b, .int .u8 x4.a.bg.k, .int .u8 x4.a.bg.r, .int .u8 x4.a.bg.g, .int .u8 x4.a.bg.b, .int .u16 (x4.a.fl : Nat), .int .u8 x4.l] 42) := ⟨_, rfl⟩
  obtain ⟨b4, hqn⟩ : ∃ b, b = w8.heap.size := ⟨_, rfl⟩
  have HL4 := Lib.hid (show Lie w9 b4 [.int .i32 x4.ru, .int .i32 x4.m0, .int .i32 x4.m1, .int .u8 x4.k, .int .u8 x4.a.fg.k, .int .u8 x4.a.fg.r, .int .u8 x4.a.fg.g, .int .u8 x4.a.fg.b, .int .u8 x4.a.bg.k, .int .u8 x4.a.bg.r, .int .u8 x4.a.bg.g, .int .u8 x4.a.bg.b, .int .u16 (x4.a.fl : Nat), .int .u8 x4.l] by rw [hwn]; exact Lie.new w8 _ _ b4 hqn)
  have bb : Below w8.heap.size w8 w9 := by rw [hwn]; exact (Below.refl _ _).alloc (Nat.le_refl _) _
  have HN4 := Lib.hid (show b4 ≠ p ∧ b4 ≠ rb ∧ b4 < w9.heap.size by have := HG.out.lt; refine ⟨by omega, by omega, ?_⟩; rw [hwn, hqn]; simp)
  replace HG := Lib.hid (HG.out.below bb)
  replace HB := Lib.hid (HB.out.trans (bb.mono HB.out.size))
  clear hx4 bb
  go_upto_region 9 with (fail)
  rw [← hwn, ← hqn]
  clear hwn hqn
  go_wp2_with fail
  obtain ⟨H, h1, h2⟩ := HG.out
  have HAT := Lib.hid (show Calls Try.prog 14 #[gV p, .agg #[.int .i64 0, .int .i64 2]] w9 fun e w' => e = .returned (.tuple #[celV (gc (rowG K1 0) 2), .bool true]) ∧ Below w9.heap.size w9 w' from by
    have hl : H.length = 2 := by have := congrArg List.length h2; rw [List.length_map] at this; exact this
    have hr : ∀ i, (hdAt H i).R = rowG K1 i := fun i => by rw [rowG_hd, h2]
    have := at_yes w9 w.heap.size p rb c 0 2 H h1 (by omega) (by rw [hr]; decide) (by rw [hr])
    rw [hr] at this
    exact this)
  clear h1 h2
  refine HAT.out.mono ?_
  rintro e w10 ⟨rfl, bb⟩
  replace HG := Lib.hid (HG.out.below bb)
  replace HL4 := Lib.hid (HL4.out.below bb)
  replace HB := Lib.hid (HB.out.trans (bb.mono HB.out.size))
  clear bb HAT
  obtain ⟨x6, hx6⟩ : ∃ x, x = gc (rowG K1 0) 2 := ⟨_, rfl⟩
  have HK6 := Lib.hid (show x6.k = 2 by rw [hx6]; decide +kernel)
  rw [← hx6]
  obtain ⟨w11, hwn⟩ : ∃ X, X = w10.alloc (.cells #[.int .i32 x6.ru, .int .i32 x6.m0, .int .i32 x6.m1, .int .u8 x6.k, .int .u8 x6.a.fg.k, .int .u8 x6.a.fg.r, .int .u8 x6.a.fg.g, .int .u8 x6.a.fg.b, .int .u8 x6.a.bg.k, .int .u8 x6.a.bg.r, .int .u8 x6.a.bg.g, .int .u8 x6.a.bg.b, .int .u16 (x6.a.fl : Nat), .int .u8 x6.l] 42) := ⟨_, rfl⟩
  obtain ⟨b6, hqn⟩ : ∃ b, b = w10.heap.size := ⟨_, rfl⟩
  have HL6 := Lib.hid (show Lie w11 b6 [.int .i32 x6.ru, .int .i32 x6.m0, .int .i32 x6.m1, .int .u8 x6.k, .int .u8 x6.a.fg.k, .int .u8 x6.a.fg.r, .int .u8 x6.a.fg.g, .int .u8 x6.a.fg.b, .int .u8 x6.a.bg.k, .int .u8 x6.a.bg.r, .int .u8 x6.a.bg.g, .int .u8 x6.a.bg.b, .int .u16 (x6.a.fl : Nat), .int .u8 x6.l] by rw [hwn]; exact Lie.new w10 _ _ b6 hqn)
  have bb : Below w10.heap.size w10 w11 := by rw [hwn]; exact (Below.refl _ _).alloc (Nat.le_refl _) _
  have HN6 := Lib.hid (show b6 ≠ p ∧ b6 ≠ rb ∧ b6 < w11.heap.size by have := HG.out.lt; refine ⟨by omega, by omega, ?_⟩; rw [hwn, hqn]; simp)
  replace HG := Lib.hid (HG.out.below bb)
  replace HL4 := Lib.hid (HL4.out.below bb)
  replace HB := Lib.hid (HB.out.trans (bb.mono HB.out.size))
  clear hx6 bb
  go_upto_region 10 with (fail)
  rw [← hwn, ← hqn]
  clear hwn hqn
  go_wp2_with fail
  have HS4 := Lib.hid (show b4 < w11.heap.size from HL4.out.1)
  have HS6 := Lib.hid (show b6 < w11.heap.size from HL6.out.1)
  refine (resize_is w11 w.heap.size p rb c 3 2 2 K1 K2 HG.out (by decide +kernel) HB.out.size (by decide) (by decide +kernel)).mono ?_
  rintro e w12 ⟨rfl, ⟨rb2, c2, gg, hrb⟩, bt⟩
  replace HL4 := Lib.hid (HL4.out.buts bt (by have := HN4.out; omega))
  replace HL6 := Lib.hid (HL6.out.buts bt (by have := HN6.out; omega))
  have HNR := Lib.hid (show w11.heap.size ≤ rb2 from hrb)
  replace HB := Lib.hid (HB.out.trans (bt.below (C := w.heap.size) (fun i hi => by have := HG.out.lt; omega) HB.out.size))
  replace HG := Lib.hid gg
  replace HN4 := Lib.hid (show b4 ≠ p ∧ b4 ≠ rb2 ∧ b4 < w12.heap.size from ⟨HN4.out.1, by have h1 := HNR.out; have h2 := HS4.out; omega, HL4.out.1⟩)
  replace HN6 := Lib.hid (show b6 ≠ p ∧ b6 ≠ rb2 ∧ b6 < w12.heap.size from ⟨HN6.out.1, by have h1 := HNR.out; have h2 := HS6.out; omega, HL6.out.1⟩)
  clear gg bt hrb HNR HS4 HS6
  obtain ⟨w13, hwn⟩ : ∃ X, X = w12.alloc (.cells #[.string ⟨#[32, 32]⟩, .string ⟨#[32, 32]⟩] 9) := ⟨_, rfl⟩
  obtain ⟨q13, hqn⟩ : ∃ b, b = w12.heap.size := ⟨_, rfl⟩
  have HLT := Lib.hid (show Lie w13 q13 (([⟨#[32, 32]⟩, ⟨#[32, 32]⟩] : List ByteArray).map .string) by rw [hwn]; exact Lie.new w12 _ _ q13 hqn)
  have bb : Below w12.heap.size w12 w13 := by rw [hwn]; exact (Below.refl _ _).alloc (Nat.le_refl _) _
  replace HG := Lib.hid (HG.out.below bb)
  replace HL4 := Lib.hid (HL4.out.below bb)
  replace HL6 := Lib.hid (HL6.out.below bb)
  replace HB := Lib.hid (HB.out.trans (bb.mono HB.out.size))
  clear bb
  go_wp2_with fail
  rw [← hwn, ← hqn]
  clear hwn hqn
  refine (texts_is w13 w.heap.size p rb2 c2 2 q13 2 K2 [⟨#[32, 32]⟩, ⟨#[32, 32]⟩] HG.out (by decide +kernel) (by decide +kernel) rfl (by decide) HLT.out (by decide +kernel) (by decide +kernel)).mono ?_
  rintro e w14 ⟨rfl, bb⟩
  replace HG := Lib.hid (HG.out.below bb)
  replace HL4 := Lib.hid (HL4.out.below bb)
  replace HL6 := Lib.hid (HL6.out.below bb)
  replace HB := Lib.hid (HB.out.trans (bb.mono HB.out.size))
  clear bb HLT
  go_wp2_with fail
  refine (gnew w14 512 512 Cel.z (by decide)).mono ?_
  rintro e w15 ⟨pb, rbb, cb, rfl, gb, bb⟩
  replace HG := Lib.hid (HG.out.below bb)
  replace HL4 := Lib.hid (HL4.out.below bb)
  replace HL6 := Lib.hid (HL6.out.below bb)
  replace HB := Lib.hid (HB.out.trans (bb.mono HB.out.size))
  have HGB := Lib.hid gb
  clear gb
  clear bb
  go_wp2_with fail
  refine (gnew_none w15 513 1 Cel.z (by decide)).mono ?_
  rintro e w16 ⟨rfl, bb⟩
  replace HG := Lib.hid (HG.out.below bb)
  replace HL4 := Lib.hid (HL4.out.below bb)
  replace HL6 := Lib.hid (HL6.out.below bb)
  replace HGB := Lib.hid (HGB.out.below bb)
  replace HB := Lib.hid (HB.out.trans (bb.mono HB.out.size))
  clear bb
  go_wp2_with fail
  refine (gsize w16 _ pb rbb cb 512 (List.replicate 512 (newM 512 Cel.z)) HGB.out good512).mono ?_
  rintro e w17 ⟨rfl, bb⟩
  rw [show ((List.replicate 512 (newM 512 Cel.z)).length : Nat) = 512 from List.length_replicate ..]
  replace HG := Lib.hid (HG.out.below bb)
  replace HL4 := Lib.hid (HL4.out.below bb)
  replace HL6 := Lib.hid (HL6.out.below bb)
  replace HGB := Lib.hid (HGB.out.below bb)
  replace HB := Lib.hid (HB.out.trans (bb.mono HB.out.size))
  clear bb
  go_wp2_with fail
  refine (at_no w17 (.pointer none) 0 0 0 0 (SizeIs.none _) (by decide)).mono ?_
  rintro e w18 ⟨rfl, bb⟩
  replace HG := Lib.hid (HG.out.below bb)
  replace HL4 := Lib.hid (HL4.out.below bb)
  replace HL6 := Lib.hid (HL6.out.below bb)
  replace HB := Lib.hid (HB.out.trans (bb.mono HB.out.size))
  clear bb
  obtain ⟨w19, hwn⟩ : ∃ X, X = w18.alloc (.cells #[.int .i32 0, .int .i32 0, .int .i32 0, .int .u8 0, .int .u8 0, .int .u8 0, .int .u8 0, .int .u8 0, .int .u8 0, .int .u8 0, .int .u8 0, .int .u8 0, .int .u16 0, .int .u8 0] 42) := ⟨_, rfl⟩
  obtain ⟨b13, hqn⟩ : ∃ b, b = w18.heap.size := ⟨_, rfl⟩
  have bb : Below w18.heap.size w18 w19 := by rw [hwn]; exact (Below.refl _ _).alloc (Nat.le_refl _) _
  replace HG := Lib.hid (HG.out.below bb)
  replace HL4 := Lib.hid (HL4.out.below bb)
  replace HL6 := Lib.hid (HL6.out.below bb)
  replace HB := Lib.hid (HB.out.trans (bb.mono HB.out.size))
  clear bb
  go_upto_region 14 with (fail)
  rw [← hwn, ← hqn]
  clear hwn hqn
  go_wp2_with fail
  refine (gput_no w19 (.pointer none) 0 0 0 0 Cel.z false (SizeIs.none _) (by decide)).mono ?_
  rintro e w20 ⟨rfl, bb⟩
  replace HG := Lib.hid (HG.out.below bb)
  replace HL4 := Lib.hid (HL4.out.below bb)
  replace HL6 := Lib.hid (HL6.out.below bb)
  replace HB := Lib.hid (HB.out.trans (bb.mono HB.out.size))
  clear bb
  go_wp2_with fail
  refine (raise_nil w20 1).mono ?_
  rintro e w21 ⟨rfl, bb⟩
  replace HG := Lib.hid (HG.out.below bb)
  replace HL4 := Lib.hid (HL4.out.below bb)
  replace HL6 := Lib.hid (HL6.out.below bb)
  replace HB := Lib.hid (HB.out.trans (bb.mono HB.out.size))
  clear bb
  go_wp2_with fail
  refine (gerase_no w21 (.pointer none) 0 0 none 0 0 9 Cel.z (fun w' _ => kept_none w') (by decide)).mono ?_
  rintro e w22 ⟨rfl, bb⟩
  replace HG := Lib.hid (HG.out.below bb)
  replace HL4 := Lib.hid (HL4.out.below bb)
  replace HL6 := Lib.hid (HL6.out.below bb)
  replace HB := Lib.hid (HB.out.trans (bb.mono HB.out.size))
  clear bb
  go_wp2_with fail
  refine (size_none w22).mono ?_
  rintro e w23 ⟨rfl, rfl⟩
  go_wp2_with fail
  refine (graise w22 w.heap.size p rb2 c2 2 K2 1 HG.out (good_of (by decide +kernel)) HB.out.size (.inr rfl)).mono ?_
  rintro e w24 ⟨rfl, gg, bt⟩
  replace HL4 := Lib.hid (HL4.out.buts bt (by have := HN4.out; omega))
  replace HL6 := Lib.hid (HL6.out.buts bt (by have := HN6.out; omega))
  replace HB := Lib.hid (HB.out.trans (bt.below (C := w.heap.size) (fun i hi => by have := HG.out.lt; omega) HB.out.size))
  replace HG := Lib.hid gg
  clear gg bt
  have HG3 := Lib.hid (show Gg w24 w.heap.size p rb2 c2 K3 from HG.out)
  replace HG := HG3
  clear HG3
  go_wp2_with fail
  refine (works_any w24).mono ?_
  rintro e w25 ⟨rfl, bb⟩
  replace HG := Lib.hid (HG.out.below bb)
  replace HL4 := Lib.hid (HL4.out.below bb)
  replace HL6 := Lib.hid (HL6.out.below bb)
  replace HB := Lib.hid (HB.out.trans (bb.mono HB.out.size))
  clear bb
  have z4 := HL4.out.at 3 rfl
  rw [HK4.out] at z4
  have z6 := HL6.out.at 3 rfl
  rw [HK6.out] at z6
  clear HL4 HL6
  go_wp2_with fail
  refine (gnew_none w25 0 5 Cel.z (by decide)).mono ?_
  rintro e w26 ⟨rfl, bb⟩
  replace HG := Lib.hid (HG.out.below bb)
  replace HB := Lib.hid (HB.out.trans (bb.mono HB.out.size))
  clear bb
  clear z4 z6
  go_wp2_with fail
  refine (gnew_none w26 5 (-1) Cel.z (by decide)).mono ?_
  rintro e w27 ⟨rfl, bb⟩
  replace HG := Lib.hid (HG.out.below bb)
  replace HB := Lib.hid (HB.out.trans (bb.mono HB.out.size))
  clear bb
  go_wp2_with fail
  obtain ⟨H, h1, h2⟩ := HG.out
  have HKEPT := Lib.hid h1
  clear h1 h2
  refine (gresize_no w27 (gV p) H.length c2 (some ⟨rb2, 0, none⟩) 2 513 Cel.z (fun w' b => kept_any w' p _ ((HKEPT.out.below b).cell)) (.inr (by decide))).mono ?_
  rintro e w28 ⟨rfl, bb⟩
  replace HG := Lib.hid (HG.out.below bb)
  replace HB := Lib.hid (HB.out.trans (bb.mono HB.out.size))
  clear bb HKEPT
  go_wp2_with fail
  obtain ⟨H, h1, h2⟩ := HG.out
  have HKEPT := Lib.hid h1
  clear h1 h2
  refine (gresize_no w28 (gV p) H.length c2 (some ⟨rb2, 0, none⟩) 0 2 Cel.z (fun w' b => kept_any w' p _ ((HKEPT.out.below b).cell)) (.inr (by decide))).mono ?_
  rintro e w29 ⟨rfl, bb⟩
  replace HG := Lib.hid (HG.out.below bb)
  replace HB := Lib.hid (HB.out.trans (bb.mono HB.out.size))
  clear bb HKEPT
  go_wp2_with fail
  refine (glevel w29 w.heap.size p rb2 c2 2 K3 HG.out (good_of (by decide +kernel))).mono ?_
  rintro e w30 ⟨rfl, bb⟩
  rw [show levG K3 = 1 by decide +kernel]
  replace HG := Lib.hid (HG.out.below bb)
  replace HB := Lib.hid (HB.out.trans (bb.mono HB.out.size))
  clear bb
  go_wp2_with fail
  refine (row_nil w30 0).mono ?_
  rintro e w31 ⟨rfl, rfl⟩
  go_wp2_with fail
  refine (gset_no w30 (.pointer none) 0 0 0 0 0 none (SizeIs.none _) (by decide)).mono ?_
  rintro e w32 ⟨rfl, bb⟩
  replace HG := Lib.hid (HG.out.below bb)
  replace HB := Lib.hid (HB.out.trans (bb.mono HB.out.size))
  clear bb
  go_wp2_with fail
  refine (up_nil w32 w.heap.size p rb2 c2 2 K3 HG.out (good_of (by decide +kernel)) HB.out.size).mono ?_
  rintro e w33 ⟨ua, uc, rfl, gg, bt⟩
  replace HB := Lib.hid (HB.out.trans (bt.below (C := w.heap.size) (fun i hi => by have := HG.out.lt; omega) HB.out.size))
  replace HG := Lib.hid gg
  clear gg bt
  go_wp2_with fail
  refine (gresize_no w33 (.pointer none) 0 0 none 2 2 Cel.z (fun w' _ => kept_none w') (.inl rfl)).mono ?_
  rintro e w34 ⟨rfl, bb⟩
  replace HG := Lib.hid (HG.out.below bb)
  replace HB := Lib.hid (HB.out.trans (bb.mono HB.out.size))
  clear bb
  go_wp2_with fail
  refine (level_nil w34).mono ?_
  rintro e w35 ⟨rfl, bb⟩
  replace HG := Lib.hid (HG.out.below bb)
  replace HB := Lib.hid (HB.out.trans (bb.mono HB.out.size))
  clear bb
  go_wp2_with fail
  refine (gcopy_nil w35).mono ?_
  rintro e w36 ⟨rfl, rfl⟩
  go_wp2_with fail
  refine (text_nil w35).mono ?_
  rintro e w37 ⟨rfl, bb⟩
  replace HG := Lib.hid (HG.out.below bb)
  replace HB := Lib.hid (HB.out.trans (bb.mono HB.out.size))
  clear bb
  go_wp2_with fail
  refine (same_nil w37).mono ?_
  rintro e w38 ⟨rfl, rfl⟩
  go_wp2_with fail
  refine (same_other w37 w.heap.size p rb2 c2 2 K3 HG.out (good_of (by decide +kernel))).mono ?_
  rintro e w39 ⟨rfl, rfl⟩
  go_wp2_with fail
  obtain ⟨H, h1, h2⟩ := HG.out
  have hl : H.length = 2 := by have := congrArg List.length h2; rw [List.length_map] at this; exact this
  have HCE := Lib.hid h1.cell
  clear h1 h2
  refine (row_no w37 p H.length c2 (some ⟨rb2, 0, none⟩) 2 HCE.out (by rw [hl]; decide)).mono ?_
  rintro e w40 ⟨rfl, rfl⟩
  clear HCE hl
  go_wp2_with fail
  obtain ⟨H, h1, h2⟩ := HG.out
  have hl : H.length = 2 := by have := congrArg List.length h2; rw [List.length_map] at this; exact this
  have HCE := Lib.hid h1.cell
  clear h1 h2
  refine (row_no w37 p H.length c2 (some ⟨rb2, 0, none⟩) (-1) HCE.out (by rw [hl]; decide)).mono ?_
  rintro e w41 ⟨rfl, rfl⟩
  clear HCE hl
  go_wp2
  go_ret
  exact ⟨rfl, HB.out⟩
end Go.Proofs.Ytdeahnphcfcfpaa.Lab
