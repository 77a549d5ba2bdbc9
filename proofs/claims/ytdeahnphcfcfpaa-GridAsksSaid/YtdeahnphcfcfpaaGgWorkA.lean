/- The law's letters, at abc, and works: the chapter's examples hold. -/
import Derived.Test.YtdeahnphcfcfpaaGrOpA
namespace Go.Proofs.Ytdeahnphcfcfpaa.Lab
open Go Go.RowKit

instance (R : Cls) (i : Nat) : Decidable (UnitAt R i) := by unfold UnitAt; infer_instance
def whB (R : Cls) : Bool := (List.range R.length).all fun i => decide (UnitAt R i)
theorem wh_of {R : Cls} (h : whB R = true) : Wh R := fun i hi => of_decide_eq_true (List.all_eq_true.1 h i (List.mem_range.2 hi))
def lvB (R : Cls) : Bool := (List.range R.length).all fun i => decide ((gc R i).l = 0 ∨ (gc R i).l = 1)
theorem lv_of {R : Cls} (h : lvB R = true) : Lv R := fun i hi => of_decide_eq_true (p := (gc R i).l = 0 ∨ (gc R i).l = 1) (List.all_eq_true.1 h i (List.mem_range.2 hi))
instance (r : Int) : Decidable (Shows r) := by unfold Shows; infer_instance
instance (c : Cel) : Decidable (TxtC c) := by unfold TxtC; infer_instance
def txB (R : Cls) : Bool := (List.range R.length).all fun i => decide (TxtC (gc R i))
theorem tx_of {R : Cls} (h : txB R = true) : TxtOk R := fun i hi => of_decide_eq_true (List.all_eq_true.1 h i (List.mem_range.2 hi))
def goodB (G : List Cls) (m : Nat) : Bool := (G.all fun R => whB R && decide (R.length = m) && lvB R) && decide (0 < G.length) && decide (G.length ≤ 520) && decide (0 < m) && decide (m ≤ 520)
theorem good_of {G : List Cls} {m : Nat} (h : goodB G m = true) : Good G m := by
  unfold goodB at h
  simp only [Bool.and_eq_true, decide_eq_true_eq] at h
  obtain ⟨⟨⟨⟨h1, h2⟩, h3⟩, h4⟩, h5⟩ := h
  refine ⟨fun R hR => ?_, h2, h3, h4, h5⟩
  have := List.all_eq_true.1 h1 R hR
  simp only [Bool.and_eq_true, decide_eq_true_eq] at this
  exact ⟨wh_of this.1.1, this.1.2, lv_of this.2⟩
def txG (G : List Cls) : Bool := G.all txB
theorem txG_of {G : List Cls} (h : txG G = true) : ∀ R ∈ G, TxtOk R := fun R hR => tx_of (List.all_eq_true.1 h R hR)
def leG : Nat → List Cls
  | 0 => [blR, blR, blR]
  | 1 => [leR 97, blR, blR]
  | 2 => [leR 97, leR 98, blR]
  | _ => [leR 97, leR 98, leR 99]
abbrev abcS : ByteArray := ⟨#[97, 98, 99]⟩
abbrev cV (r : Int) : Value := .agg #[.int .i32 r, .int .i32 0, .int .i32 0, .int .u8 0, .int .u8 0, .int .u8 0, .int .u8 0, .int .u8 0, .int .u8 0, .int .u8 0, .int .u8 0, .int .u8 0, .int .u16 0, .int .u8 0]
def cA (r : Int) : Cel := ⟨r, 0, 0, 0, ⟨Cl.zero, Cl.zero, 0⟩, 0⟩
theorem put_le (W : World) (lo p rb c i : Nat) (r : Int) (G K : List Cls) (h : Gg W lo p rb c G) (g : goodB G 2 = true) (hlo : lo ≤ W.heap.size) (hs : editG G 2 (i : Nat) 0 (fun R => putP R 0 (cA r) false) = K) :
    Calls Try.prog 32 #[gV p, .agg #[.int .i64 (i : Nat), .int .i64 0], cV r, .bool false] W fun e w' => e = .returned (.tuple #[]) ∧ Gg w' lo p rb c K ∧ Buts (· = rb) W w' := by
  subst hs
  exact gput W lo p rb c 2 G (i : Nat) 0 (cA r) false h (good_of g) hlo
set_option maxHeartbeats 2000000 in
theorem letters_any (w : World) : Calls Try.prog 50 #[.string abcS] w fun e w' => ∃ p rb c, e = .returned (gV p) ∧ Gg w' w.heap.size p rb c (leG 3) ∧ Below w.heap.size w w' := by
  have x0 : ∀ w : World, (Instr.index 9 (.string abcS) (.int .i64 0)).run Try.prog w = .ok (.int .u8 97) w := fun _ => by kernel_rfl
  have x1 : ∀ w : World, (Instr.index 9 (.string abcS) (.int .i64 1)).run Try.prog w = .ok (.int .u8 98) w := fun _ => by kernel_rfl
  have x2 : ∀ w : World, (Instr.index 9 (.string abcS) (.int .i64 2)).run Try.prog w = .ok (.int .u8 99) w := fun _ => by kernel_rfl
  go_enter Try.func50, Try.ntmps50
  go_wp2_with fail
  refine (gnew w 3 2 Cel.z (by decide)).mono ?_
  rintro e w1 ⟨p, rb, c, rfl, g1, b1⟩
  have HG0 := Lib.hid (show Gg w1 w.heap.size p rb c (leG 0) from g1)
  have HB0 := Lib.hid b1
  clear g1 b1
  go_wp2
  go_loopg [4] 3 (fun G i wr => ∃ k : Nat, i = .int .i64 k ∧ k ≤ 3 ∧ 3 - k ≤ G ∧ Hid (Gg wr w.heap.size p rb c (leG k)) ∧ Hid (Below w.heap.size w wr))
  case atStart => exact ⟨0, rfl, Nat.zero_le _, Nat.le_refl _, HG0, HB0⟩
  case round =>
    obtain ⟨k, rfl, hk, hgk, HG, HB⟩ := hrel
    clear HG0 HB0
    have hkk : k = 0 ∨ k = 1 ∨ k = 2 ∨ k = 3 := by omega
    clear hk
    rcases hkk with rfl | rfl | rfl | rfl
    · clear x1 x2
      go_wp2_with fail
      refine (put_le wr w.heap.size p rb c 0 97 (leG 0) (leG 1) HG.out (by decide +kernel) HB.out.size (by decide +kernel)).mono ?_
      rintro e w2 ⟨rfl, g2, bt⟩
      have HG2 := Lib.hid g2
      have HB2 := Lib.hid (HB.out.trans (bt.below (C := w.heap.size) (fun i hi => by have := HG.out.lt; omega) HB.out.size))
      clear g2 bt
      go_wp2
      go_roundg 2
      case rel => exact ⟨1, rfl, by decide, by decide, HG2, HB2⟩
      case measure => omega
    · clear x0 x2
      go_wp2_with fail
      refine (put_le wr w.heap.size p rb c 1 98 (leG 1) (leG 2) HG.out (by decide +kernel) HB.out.size (by decide +kernel)).mono ?_
      rintro e w2 ⟨rfl, g2, bt⟩
      have HG2 := Lib.hid g2
      have HB2 := Lib.hid (HB.out.trans (bt.below (C := w.heap.size) (fun i hi => by have := HG.out.lt; omega) HB.out.size))
      clear g2 bt
      go_wp2
      go_roundg 1
      case rel => exact ⟨2, rfl, by decide, by decide, HG2, HB2⟩
      case measure => omega
    · clear x0 x1
      go_wp2_with fail
      refine (put_le wr w.heap.size p rb c 2 99 (leG 2) (leG 3) HG.out (by decide +kernel) HB.out.size (by decide +kernel)).mono ?_
      rintro e w2 ⟨rfl, g2, bt⟩
      have HG2 := Lib.hid g2
      have HB2 := Lib.hid (HB.out.trans (bt.below (C := w.heap.size) (fun i hi => by have := HG.out.lt; omega) HB.out.size))
      clear g2 bt
      go_wp2
      go_roundg 0
      case rel => exact ⟨3, rfl, by decide, by decide, HG2, HB2⟩
      case measure => omega
    · clear x0 x1 x2
      go_wp2
      go_ret
      exact ⟨p, rb, c, rfl, HG.out, HB.out⟩
/-! ### works -/
theorem text_is (W : World) (v : Value) (R : Cls) (l : List UInt8) (h : RowIn W v R) (ht : txB R = true) (hl : R.length ≤ 1000) (he : textM R = l) : Calls Try.prog 51 #[v] W fun e w' => e = .returned (.string ⟨l.toArray⟩) ∧ Below W.heap.size W w' := by
  subst he
  exact text_any W v R h (tx_of ht) hl
theorem texts_is (W : World) (lo p rb c m q k : Nat) (G : List Cls) (ws : List ByteArray) (h : Gg W lo p rb c G) (g : goodB G m = true) (ht : txG G = true) (hk : ws.length = k) (hk2 : k ≤ 100) (hq : Lie W q (ws.map .string)) (heq : Lib.join (G.map textM) [124] = Lib.join (ws.map (·.data.toList)) [124]) (hlen : (Lib.join (G.map textM) [124]).length ≤ 100000) :
    Calls Try.prog 33 #[gV p, .slice (some ⟨q, 0, none⟩) k k] W fun e w' => e = .returned (.bool true) ∧ Below W.heap.size W w' :=
  texts_any W lo p rb c m q k k G ws h (good_of g) (txG_of ht) hk hq.1 (fun j x hj => hq.2 j (.string x) (by rw [List.getElem?_map, hj]; rfl)) (Nat.le_refl _) hk2 heq hlen
theorem up_is (W : World) (lo p rb c m : Nat) (G K Wt : List Cls) (t b n : Int) (h : Gg W lo p rb c G) (g : goodB G m = true) (hlo : lo ≤ W.heap.size) (hK : upG G m t b n Cel.z = K) (hW : wentU G t b n = Wt) :
    Calls Try.prog 28 #[gV p, .int .i64 t, .int .i64 b, .int .i64 n, cV 0] W fun e w' => ∃ v, e = .returned v ∧ Rl w' lo v Wt ∧ (∀ k, v.ownBlock = some k → W.heap.size ≤ k) ∧ Gg w' lo p rb c K ∧ Buts (· = rb) W w' := by
  subst hK hW
  exact gup W lo p rb c m G t b n Cel.z h (good_of g) hlo
theorem down_is (W : World) (lo p rb c m : Nat) (G K Wt : List Cls) (t b n : Int) (h : Gg W lo p rb c G) (g : goodB G m = true) (hlo : lo ≤ W.heap.size) (hK : downG G m t b n Cel.z = K) (hW : wentD G t b n = Wt) :
    Calls Try.prog 31 #[gV p, .int .i64 t, .int .i64 b, .int .i64 n, cV 0] W fun e w' => ∃ v, e = .returned v ∧ Rl w' lo v Wt ∧ (∀ k, v.ownBlock = some k → W.heap.size ≤ k) ∧ Gg w' lo p rb c K ∧ Buts (· = rb) W w' := by
  subst hK hW
  exact gdown W lo p rb c m G t b n Cel.z h (good_of g) hlo
theorem resize_is (W : World) (lo p rb c m r cl : Nat) (G K : List Cls) (h : Gg W lo p rb c G) (g : goodB G m = true) (hlo : lo ≤ W.heap.size) (hc : canB (r : Nat) (cl : Nat) = true) (hK : resG G r cl Cel.z (min G.length r) = K) :
    Calls Try.prog 34 #[gV p, .int .i64 (r : Nat), .int .i64 (cl : Nat), cV 0] W fun e w' => e = .returned (.bool true) ∧ (∃ rb2 c2, Gg w' lo p rb2 c2 K ∧ W.heap.size ≤ rb2) ∧ Buts (· = p) W w' := by
  subst hK
  exact gresize W lo p rb c m r cl G Cel.z h (good_of g) hlo hc
/-- The one row, or the two, of such rows. -/
theorem Rl.one {w : World} {lo : Nat} {v : Value} {R : Cls} (h : Rl w lo v [R]) : ∃ g c x, v = .slice (some ⟨g, 0, none⟩) 1 c ∧ w.cell? ⟨g, 0, none⟩ = some (hdV x) ∧ RowIn w (hdV x) R ∧ g < w.heap.size ∧ lo ≤ g := by
  obtain ⟨H, h1, h2⟩ := h
  match H, h1, h2 with
  | [x], h1, h2 =>
    obtain ⟨g, c, rfl, hb, hg⟩ := h1.here (by simp)
    have hx : x.R = R := by injection h2
    subst hx
    exact ⟨g, c, x, rfl, h1.at (i := 0) (by simp), (h1.row (i := 0) (by simp)).row, hg, hb⟩
theorem Rl.two {w : World} {lo : Nat} {v : Value} {R S : Cls} (h : Rl w lo v [R, S]) : ∃ g c x y, v = .slice (some ⟨g, 0, none⟩) 2 c ∧ w.cell? ⟨g, 0, none⟩ = some (hdV x) ∧ w.cell? ⟨g, 1, none⟩ = some (hdV y) ∧ RowIn w (hdV x) R ∧ RowIn w (hdV y) S ∧ g < w.heap.size := by
  obtain ⟨H, h1, h2⟩ := h
  match H, h1, h2 with
  | [x, y], h1, h2 =>
    obtain ⟨g, c, rfl, hb, hg⟩ := h1.here (by simp)
    injection h2 with hx h2
    injection h2 with hy _
    subst hx hy
    exact ⟨g, c, x, y, rfl, h1.at (i := 0) (by simp), h1.at (i := 1) (by simp), (h1.row (i := 0) (by simp)).row, (h1.row (i := 1) (by simp)).row, hg⟩
set_option maxHeartbeats 8000000 in
set_option maxRecDepth 100000 in
theorem works_any (w : World) : Calls Try.prog 20 #[] w fun e w' => e = .returned (.bool true) ∧ Below w.heap.size w w' := by
  go_enter Try.func20, Try.ntmps20
  go_wp2_with fail
  refine (letters_any w).mono ?_
  rintro e w1 ⟨pa, ra, ca, rfl, ga, b1⟩
  have HB := Lib.hid b1
  have GA := Lib.hid ga
  have LA := Lib.hid (show pa < w1.heap.size ∧ ra < w1.heap.size ∧ w.heap.size ≤ ra ∧ w.heap.size ≤ pa from ga.lt)
  clear ga b1
  go_wp2_with fail
  refine (letters_any w1).mono ?_
  rintro e w2 ⟨pb, rb, cb, rfl, gb, b2⟩
  replace GA := Lib.hid (GA.out.below b2)
  have GB := Lib.hid (gb.lower HB.out.size)
  have LB := Lib.hid (show pb < w2.heap.size ∧ rb < w2.heap.size ∧ w1.heap.size ≤ rb ∧ w1.heap.size ≤ pb from gb.lt)
  replace HB := Lib.hid (HB.out.trans (b2.mono HB.out.size))
  clear gb b2
  go_wp2_with fail
  refine (letters_any w2).mono ?_
  rintro e w3 ⟨pc, rc, cc, rfl, gc, b3⟩
  replace GA := Lib.hid (GA.out.below b3)
  replace GB := Lib.hid (GB.out.below b3)
  have GC := Lib.hid (gc.lower HB.out.size)
  have LC := Lib.hid (show pc < w3.heap.size ∧ rc < w3.heap.size ∧ w2.heap.size ≤ rc ∧ w2.heap.size ≤ pc from gc.lt)
  replace HB := Lib.hid (HB.out.trans (b3.mono HB.out.size))
  have NE := Lib.hid (show pa ≠ pb ∧ pa ≠ pc ∧ pb ≠ pc ∧ ra ≠ rb ∧ ra ≠ rc ∧ rb ≠ rc ∧ w.heap.size ≤ pa ∧ w.heap.size ≤ pb ∧ w.heap.size ≤ pc ∧ w.heap.size ≤ ra ∧ w.heap.size ≤ rb ∧ w.heap.size ≤ rc ∧ ra < w3.heap.size ∧ rb < w3.heap.size ∧ rc < w3.heap.size by have := LA.out; have := LB.out; have := LC.out; omega)
  clear gc b3 LA LB LC
  go_wp2_with fail
  refine (up_is w3 w.heap.size pa ra ca 2 (leG 3) [leR 98, leR 99, blR] [leR 97] 0 2 1 GA.out (by decide +kernel) HB.out.size (by decide +kernel) (by decide +kernel)).mono ?_
  rintro e w4 ⟨vu, rfl, ru, hu, ga, bt⟩
  have RU := Lib.hid ru
  have HU := Lib.hid (show vu.ownBlock ≠ some rb ∧ vu.ownBlock ≠ some rc from ⟨fun e => by have := hu _ e; have := NE.out; omega, fun e => by have := hu _ e; have := NE.out; omega⟩)
  replace GB := Lib.hid (GB.out.other GA.out bt.two (by have := NE.out; omega) (by have := NE.out; omega))
  replace GC := Lib.hid (GC.out.other GA.out bt.two (by have := NE.out; omega) (by have := NE.out; omega))
  replace GA := Lib.hid ga
  have HS := Lib.hid bt.size
  replace HB := Lib.hid (HB.out.trans (bt.below (C := w.heap.size) (fun i hi => by have := NE.out; omega) HB.out.size))
  obtain ⟨vua, vuc, rfl⟩ := ru.shape
  simp only [List.length_cons, List.length_nil] at RU HU
  clear ru hu ga bt
  go_wp2_with fail
  refine (down_is w4 w.heap.size pb rb cb 2 (leG 3) [leR 97, blR, blR] [leR 98, leR 99] 1 2 5 GB.out (by decide +kernel) HB.out.size (by decide +kernel) (by decide +kernel)).mono ?_
  rintro e w5 ⟨vd, rfl, rd, hd, gb, bt⟩
  have RD := Lib.hid rd
  have HD := Lib.hid (show vd.ownBlock ≠ some rc from fun e => by have := hd _ e; have := NE.out; have := HS.out; omega)
  replace GA := Lib.hid (GA.out.other GB.out bt.two (by have := NE.out; omega) (by have := NE.out; omega))
  replace GC := Lib.hid (GC.out.other GB.out bt.two (by have := NE.out; omega) (by have := NE.out; omega))
  replace RU := Lib.hid (RU.out.other GB.out bt.two HU.out.1)
  replace GB := Lib.hid gb
  replace HS := Lib.hid (Nat.le_trans HS.out bt.size)
  replace HB := Lib.hid (HB.out.trans (bt.below (C := w.heap.size) (fun i hi => by have := NE.out; omega) HB.out.size))
  obtain ⟨vda, vdc, rfl⟩ := rd.shape
  simp only [List.length_cons, List.length_nil] at RD HD
  clear rd hd gb bt
  go_wp2_with fail
  refine (up_is w5 w.heap.size pc rc cc 2 (leG 3) (leG 3) [] 1 0 1 GC.out (by decide +kernel) HB.out.size (by decide +kernel) (by decide +kernel)).mono ?_
  rintro e w6 ⟨vn0, rfl, rn, _, gc, bt⟩
  replace GA := Lib.hid (GA.out.other GC.out bt.two (by have := NE.out; omega) (by have := NE.out; omega))
  replace GB := Lib.hid (GB.out.other GC.out bt.two (by have := NE.out; omega) (by have := NE.out; omega))
  replace RU := Lib.hid (RU.out.other GC.out bt.two HU.out.2)
  replace RD := Lib.hid (RD.out.other GC.out bt.two HD.out)
  replace GC := Lib.hid gc
  replace HB := Lib.hid (HB.out.trans (bt.below (C := w.heap.size) (fun i hi => by have := NE.out; omega) HB.out.size))
  obtain ⟨va0, vc0, rfl⟩ := rn.shape
  clear rn gc bt
  go_wp2_with fail
  refine (up_is w6 w.heap.size pc rc cc 2 (leG 3) (leG 3) [] 0 3 1 GC.out (by decide +kernel) HB.out.size (by decide +kernel) (by decide +kernel)).mono ?_
  rintro e w7 ⟨vn1, rfl, rn, _, gc, bt⟩
  replace GA := Lib.hid (GA.out.other GC.out bt.two (by have := NE.out; omega) (by have := NE.out; omega))
  replace GB := Lib.hid (GB.out.other GC.out bt.two (by have := NE.out; omega) (by have := NE.out; omega))
  replace RU := Lib.hid (RU.out.other GC.out bt.two HU.out.2)
  replace RD := Lib.hid (RD.out.other GC.out bt.two HD.out)
  replace GC := Lib.hid gc
  replace HB := Lib.hid (HB.out.trans (bt.below (C := w.heap.size) (fun i hi => by have := NE.out; omega) HB.out.size))
  obtain ⟨va1, vc1, rfl⟩ := rn.shape
  clear rn gc bt
  go_wp2_with fail
  refine (up_is w7 w.heap.size pc rc cc 2 (leG 3) (leG 3) [] 0 1 0 GC.out (by decide +kernel) HB.out.size (by decide +kernel) (by decide +kernel)).mono ?_
  rintro e w8 ⟨vn2, rfl, rn, _, gc, bt⟩
  replace GA := Lib.hid (GA.out.other GC.out bt.two (by have := NE.out; omega) (by have := NE.out; omega))
  replace GB := Lib.hid (GB.out.other GC.out bt.two (by have := NE.out; omega) (by have := NE.out; omega))
  replace RU := Lib.hid (RU.out.other GC.out bt.two HU.out.2)
  replace RD := Lib.hid (RD.out.other GC.out bt.two HD.out)
  replace GC := Lib.hid gc
  replace HB := Lib.hid (HB.out.trans (bt.below (C := w.heap.size) (fun i hi => by have := NE.out; omega) HB.out.size))
  obtain ⟨va2, vc2, rfl⟩ := rn.shape
  clear rn gc bt
  obtain ⟨w9, hw9⟩ : ∃ X, X = w8.alloc (.cells #[.string ⟨#[97, 32]⟩, .string ⟨#[98, 32]⟩, .string ⟨#[99, 32]⟩] 9) := ⟨_, rfl⟩
  obtain ⟨q9, hq9⟩ : ∃ b, b = w8.heap.size := ⟨_, rfl⟩
  have HL := Lib.hid (show Lie w9 q9 ((([⟨#[97, 32]⟩, ⟨#[98, 32]⟩, ⟨#[99, 32]⟩] : List ByteArray)).map .string) by rw [hw9]; exact Lie.new w8 _ _ q9 hq9)
  have ba : Below w8.heap.size w8 w9 := by rw [hw9]; exact (Below.refl _ _).alloc (Nat.le_refl _) _
  replace GA := Lib.hid (GA.out.below ba)
  replace GB := Lib.hid (GB.out.below ba)
  replace GC := Lib.hid (GC.out.below ba)
  replace RU := Lib.hid (RU.out.below ba)
  replace RD := Lib.hid (RD.out.below ba)
  replace HB := Lib.hid (HB.out.trans (ba.mono HB.out.size))
  clear ba
  go_wp2_with fail
  rw [← hw9, ← hq9]
  clear hw9 hq9
  refine (texts_is w9 w.heap.size pc rc cc 2 q9 3 (leG 3) [⟨#[97, 32]⟩, ⟨#[98, 32]⟩, ⟨#[99, 32]⟩] GC.out (by decide +kernel) (by decide +kernel) rfl (by decide) HL.out (by decide +kernel) (by decide +kernel)).mono ?_
  rintro e w10 ⟨rfl, bt⟩
  replace GA := Lib.hid (GA.out.below bt)
  replace GB := Lib.hid (GB.out.below bt)
  replace GC := Lib.hid (GC.out.below bt)
  replace RU := Lib.hid (RU.out.below bt)
  replace RD := Lib.hid (RD.out.below bt)
  replace HB := Lib.hid (HB.out.trans (bt.mono HB.out.size))
  clear bt
  clear HL
  obtain ⟨gu, cu, xu, eu, u1, u2, u3, _⟩ := RU.out.one
  injection eu with eu1 eu2 eu3
  subst eu1 eu3
  clear eu2
  go_wp2_with fail
  refine (text_is w10 _ (leR 97) [97, 32] u2 (by decide +kernel) (by decide) (by decide +kernel)).mono ?_
  rintro e w11 ⟨rfl, bt⟩
  replace GA := Lib.hid (GA.out.below bt)
  replace GB := Lib.hid (GB.out.below bt)
  replace GC := Lib.hid (GC.out.below bt)
  replace RU := Lib.hid (RU.out.below bt)
  replace RD := Lib.hid (RD.out.below bt)
  replace HB := Lib.hid (HB.out.trans (bt.mono HB.out.size))
  clear bt
  clear u1 u2 u3
  obtain ⟨w12, hw12⟩ : ∃ X, X = w11.alloc (.cells #[.string ⟨#[98, 32]⟩, .string ⟨#[99, 32]⟩, .string ⟨#[32, 32]⟩] 9) := ⟨_, rfl⟩
  obtain ⟨q12, hq12⟩ : ∃ b, b = w11.heap.size := ⟨_, rfl⟩
  have HL := Lib.hid (show Lie w12 q12 ((([⟨#[98, 32]⟩, ⟨#[99, 32]⟩, ⟨#[32, 32]⟩] : List ByteArray)).map .string) by rw [hw12]; exact Lie.new w11 _ _ q12 hq12)
  have ba : Below w11.heap.size w11 w12 := by rw [hw12]; exact (Below.refl _ _).alloc (Nat.le_refl _) _
  replace GA := Lib.hid (GA.out.below ba)
  replace GB := Lib.hid (GB.out.below ba)
  replace GC := Lib.hid (GC.out.below ba)
  replace RU := Lib.hid (RU.out.below ba)
  replace RD := Lib.hid (RD.out.below ba)
  replace HB := Lib.hid (HB.out.trans (ba.mono HB.out.size))
  clear ba
  go_wp2_with fail
  rw [← hw12, ← hq12]
  clear hw12 hq12
  refine (texts_is w12 w.heap.size pa ra ca 2 q12 3 [leR 98, leR 99, blR] [⟨#[98, 32]⟩, ⟨#[99, 32]⟩, ⟨#[32, 32]⟩] GA.out (by decide +kernel) (by decide +kernel) rfl (by decide) HL.out (by decide +kernel) (by decide +kernel)).mono ?_
  rintro e w13 ⟨rfl, bt⟩
  replace GA := Lib.hid (GA.out.below bt)
  replace GB := Lib.hid (GB.out.below bt)
  replace GC := Lib.hid (GC.out.below bt)
  replace RU := Lib.hid (RU.out.below bt)
  replace RD := Lib.hid (RD.out.below bt)
  replace HB := Lib.hid (HB.out.trans (bt.mono HB.out.size))
  clear bt
  clear HL
  obtain ⟨gd, cd, xd, yd, ed, d1, d2, d3, d4, d5⟩ := RD.out.two
  injection ed with ed1 ed2 ed3
  subst ed1 ed3
  clear ed2
  go_wp2_with fail
  refine (text_is w13 _ (leR 98) [98, 32] d3 (by decide +kernel) (by decide) (by decide +kernel)).mono ?_
  rintro e w14 ⟨rfl, bt⟩
  replace GA := Lib.hid (GA.out.below bt)
  replace GB := Lib.hid (GB.out.below bt)
  replace GC := Lib.hid (GC.out.below bt)
  replace RU := Lib.hid (RU.out.below bt)
  replace RD := Lib.hid (RD.out.below bt)
  replace HB := Lib.hid (HB.out.trans (bt.mono HB.out.size))
  clear bt
  clear d1 d2 d3 d4 d5
  obtain ⟨gd', cd', xd', yd', ed, d1, d2, d3, d4, d5⟩ := RD.out.two
  injection ed with ed1 ed2 ed3
  injection ed1 with ed1
  injection ed1 with ed1
  subst ed1 ed3
  clear ed2
  go_wp2_with fail
  refine (text_is w14 _ (leR 99) [99, 32] d4 (by decide +kernel) (by decide) (by decide +kernel)).mono ?_
  rintro e w15 ⟨rfl, bt⟩
  replace GA := Lib.hid (GA.out.below bt)
  replace GB := Lib.hid (GB.out.below bt)
  replace GC := Lib.hid (GC.out.below bt)
  replace RU := Lib.hid (RU.out.below bt)
  replace RD := Lib.hid (RD.out.below bt)
  replace HB := Lib.hid (HB.out.trans (bt.mono HB.out.size))
  clear bt
  clear d1 d2 d3 d4 d5
  obtain ⟨w16, hw16⟩ : ∃ X, X = w15.alloc (.cells #[.string ⟨#[97, 32]⟩, .string ⟨#[32, 32]⟩, .string ⟨#[32, 32]⟩] 9) := ⟨_, rfl⟩
  obtain ⟨q16, hq16⟩ : ∃ b, b = w15.heap.size := ⟨_, rfl⟩
  have HL := Lib.hid (show Lie w16 q16 ((([⟨#[97, 32]⟩, ⟨#[32, 32]⟩, ⟨#[32, 32]⟩] : List ByteArray)).map .string) by rw [hw16]; exact Lie.new w15 _ _ q16 hq16)
  have ba : Below w15.heap.size w15 w16 := by rw [hw16]; exact (Below.refl _ _).alloc (Nat.le_refl _) _
  replace GA := Lib.hid (GA.out.below ba)
  replace GB := Lib.hid (GB.out.below ba)
  replace GC := Lib.hid (GC.out.below ba)
  replace RU := Lib.hid (RU.out.below ba)
  replace RD := Lib.hid (RD.out.below ba)
  replace HB := Lib.hid (HB.out.trans (ba.mono HB.out.size))
  clear ba
  go_wp2_with fail
  rw [← hw16, ← hq16]
  clear hw16 hq16
  refine (texts_is w16 w.heap.size pb rb cb 2 q16 3 [leR 97, blR, blR] [⟨#[97, 32]⟩, ⟨#[32, 32]⟩, ⟨#[32, 32]⟩] GB.out (by decide +kernel) (by decide +kernel) rfl (by decide) HL.out (by decide +kernel) (by decide +kernel)).mono ?_
  rintro e w17 ⟨rfl, bt⟩
  replace GA := Lib.hid (GA.out.below bt)
  replace GB := Lib.hid (GB.out.below bt)
  replace GC := Lib.hid (GC.out.below bt)
  replace RU := Lib.hid (RU.out.below bt)
  replace RD := Lib.hid (RD.out.below bt)
  replace HB := Lib.hid (HB.out.trans (bt.mono HB.out.size))
  clear bt
  clear HL
  go_wp2_with fail
  refine (resize_is w17 w.heap.size pc rc cc 2 2 3 (leG 3) [leR 97 ++ [Cel.z], leR 98 ++ [Cel.z]] GC.out (by decide +kernel) HB.out.size (by decide +kernel) (by decide +kernel)).mono ?_
  rintro e w18 ⟨rfl, ⟨rc2, cc2, gc2, _⟩, bt⟩
  have GD := Lib.hid gc2
  replace HB := Lib.hid (HB.out.trans (bt.below (C := w.heap.size) (fun i hi => by have := NE.out; omega) HB.out.size))
  clear gc2 bt GA GB GC RU RD
  obtain ⟨w19, hw19⟩ : ∃ X, X = w18.alloc (.cells #[.string ⟨#[97, 32, 32]⟩, .string ⟨#[98, 32, 32]⟩] 9) := ⟨_, rfl⟩
  obtain ⟨q19, hq19⟩ : ∃ b, b = w18.heap.size := ⟨_, rfl⟩
  have HL := Lib.hid (show Lie w19 q19 ((([⟨#[97, 32, 32]⟩, ⟨#[98, 32, 32]⟩] : List ByteArray)).map .string) by rw [hw19]; exact Lie.new w18 _ _ q19 hq19)
  have ba : Below w18.heap.size w18 w19 := by rw [hw19]; exact (Below.refl _ _).alloc (Nat.le_refl _) _
  replace GD := Lib.hid (GD.out.below ba)
  replace HB := Lib.hid (HB.out.trans (ba.mono HB.out.size))
  clear ba
  go_wp2_with fail
  rw [← hw19, ← hq19]
  clear hw19 hq19
  refine (texts_is w19 w.heap.size pc rc2 cc2 3 q19 2 [leR 97 ++ [Cel.z], leR 98 ++ [Cel.z]] [⟨#[97, 32, 32]⟩, ⟨#[98, 32, 32]⟩] GD.out (by decide +kernel) (by decide +kernel) rfl (by decide) HL.out (by decide +kernel) (by decide +kernel)).mono ?_
  rintro e w20 ⟨rfl, bt⟩
  replace GD := Lib.hid (GD.out.below bt)
  replace HB := Lib.hid (HB.out.trans (bt.mono HB.out.size))
  clear bt
  clear HL
  go_wp2
  go_ret
  exact ⟨rfl, HB.out⟩
end Go.Proofs.Ytdeahnphcfcfpaa.Lab
