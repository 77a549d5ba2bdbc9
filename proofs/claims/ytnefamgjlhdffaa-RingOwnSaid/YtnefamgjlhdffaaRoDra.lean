/- Drafts of cells: the reference's Attr. -/
import Derived.Test.YtnefamgjlhdffaaRoRef
import Derived.Test.YtnefamgjlhdffaaAtMem
import Derived.Test.YtnefamgjlhdffaaMany
namespace Go.Proofs.Ytnefamgjlhdffaa.Lab
open Go Go.RowKit

/-- A draft of a cell. -/
structure Dc where
  ru : Nat
  ms : Nat
  at1 : Nat
  wide : Bool
  high : Bool
def Dc.ok (d : Dc) : Prop := d.ru < 256 ∧ d.ms < 256 ∧ d.at1 < 256
abbrev dcV (d : Dc) : Value := .agg #[.int .u8 (d.ru : Nat), .int .u8 (d.ms : Nat), .int .u8 (d.at1 : Nat), .bool d.wide, .bool d.high]
/-- An attribute by a number. -/
def attN (n : Nat) : At := ⟨⟨(n % 3 : Nat), (n % 5 : Nat), 0, 0⟩, ⟨(n / 3 % 2 : Nat), (n % 2 : Nat), 0, 0⟩, n % 4⟩
def mrk (d : Dc) (i : Nat) : Int := if i < d.ms % 8 then 769 else 0
def celD (d : Dc) : Cel := ⟨((97 + d.ru % 26 : Nat) : Int), mrk d 0, mrk d 1, 0, attN d.at1, if d.high then 1 else 0⟩
set_option maxHeartbeats 4000000 in
set_option maxRecDepth 100000 in
theorem rattr_any (w : World) (n : Nat) (h : n < 256) : Calls Try.prog 64 #[.int .u8 (n : Nat)] w fun e w' => e = .returned (attV (attN n)) ∧ Below w.heap.size w w' := by
  obtain ⟨w0, hw0⟩ : ∃ w0, w0 = w.alloc (.cells #[.int .u8 0, .int .u8 0, .int .u8 0, .int .u8 0, .int .u8 0, .int .u8 0, .int .u8 0, .int .u8 0, .int .u16 0] 45) := ⟨_, rfl⟩
  have b0 : Below w.heap.size w w0 := by rw [hw0]; exact (Below.refl _ _).alloc (Nat.le_refl _) _
  have HZ := Lib.hid (show AtAt w0 w.heap.size At.zero by rw [hw0]; exact AtAt.newAt w _ rfl At.zero _)
  obtain ⟨q, hq⟩ : ∃ q, q = attN n := ⟨_, rfl⟩
  obtain ⟨wq, hwq⟩ : ∃ wq, wq = putA w0 w.heap.size q := ⟨_, rfl⟩
  have Z := Lib.hid (show AtAt wq w.heap.size q by rw [hwq]; exact HZ.out.putA _)
  have HB := Lib.hid (show Below w.heap.size w wq by rw [hwq]; exact b0.trans ((putA_but w0 w.heap.size q).below (C := w.heap.size) (Nat.le_refl _) b0.size))
  simp only [putA, putC, Nat.zero_add, Nat.reduceAdd] at hwq
  have HQ := Lib.hid hq
  have e1 : (n : Int).tmod 3 = q.fg.k := by rw [hq, Int.tmod_eq_emod_of_nonneg (by omega)]; show (n : Int) % 3 = ((n % 3 : Nat) : Int); omega
  have e2 : (n : Int).tmod 5 = q.fg.r := by rw [hq, Int.tmod_eq_emod_of_nonneg (by omega)]; show (n : Int) % 5 = ((n % 5 : Nat) : Int); omega
  obtain ⟨m, hm⟩ : ∃ m, m = n / 3 := ⟨_, rfl⟩
  have e3 : (n : Int).tdiv 3 = (m : Int) := by rw [Int.tdiv_eq_ediv_of_nonneg (by omega)]; omega
  have e3' : (n : Int) / 3 = (m : Int) := by omega
  have e3w : IntKind.u8.wrap (m : Int) = (m : Int) := by rw [IntKind.wrap_u8]; omega
  have e4 : (m : Int).tmod 2 = q.bg.k := by rw [hq, Int.tmod_eq_emod_of_nonneg (by omega)]; show (m : Int) % 2 = ((n / 3 % 2 : Nat) : Int); omega
  have e5 : (n : Int).tmod 2 = q.bg.r := by rw [hq, Int.tmod_eq_emod_of_nonneg (by omega)]; show (n : Int) % 2 = ((n % 2 : Nat) : Int); omega
  have e6 : (n : Int).tmod 4 = (q.fl : Int) := by rw [hq, Int.tmod_eq_emod_of_nonneg (by omega)]; show (n : Int) % 4 = ((n % 4 : Nat) : Int); omega
  have f1 : (n : Int) % 3 = q.fg.k := by rw [hq]; show (n : Int) % 3 = ((n % 3 : Nat) : Int); omega
  have f2 : (n : Int) % 5 = q.fg.r := by rw [hq]; show (n : Int) % 5 = ((n % 5 : Nat) : Int); omega
  have f4 : (m : Int) % 2 = q.bg.k := by rw [hq]; show (m : Int) % 2 = ((n / 3 % 2 : Nat) : Int); omega
  have f5 : (n : Int) % 2 = q.bg.r := by rw [hq]; show (n : Int) % 2 = ((n % 2 : Nat) : Int); omega
  have f6 : (n : Int) % 4 = (q.fl : Int) := by rw [hq]; show (n : Int) % 4 = ((n % 4 : Nat) : Int); omega
  have g1 : 0 ≤ q.fg.k ∧ q.fg.k < 3 := by rw [← f1]; omega
  have g2 : 0 ≤ q.fg.r ∧ q.fg.r < 5 := by rw [← f2]; omega
  have g4 : 0 ≤ q.bg.k ∧ q.bg.k < 2 := by rw [← f4]; omega
  have g5 : 0 ≤ q.bg.r ∧ q.bg.r < 2 := by rw [← f5]; omega
  have g6 : q.fl < 4 := by have : (q.fl : Int) < 4 := by rw [← f6]; omega
                           omega
  have w1 : IntKind.u8.wrap q.fg.k = q.fg.k := by rw [IntKind.wrap_u8]; omega
  have w2 : IntKind.u8.wrap q.fg.r = q.fg.r := by rw [IntKind.wrap_u8]; omega
  have w4 : IntKind.u8.wrap q.bg.k = q.bg.k := by rw [IntKind.wrap_u8]; omega
  have w5 : IntKind.u8.wrap q.bg.r = q.bg.r := by rw [IntKind.wrap_u8]; omega
  have w6 : IntKind.u8.wrap (q.fl : Int) = (q.fl : Int) := by rw [IntKind.wrap_u8]; omega
  have w7 : IntKind.u16.wrap (q.fl : Int) = (q.fl : Int) := by rw [IntKind.wrap_u16]; omega
  have h1 : q.fg.g = 0 := by rw [hq]; rfl
  have h2 : q.fg.b = 0 := by rw [hq]; rfl
  have h3 : q.bg.g = 0 := by rw [hq]; rfl
  have h4 : q.bg.b = 0 := by rw [hq]; rfl
  rw [h1, h2, h3, h4] at hwq
  clear b0 hq hm g1 g2 g4 g5 g6 h h1 h2 h3 h4
  go_enter Try.func64, Try.ntmps64
  go_upto_region 1 with (fail)
  rw [← hw0]
  clear hw0
  obtain ⟨_, ⟨z0, z1, z2, z3, z4, z5, z6, z7, z8⟩, zf⟩ := HZ.out
  dsimp only at z0 z1 z2 z3 z4 z5 z6 z7 z8
  go_wp2
  rw [← hwq]
  clear hwq z0 z1 z2 z3 z4 z5 z6 z7 z8 zf e1 e2 e3 e3' e3w e4 e5 e6 f1 f2 f4 f5 f6 w1 w2 w4 w5 w6 w7
  obtain ⟨_, ⟨k0, k1, k2, k3, k4, k5, k6, k7, k8⟩, _⟩ := Z.out
  exact bodyPost_ret (v := attV q) (by simp [results, Try.results64, go_sem, k0, k1, k2, k3, k4, k5, k6, k7, k8]) rfl ⟨by rw [HQ.out], HB.out⟩
theorem BAt.mk0 {w : World} {b : Nat} {c : Cel} (h : BAt w b c) (k : Int) : BAt (w.setCell ⟨b, 1, none⟩ (.int .i32 k)) b { c with m0 := k } := by
  obtain ⟨h0, ⟨a0, a1, a2, a3, a4, a5, a6, a7, a8, a9, a10, a11, a12, a13⟩, hf⟩ := h
  refine ⟨by simpa using h0, ?_, fun i => by simp [hf i]⟩
  refine ⟨?_, ?_, ?_, ?_, ?_, ?_, ?_, ?_, ?_, ?_, ?_, ?_, ?_, ?_⟩ <;> simp [World.cell?_setCell_other, World.cell?_setCell_same', a0, a1, a2, a3, a4, a5, a6, a7, a8, a9, a10, a11, a12, a13]
theorem BAt.mk1 {w : World} {b : Nat} {c : Cel} (h : BAt w b c) (k : Int) : BAt (w.setCell ⟨b, 2, none⟩ (.int .i32 k)) b { c with m1 := k } := by
  obtain ⟨h0, ⟨a0, a1, a2, a3, a4, a5, a6, a7, a8, a9, a10, a11, a12, a13⟩, hf⟩ := h
  refine ⟨by simpa using h0, ?_, fun i => by simp [hf i]⟩
  refine ⟨?_, ?_, ?_, ?_, ?_, ?_, ?_, ?_, ?_, ?_, ?_, ?_, ?_, ?_⟩ <;> simp [World.cell?_setCell_other, World.cell?_setCell_same', a0, a1, a2, a3, a4, a5, a6, a7, a8, a9, a10, a11, a12, a13]
theorem BAt.lab {w : World} {b : Nat} {c : Cel} (h : BAt w b c) (k : Int) : BAt (w.setCell ⟨b, 13, none⟩ (.int .u8 k)) b { c with l := k } := by
  obtain ⟨h0, ⟨a0, a1, a2, a3, a4, a5, a6, a7, a8, a9, a10, a11, a12, a13⟩, hf⟩ := h
  refine ⟨by simpa using h0, ?_, fun i => by simp [hf i]⟩
  refine ⟨?_, ?_, ?_, ?_, ?_, ?_, ?_, ?_, ?_, ?_, ?_, ?_, ?_, ?_⟩ <;> simp [World.cell?_setCell_other, World.cell?_setCell_same', a0, a1, a2, a3, a4, a5, a6, a7, a8, a9, a10, a11, a12, a13]
/-- A draft in a block of its own. -/
def DAt (w : World) (b : Nat) (d : Dc) : Prop := b < w.heap.size ∧ w.cell? ⟨b, 0, none⟩ = some (.int .u8 (d.ru : Nat)) ∧ w.cell? ⟨b, 1, none⟩ = some (.int .u8 (d.ms : Nat)) ∧ w.cell? ⟨b, 2, none⟩ = some (.int .u8 (d.at1 : Nat)) ∧ w.cell? ⟨b, 3, none⟩ = some (.bool d.wide) ∧ w.cell? ⟨b, 4, none⟩ = some (.bool d.high)
theorem DAt.same {w w' : World} {b : Nat} {d : Dc} (h : DAt w b d) (hs : w.heap.size ≤ w'.heap.size) (e : w'.heap[b]? = w.heap[b]?) : DAt w' b d := by
  have k : ∀ i, w'.cell? ⟨b, i, none⟩ = w.cell? ⟨b, i, none⟩ := fun i => World.cell?_of_block e
  obtain ⟨h0, h1, h2, h3, h4, h5⟩ := h
  exact ⟨by omega, (k _).trans h1, (k _).trans h2, (k _).trans h3, (k _).trans h4, (k _).trans h5⟩
theorem DAt.below {w w' : World} {b : Nat} {d : Dc} (h : DAt w b d) (hb : Below w.heap.size w w') : DAt w' b d := h.same hb.size (hb.block b h.1)
theorem DAt.newAt (w : World) (n : Nat) (hn : n = w.heap.size) (d : Dc) (T : TypeId) : DAt (w.alloc (.cells #[.int .u8 (d.ru : Nat), .int .u8 (d.ms : Nat), .int .u8 (d.at1 : Nat), .bool d.wide, .bool d.high] T)) n d := by
  subst hn
  exact ⟨by simp, by simp, by simp, by simp, by simp, by simp⟩
def midC (d : Dc) (j : Nat) (l : Int) : Cel := ⟨((97 + d.ru % 26 : Nat) : Int), if 0 < j then 769 else 0, if 1 < j then 769 else 0, 0, attN d.at1, l⟩
theorem mid_end (d : Dc) (j : Nat) (h1 : j ≤ d.ms % 8) (h2 : j ≤ 2) (h : ¬ (j < d.ms % 8 ∧ j < 2)) : midC d j (if d.high then 1 else 0) = celD d := by
  unfold midC celD mrk
  simp only [Cel.mk.injEq, true_and, and_true]
  refine ⟨?_, ?_⟩
  · by_cases e : 0 < j
    · rw [if_pos e, if_pos (by omega)]
    · rw [if_neg e, if_neg (by omega)]
  · by_cases e : 1 < j
    · rw [if_pos e, if_pos (by omega)]
    · rw [if_neg e, if_neg (by omega)]
/-- A call, what is built of it, and a new block, in any order. -/
def DI (w0 : World) (x x8 : Value) (f : Nat → Bool) (v : Nat → Value) (w : World) : Prop := (f 7 = true → v 7 = x) ∧ (f 8 = true → v 8 = x8) ∧ (f 9 = true → ∃ z, v 9 = .pointer (some ⟨z, 0, none⟩) ∧ BAt w z Cel.z ∧ w0.heap.size ≤ z) ∧ Below w0.heap.size w0 w
theorem DI.start {w0 w : World} {x x8 : Value} {v : Nat → Value} (h : Below w0.heap.size w0 w) : DI w0 x x8 (fun _ => false) v w := ⟨fun h => absurd h (by simp), fun h => absurd h (by simp), fun h => absurd h (by simp), h⟩
theorem DI.call {w0 w w' : World} {x x8 : Value} {f : Nat → Bool} {v : Nat → Value} (h : DI w0 x x8 f v w) (bb : Below w.heap.size w w') : DI w0 x x8 (fun j => f j || j == 7) (updM v 7 x) w' := by
  obtain ⟨h1, h8, h2, h3⟩ := h
  refine ⟨fun _ => by simp [updM], fun h => by simpa [updM] using h8 (by simpa using h), fun h9 => ?_, h3.trans (bb.mono h3.size)⟩
  obtain ⟨z, e, hz, hl⟩ := h2 (by simpa using h9)
  exact ⟨z, by simpa [updM] using e, hz.below bb, hl⟩
theorem DI.built {w0 w : World} {x x8 : Value} {f : Nat → Bool} {v : Nat → Value} (h : DI w0 x x8 f v w) : DI w0 x x8 (fun j => f j || j == 8) (updM v 8 x8) w := by
  obtain ⟨h1, h8, h2, h3⟩ := h
  refine ⟨fun h => by simpa [updM] using h1 (by simpa using h), fun _ => by simp [updM], fun h9 => ?_, h3⟩
  obtain ⟨z, e, hz, hl⟩ := h2 (by simpa using h9)
  exact ⟨z, by simpa [updM] using e, hz, hl⟩
theorem DI.new {w0 w : World} {x x8 : Value} {f : Nat → Bool} {v : Nat → Value} (h : DI w0 x x8 f v w) : DI w0 x x8 (fun j => f j || j == 9) (updM v 9 (.pointer (some ⟨w.heap.size, 0, none⟩))) (w.alloc (.cells #[.int .i32 0, .int .i32 0, .int .i32 0, .int .u8 0, .int .u8 0, .int .u8 0, .int .u8 0, .int .u8 0, .int .u8 0, .int .u8 0, .int .u8 0, .int .u8 0, .int .u16 0, .int .u8 0] 47)) := by
  obtain ⟨h1, h8, h2, h3⟩ := h
  refine ⟨fun h => by simpa [updM] using h1 (by simpa using h), fun h => by simpa [updM] using h8 (by simpa using h), fun _ => ⟨w.heap.size, by simp [updM], BAt.newAt w _ rfl Cel.z _, h3.size⟩, h3.trans (((Below.refl _ _).alloc (Nat.le_refl _) _).mono h3.size)⟩
set_option maxHeartbeats 8000000 in
set_option maxRecDepth 100000 in
theorem rcell_any (w : World) (d : Dc) (hd : d.ok) : Calls Try.prog 55 #[dcV d] w fun e w' => e = .returned (celV (celD d)) ∧ Below w.heap.size w w' := by
  obtain ⟨w0, hw0⟩ : ∃ w0, w0 = (w.alloc (.cells #[.int .u8 (d.ru : Nat), .int .u8 (d.ms : Nat), .int .u8 (d.at1 : Nat), .bool d.wide, .bool d.high] 98)).alloc (.cells #[.int .i32 0, .int .i32 0, .int .i32 0, .int .u8 0, .int .u8 0, .int .u8 0, .int .u8 0, .int .u8 0, .int .u8 0, .int .u8 0, .int .u8 0, .int .u8 0, .int .u16 0, .int .u8 0] 47) := ⟨_, rfl⟩
  have b0 : Below w.heap.size w w0 := by rw [hw0]; exact ((Below.refl _ _).alloc (Nat.le_refl _) _).alloc (by simp) _
  have HD := Lib.hid (show DAt w0 w.heap.size d by rw [hw0]; exact (DAt.newAt w _ rfl d _).below ((Below.refl _ _).alloc (Nat.le_refl _) _))
  have HT := Lib.hid (show BAt w0 (w.heap.size + 1) Cel.z by rw [hw0]; exact BAt.newAt _ _ (by simp) Cel.z _)
  have HB := Lib.hid b0
  obtain ⟨hd1, hd2, hd3⟩ := hd
  have CA := Lib.hid (fun W => rattr_any W d.at1 hd3)
  obtain ⟨m, hm⟩ : ∃ m, m = d.ms % 8 := ⟨_, rfl⟩
  have e1 : (d.ru : Int).tmod 26 = ((d.ru % 26 : Nat) : Int) := by rw [Int.tmod_eq_emod_of_nonneg (by omega)]; omega
  have e2 : (d.ru : Int) % 26 = ((d.ru % 26 : Nat) : Int) := by omega
  have m1 : (d.ms : Int).tmod 8 = (m : Int) := by rw [Int.tmod_eq_emod_of_nonneg (by omega)]; omega
  have m2 : (d.ms : Int) % 8 = (m : Int) := by omega
  obtain ⟨r, hr⟩ : ∃ r, r = d.ru % 26 := ⟨_, rfl⟩
  have hr26 : r < 26 := by omega
  have hm8 : m < 8 := by omega
  rw [← hr] at e1 e2
  have w1 : IntKind.u8.wrap (r : Int) = (r : Int) := by rw [IntKind.wrap_u8]; omega
  have w2 : IntKind.i32.wrap (r : Int) = (r : Int) := by rw [IntKind.wrap_i32]; omega
  obtain ⟨ru, hru⟩ : ∃ ru : Int, ru = 97 + (r : Int) := ⟨_, rfl⟩
  have w3 : IntKind.i32.wrap (97 + (r : Int)) = ru := by rw [IntKind.wrap_i32]; omega
  have w4 : IntKind.u8.wrap (m : Int) = (m : Int) := by rw [IntKind.wrap_u8]; omega
  have w5 : IntKind.i64.wrap (m : Int) = (m : Int) := by rw [IntKind.wrap_i64]; omega
  obtain ⟨a, ha⟩ : ∃ a, a = attN d.at1 := ⟨_, rfl⟩
  rw [← ha] at CA
  have HM := Lib.hid hm
  have HC0 := Lib.hid (show midC d 0 0 = ⟨ru, 0, 0, 0, a, 0⟩ by rw [hru, ha, hr]; unfold midC; simp only [Cel.mk.injEq]; refine ⟨by omega, by simp, by simp, trivial, trivial, trivial⟩)
  have HKEEP := Lib.hid (show ∀ W, Below w0.heap.size w0 W → (fun w' => w'.cell? ⟨w.heap.size, 0, none⟩ = some (.int .u8 (d.ru : Nat)) ∧ w'.cell? ⟨w.heap.size, 1, none⟩ = some (.int .u8 (d.ms : Nat)) ∧ w'.cell? ⟨w.heap.size, 2, none⟩ = some (.int .u8 (d.at1 : Nat)) ∧ w'.cell? ⟨w.heap.size, 3, none⟩ = some (.bool d.wide) ∧ w'.cell? ⟨w.heap.size, 4, none⟩ = some (.bool d.high)) W from fun W hb => by
    obtain ⟨h0, h1, h2, h3, h4, h5⟩ := HD.out.below hb
    exact ⟨h1, h2, h3, h4, h5⟩)
  dsimp only at HKEEP
  clear b0 hm hr hru ha hd1 hd2 hd3 hr26
  go_enter Try.func55, Try.ntmps55
  go_upto_region 1 with (fail)
  rw [← hw0]
  clear hw0
  refine wp_region_held_drew (S := fun w' => w'.cell? ⟨w.heap.size, 0, none⟩ = some (.int .u8 (d.ru : Nat)) ∧ w'.cell? ⟨w.heap.size, 1, none⟩ = some (.int .u8 (d.ms : Nat)) ∧ w'.cell? ⟨w.heap.size, 2, none⟩ = some (.int .u8 (d.at1 : Nat)) ∧ w'.cell? ⟨w.heap.size, 3, none⟩ = some (.bool d.wide) ∧ w'.cell? ⟨w.heap.size, 4, none⟩ = some (.bool d.high)) (by as_aux_lemma => kernel_rfl) ?_ (fun hHeld => ?_)
  · exact HKEEP.out _ ⟨rfl, rfl, rfl, Nat.le_refl _, fun _ _ => rfl⟩
  obtain ⟨u0, hu0⟩ : ∃ u0, u0 = w0.drew := ⟨_, rfl⟩
  have bd : Below w0.heap.size w0 u0 := by rw [hu0]; exact ⟨rfl, rfl, rfl, Nat.le_refl _, fun _ _ => rfl⟩
  replace hHeld := HKEEP.out _ bd
  rw [← hu0]
  have HX0 := Lib.hid bd
  clear hu0 bd
  refine ta 0 rfl (fun w hSw => by (try dsimp only at hSw); go_simp; try with_reducible rfl) ?_
  go_frame
  refine ta 1 rfl (fun w hSw => by (try dsimp only at hSw); go_simp; try with_reducible rfl) ?_
  go_frame
  refine ta 2 rfl (fun w hSw => by (try dsimp only at hSw); go_simp; try with_reducible rfl) ?_
  go_frame
  refine ta 3 rfl (fun w hSw => by (try dsimp only at hSw); go_simp; try with_reducible rfl) ?_
  go_frame
  refine ta 4 rfl (fun w hSw => by (try dsimp only at hSw); go_simp; try with_reducible rfl) ?_
  go_frame
  refine ta 5 rfl (fun w hSw => by (try dsimp only at hSw); go_simp; try with_reducible rfl) ?_
  go_frame
  refine ta 6 rfl (fun w hSw => by (try dsimp only at hSw); go_simp; try with_reducible rfl) ?_
  go_frame
  refine many_at (I := [(7, some 12), (8, some 13), (9, some 3)]) (fun i => if i = 8 then [7] else []) [true, true, true, true, true, true, true, false, false, false, false] (listed' := #[true, true, true, true, true, true, true, true, true, true, false]) (DI w0 (attV a) (celV ⟨ru, 0, 0, 0, a, 0⟩)) rfl rfl (by decide) (by as_aux_lemma => kernel_rfl) (by as_aux_lemma => kernel_rfl) (fun _ => DI.start HX0.out) hHeld ?_ ?_
  · clear HX0 hHeld
    refine List.forall_mem_cons.2 ⟨?_, List.forall_mem_cons.2 ⟨?_, List.forall_mem_cons.2 ⟨?_, fun _ h => by cases h⟩⟩⟩
    · refine StepM.mk rfl rfl (fun y => by kernel_rfl) (fun f y u hf hdp hI hHeld K hK => ?_)
      have HI := Lib.hid hI
      clear hI hf hdp
      simp only [actM, List.foldl_cons, List.foldl_nil, Act.put, List.setIfInBounds_toArray, List.set_cons_zero, List.set_cons_succ]
      go_simp
      refine (CA.out _).mono ?_
      rintro e u' ⟨rfl, bb⟩
      have HI' := Lib.hid (HI.out.call bb)
      clear HI bb
      go_wp2_with fail
      exact hK.out (attV a) _ _ (by as_aux_lemma => kernel_rfl) HI'.out (HKEEP.out _ HI'.out.2.2.2)
    · refine StepM.mk rfl rfl (fun y => by kernel_rfl) (fun f y u hf hdp hI hHeld K hK => ?_)
      have e7 := hI.1 (hdp 7 (by decide))
      have HI' := Lib.hid hI.built
      clear hI hf hdp
      simp only [actM, List.foldl_cons, List.foldl_nil, Act.put, List.setIfInBounds_toArray, List.set_cons_zero, List.set_cons_succ]
      rw [e7]
      go_wp2_with fail
      exact hK.out (celV ⟨ru, 0, 0, 0, a, 0⟩) _ _ (by simp only [actM, List.foldl_cons, List.foldl_nil, Act.put, List.setIfInBounds_toArray, List.set_cons_zero, List.set_cons_succ]; rw [e7]) HI'.out (HKEEP.out _ HI'.out.2.2.2)
    · refine StepM.mk rfl rfl (fun y => by kernel_rfl) (fun f y u hf hdp hI hHeld K hK => ?_)
      have HI' := Lib.hid hI.new
      clear hI hf hdp
      simp only [actM, List.foldl_cons, List.foldl_nil, Act.put, List.setIfInBounds_toArray, List.set_cons_zero, List.set_cons_succ]
      go_wp2_with fail
      exact hK.out (.pointer (some ⟨u.heap.size, 0, none⟩)) _ _ (by as_aux_lemma => kernel_rfl) HI'.out (HKEEP.out _ HI'.out.2.2.2)
  · intro y v2 hI hHeld
    obtain ⟨e7, e8, e9, eb⟩ := hI
    replace e7 := e7 rfl
    replace e8 := e8 rfl
    obtain ⟨z, e9, hz, hzl⟩ := e9 rfl
    have HZ := Lib.hid hz
    have HZL := Lib.hid hzl
    have HX2 := Lib.hid eb
    simp only [actM, List.foldl_cons, List.foldl_nil, Act.put, List.setIfInBounds_toArray, List.set_cons_zero, List.set_cons_succ]
    rw [e7, e8, e9]
    clear e7 e8 e9 hz hzl eb HX0
    refine do_at (i := 10) rfl (by as_aux_lemma => kernel_rfl) (by as_aux_lemma => kernel_rfl) (fun K hK => ?_)
    obtain ⟨wz, hwz⟩ : ∃ u, u = put14 v2 z 0 ⟨ru, 0, 0, 0, a, 0⟩ := ⟨_, rfl⟩
    have HZ2 := Lib.hid (show BAt wz z ⟨ru, 0, 0, 0, a, 0⟩ by rw [hwz]; exact HZ.out.put _)
    have HX := Lib.hid (show Below w0.heap.size w0 wz by rw [hwz]; exact HX2.out.trans ((put14_but v2 z 0 _).below (C := w0.heap.size) HZL.out HX2.out.size))
    dsimp only [put14] at hwz
    simp only [Nat.zero_add] at hwz
    obtain ⟨_, ⟨y0, y1, y2, y3, y4, y5, y6, y7, y8, y9, y10, y11, y12, y13⟩, yf⟩ := HZ.out
    dsimp only at y0 y1 y2 y3 y4 y5 y6 y7 y8 y9 y10 y11 y12 y13
    go_wp2_with fail
    rw [← hwz]
    clear hwz y0 y1 y2 y3 y4 y5 y6 y7 y8 y9 y10 y11 y12 y13 yf
    refine hK.out _ _ ?_ (fun hHeld => ?_)
    · exact HKEEP.out _ HX.out
    clear hK K
    try simp only [List.setIfInBounds_toArray, List.set_cons_zero, List.set_cons_succ]
    refine wpAnyH_done (by as_aux_lemma => kernel_rfl) ?_ _
    clear HX2 hHeld HKEEP CA HZ e1 e2 w1 w2 w3
    have HDZ := Lib.hid (HD.out.below HX.out)
    have HTZ := Lib.hid (HT.out.below HX.out)
    have HBZ := Lib.hid (HB.out.trans (HX.out.mono HB.out.size))
    have HZM := Lib.hid (show BAt wz z (midC d 0 0) by rw [HC0.out]; exact HZ2.out)
    have HZB := Lib.hid (show w.heap.size + 1 < z by have := HT.out.1; have := HZL.out; omega)
    clear HX HD HT HB HZ2 HZL HC0
    go_wp2
    go_loopg [4] 2 (fun G i wr => ∃ j : Nat, i = .int .i64 j ∧ j ≤ 2 ∧ j ≤ m ∧ 2 - j ≤ G ∧ Hid (BAt wr z (midC d j 0)) ∧ Hid (DAt wr w.heap.size d) ∧ Hid (BAt wr (w.heap.size + 1) Cel.z) ∧ Hid (Below w.heap.size w wr))
    case atStart => exact ⟨0, rfl, Nat.zero_le _, Nat.zero_le _, Nat.sub_le _ _, HZM, HDZ, HTZ, HBZ⟩
    case round =>
      obtain ⟨j, rfl, hj2, hjm, hgj, HZ, HD, HT, HB⟩ := hrel
      clear HZM HDZ HTZ HBZ
      obtain ⟨_, d0, d1, d2, d3, d4⟩ := HD.out
      by_cases hgo : j < m ∧ j < 2
      · obtain ⟨hj1, hj3⟩ := hgo
        rcases (show j = 0 ∨ j = 1 by omega) with rfl | rfl
        · obtain ⟨wn, hwn⟩ : ∃ wn, wn = wr.setCell ⟨z, 1, none⟩ (.int .i32 769) := ⟨_, rfl⟩
          have HZN := Lib.hid (show BAt wn z (midC d 1 0) by rw [hwn]; exact HZ.out.mk0 769)
          have HDN := Lib.hid (show DAt wn w.heap.size d by rw [hwn]; exact HD.out.same (But.set wr z 1 _).size ((But.set wr z 1 _).block _ HD.out.1 (by simp; have := HZB.out; omega)))
          have HTN := Lib.hid (show BAt wn (w.heap.size + 1) Cel.z by rw [hwn]; exact HT.out.but (But.set wr z 1 _) (by have := HZB.out; omega))
          have HBN := Lib.hid (show Below w.heap.size w wn by rw [hwn]; exact HB.out.setCell (show w.heap.size ≤ z by have := HZB.out; omega) _)
          obtain ⟨_, ⟨y0, y1, y2, y3, y4, y5, y6, y7, y8, y9, y10, y11, y12, y13⟩, yf⟩ := HZ.out
          dsimp only [midC] at y0 y1 y2 y3 y4 y5 y6 y7 y8 y9 y10 y11 y12 y13
          clear HZ HD HT HB
          go_wp2
          rw [← hwn]
          clear hwn y0 y1 y2 y3 y4 y5 y6 y7 y8 y9 y10 y11 y12 y13 yf
          go_roundg (2 - 1)
          case rel => exact ⟨1, by go_num, by omega, by omega, Nat.le_refl _, HZN, HDN, HTN, HBN⟩
          case measure => omega
        · obtain ⟨wn, hwn⟩ : ∃ wn, wn = wr.setCell ⟨z, 2, none⟩ (.int .i32 769) := ⟨_, rfl⟩
          have HZN := Lib.hid (show BAt wn z (midC d 2 0) by rw [hwn]; exact HZ.out.mk1 769)
          have HDN := Lib.hid (show DAt wn w.heap.size d by rw [hwn]; exact HD.out.same (But.set wr z 2 _).size ((But.set wr z 2 _).block _ HD.out.1 (by simp; have := HZB.out; omega)))
          have HTN := Lib.hid (show BAt wn (w.heap.size + 1) Cel.z by rw [hwn]; exact HT.out.but (But.set wr z 2 _) (by have := HZB.out; omega))
          have HBN := Lib.hid (show Below w.heap.size w wn by rw [hwn]; exact HB.out.setCell (show w.heap.size ≤ z by have := HZB.out; omega) _)
          obtain ⟨_, ⟨y0, y1, y2, y3, y4, y5, y6, y7, y8, y9, y10, y11, y12, y13⟩, yf⟩ := HZ.out
          dsimp only [midC] at y0 y1 y2 y3 y4 y5 y6 y7 y8 y9 y10 y11 y12 y13
          clear HZ HD HT HB
          go_wp2
          rw [← hwn]
          clear hwn y0 y1 y2 y3 y4 y5 y6 y7 y8 y9 y10 y11 y12 y13 yf
          go_roundg (2 - 2)
          case rel => exact ⟨2, by go_num, by omega, by omega, Nat.le_refl _, HZN, HDN, HTN, HBN⟩
          case measure => omega
      have HME := Lib.hid (mid_end d j (by rw [← HM.out]; exact hjm) hj2 (by rw [← HM.out]; exact hgo))
      obtain ⟨hi, hhi⟩ : ∃ hi, hi = d.high := ⟨_, rfl⟩
      rw [← hhi] at d4 HME
      clear hhi
      by_cases g1 : j < m
      · have g2 : ¬ j < 2 := fun h => hgo ⟨g1, h⟩
        clear hgo
        cases hi
        · obtain ⟨q0, hq0⟩ : ∃ q0, q0 = celD d := ⟨_, rfl⟩
          have HQ0 := Lib.hid (show BAt wr z q0 by rw [hq0, ← HME.out]; exact HZ.out)
          have HQE := Lib.hid hq0
          clear hq0
          obtain ⟨wq, hwq⟩ : ∃ wq, wq = put14 wr (w.heap.size + 1) 0 q0 := ⟨_, rfl⟩
          have Z := Lib.hid (show BAt wq (w.heap.size + 1) q0 by rw [hwq]; exact HT.out.put q0)
          have HBQ := Lib.hid (show Below w.heap.size w wq by rw [hwq]; exact HB.out.trans ((put14_but wr (w.heap.size + 1) 0 q0).below (C := w.heap.size) (by omega) HB.out.size))
          simp only [put14, Nat.zero_add] at hwq
          obtain ⟨_, ⟨a0, a1, a2, a3, a4, a5, a6, a7, a8, a9, a10, a11, a12, a13⟩, _⟩ := HQ0.out
          obtain ⟨_, ⟨y0, y1, y2, y3, y4, y5, y6, y7, y8, y9, y10, y11, y12, y13⟩, yf⟩ := HT.out
          dsimp only at y0 y1 y2 y3 y4 y5 y6 y7 y8 y9 y10 y11 y12 y13
          go_wp2
          rw [← hwq]
          clear a0 a1 a2 a3 a4 a5 a6 a7 a8 a9 a10 a11 a12 a13 y0 y1 y2 y3 y4 y5 y6 y7 y8 y9 y10 y11 y12 y13 yf hwq
          obtain ⟨_, ⟨k0, k1, k2, k3, k4, k5, k6, k7, k8, k9, k10, k11, k12, k13⟩, _⟩ := Z.out
          exact bodyPost_ret (v := celV q0) (by simp [results, Try.results55, go_sem, k0, k1, k2, k3, k4, k5, k6, k7, k8, k9, k10, k11, k12, k13]) rfl ⟨by rw [HQE.out], HBQ.out⟩
        · obtain ⟨wn, hwn⟩ : ∃ wn, wn = wr.setCell ⟨z, 13, none⟩ (.int .u8 1) := ⟨_, rfl⟩
          have HZN := Lib.hid (show BAt wn z (midC d j 1) by rw [hwn]; exact HZ.out.lab 1)
          have HTN := Lib.hid (show BAt wn (w.heap.size + 1) Cel.z by rw [hwn]; exact HT.out.but (But.set wr z 13 _) (by have := HZB.out; omega))
          have HBN := Lib.hid (show Below w.heap.size w wn by rw [hwn]; exact HB.out.setCell (show w.heap.size ≤ z by have := HZB.out; omega) _)
          obtain ⟨_, ⟨x0, x1, x2, x3, x4, x5, x6, x7, x8, x9, x10, x11, x12, x13⟩, xf⟩ := HZ.out
          dsimp only [midC] at x0 x1 x2 x3 x4 x5 x6 x7 x8 x9 x10 x11 x12 x13
          go_upto_region 8 with (fail)
          rw [← hwn]
          clear hwn x0 x1 x2 x3 x4 x5 x6 x7 x8 x9 x10 x11 x12 x13 xf
          obtain ⟨q0, hq0⟩ : ∃ q0, q0 = celD d := ⟨_, rfl⟩
          have HQ0 := Lib.hid (show BAt wn z q0 by rw [hq0, ← HME.out]; exact HZN.out)
          have HQE := Lib.hid hq0
          clear hq0
          obtain ⟨wq, hwq⟩ : ∃ wq, wq = put14 wn (w.heap.size + 1) 0 q0 := ⟨_, rfl⟩
          have Z := Lib.hid (show BAt wq (w.heap.size + 1) q0 by rw [hwq]; exact HTN.out.put q0)
          have HBQ := Lib.hid (show Below w.heap.size w wq by rw [hwq]; exact HBN.out.trans ((put14_but wn (w.heap.size + 1) 0 q0).below (C := w.heap.size) (by omega) HBN.out.size))
          simp only [put14, Nat.zero_add] at hwq
          obtain ⟨_, ⟨a0, a1, a2, a3, a4, a5, a6, a7, a8, a9, a10, a11, a12, a13⟩, _⟩ := HQ0.out
          obtain ⟨_, ⟨y0, y1, y2, y3, y4, y5, y6, y7, y8, y9, y10, y11, y12, y13⟩, yf⟩ := HTN.out
          dsimp only at y0 y1 y2 y3 y4 y5 y6 y7 y8 y9 y10 y11 y12 y13
          go_wp2
          rw [← hwq]
          clear a0 a1 a2 a3 a4 a5 a6 a7 a8 a9 a10 a11 a12 a13 y0 y1 y2 y3 y4 y5 y6 y7 y8 y9 y10 y11 y12 y13 yf hwq
          obtain ⟨_, ⟨k0, k1, k2, k3, k4, k5, k6, k7, k8, k9, k10, k11, k12, k13⟩, _⟩ := Z.out
          exact bodyPost_ret (v := celV q0) (by simp [results, Try.results55, go_sem, k0, k1, k2, k3, k4, k5, k6, k7, k8, k9, k10, k11, k12, k13]) rfl ⟨by rw [HQE.out], HBQ.out⟩
      · clear hgo
        cases hi
        · obtain ⟨q0, hq0⟩ : ∃ q0, q0 = celD d := ⟨_, rfl⟩
          have HQ0 := Lib.hid (show BAt wr z q0 by rw [hq0, ← HME.out]; exact HZ.out)
          have HQE := Lib.hid hq0
          clear hq0
          obtain ⟨wq, hwq⟩ : ∃ wq, wq = put14 wr (w.heap.size + 1) 0 q0 := ⟨_, rfl⟩
          have Z := Lib.hid (show BAt wq (w.heap.size + 1) q0 by rw [hwq]; exact HT.out.put q0)
          have HBQ := Lib.hid (show Below w.heap.size w wq by rw [hwq]; exact HB.out.trans ((put14_but wr (w.heap.size + 1) 0 q0).below (C := w.heap.size) (by omega) HB.out.size))
          simp only [put14, Nat.zero_add] at hwq
          obtain ⟨_, ⟨a0, a1, a2, a3, a4, a5, a6, a7, a8, a9, a10, a11, a12, a13⟩, _⟩ := HQ0.out
          obtain ⟨_, ⟨y0, y1, y2, y3, y4, y5, y6, y7, y8, y9, y10, y11, y12, y13⟩, yf⟩ := HT.out
          dsimp only at y0 y1 y2 y3 y4 y5 y6 y7 y8 y9 y10 y11 y12 y13
          go_wp2
          rw [← hwq]
          clear a0 a1 a2 a3 a4 a5 a6 a7 a8 a9 a10 a11 a12 a13 y0 y1 y2 y3 y4 y5 y6 y7 y8 y9 y10 y11 y12 y13 yf hwq
          obtain ⟨_, ⟨k0, k1, k2, k3, k4, k5, k6, k7, k8, k9, k10, k11, k12, k13⟩, _⟩ := Z.out
          exact bodyPost_ret (v := celV q0) (by simp [results, Try.results55, go_sem, k0, k1, k2, k3, k4, k5, k6, k7, k8, k9, k10, k11, k12, k13]) rfl ⟨by rw [HQE.out], HBQ.out⟩
        · obtain ⟨wn, hwn⟩ : ∃ wn, wn = wr.setCell ⟨z, 13, none⟩ (.int .u8 1) := ⟨_, rfl⟩
          have HZN := Lib.hid (show BAt wn z (midC d j 1) by rw [hwn]; exact HZ.out.lab 1)
          have HTN := Lib.hid (show BAt wn (w.heap.size + 1) Cel.z by rw [hwn]; exact HT.out.but (But.set wr z 13 _) (by have := HZB.out; omega))
          have HBN := Lib.hid (show Below w.heap.size w wn by rw [hwn]; exact HB.out.setCell (show w.heap.size ≤ z by have := HZB.out; omega) _)
          obtain ⟨_, ⟨x0, x1, x2, x3, x4, x5, x6, x7, x8, x9, x10, x11, x12, x13⟩, xf⟩ := HZ.out
          dsimp only [midC] at x0 x1 x2 x3 x4 x5 x6 x7 x8 x9 x10 x11 x12 x13
          go_upto_region 8 with (fail)
          rw [← hwn]
          clear hwn x0 x1 x2 x3 x4 x5 x6 x7 x8 x9 x10 x11 x12 x13 xf
          obtain ⟨q0, hq0⟩ : ∃ q0, q0 = celD d := ⟨_, rfl⟩
          have HQ0 := Lib.hid (show BAt wn z q0 by rw [hq0, ← HME.out]; exact HZN.out)
          have HQE := Lib.hid hq0
          clear hq0
          obtain ⟨wq, hwq⟩ : ∃ wq, wq = put14 wn (w.heap.size + 1) 0 q0 := ⟨_, rfl⟩
          have Z := Lib.hid (show BAt wq (w.heap.size + 1) q0 by rw [hwq]; exact HTN.out.put q0)
          have HBQ := Lib.hid (show Below w.heap.size w wq by rw [hwq]; exact HBN.out.trans ((put14_but wn (w.heap.size + 1) 0 q0).below (C := w.heap.size) (by omega) HBN.out.size))
          simp only [put14, Nat.zero_add] at hwq
          obtain ⟨_, ⟨a0, a1, a2, a3, a4, a5, a6, a7, a8, a9, a10, a11, a12, a13⟩, _⟩ := HQ0.out
          obtain ⟨_, ⟨y0, y1, y2, y3, y4, y5, y6, y7, y8, y9, y10, y11, y12, y13⟩, yf⟩ := HTN.out
          dsimp only at y0 y1 y2 y3 y4 y5 y6 y7 y8 y9 y10 y11 y12 y13
          go_wp2
          rw [← hwq]
          clear a0 a1 a2 a3 a4 a5 a6 a7 a8 a9 a10 a11 a12 a13 y0 y1 y2 y3 y4 y5 y6 y7 y8 y9 y10 y11 y12 y13 yf hwq
          obtain ⟨_, ⟨k0, k1, k2, k3, k4, k5, k6, k7, k8, k9, k10, k11, k12, k13⟩, _⟩ := Z.out
          exact bodyPost_ret (v := celV q0) (by simp [results, Try.results55, go_sem, k0, k1, k2, k3, k4, k5, k6, k7, k8, k9, k10, k11, k12, k13]) rfl ⟨by rw [HQE.out], HBQ.out⟩
end Go.Proofs.Ytnefamgjlhdffaa.Lab
