/- The Go law AttrBack: the stage's theorem. -/
import Derived.Test.YtlmhnebgkginkaaDoorAtBackA
import Derived.Test.YtlmhnebgkginkaaDoorAtWorks
import Derived.Test.YtlmhnebgkginkaaDoorAtRow
import Derived.Test.YtlmhnebgkginkaaDoorMany
import Derived.Deep.CutBlock
import Derived.Deep.DeepCutAuto
namespace Go.Proofs.YtlmhnebgkginkaaDoor.Lab
open Go Go.RowKit

theorem MatAt.low {w : World} {X : Nat → Prop} {a : Option Addr} {n c : Nat} {R : Rws} (h : MatAt w X (.slice a n c) R) {k : Nat} (hk : k ≤ R.length) : MatAt w X (.slice a k c) (R.take k) := by
  obtain ⟨a', c', e, hc, hm, hh⟩ := h
  injection e with e1 e2 e3
  subst e1 e3
  have hl : (R.take k).length = k := by rw [List.length_take]; omega
  refine ⟨_, _, by rw [hl], by omega, by omega, fun h0 => ?_⟩
  obtain ⟨g, o, ea, hx, hg, hcell⟩ := hh (by omega)
  refine ⟨g, o, ea, hx, hg, fun j hj => ?_⟩
  rw [hl] at hj
  rw [getD_takeK R k j [] hj]
  exact hcell j (by omega)
theorem str_eq (a b : At) (ha : a.ok) (hb : b.ok) (ra : rightM a = true) (rb : rightM b = true) (s t : ByteArray) (hs : s = ⟨(allT (paramsM a)).toArray⟩) (ht : t = ⟨(allT (paramsM b)).toArray⟩) : (s.toList == t.toList) = eqA a b := by
  rw [Bool.eq_iff_iff, beq_iff_eq, eqA_iff, ByteArray.toList_eq, ByteArray.toList_eq, hs, ht]
  exact format_inj ha hb ra rb
/-- What holds while two drafts' attributes and two variables are made, in whatever order. -/
def DM (w1 : World) (a b : At) (f : Nat → Bool) (y : Nat → Value) (w : World) : Prop :=
  (f 1 = true → y 1 = attV a) ∧ (f 3 = true → y 3 = attV b) ∧ (f 4 = true → ∃ z, y 4 = .pointer (some ⟨z, 0, none⟩) ∧ AtAt w z At.zero ∧ w1.heap.size ≤ z) ∧
  (f 5 = true → ∃ z, y 5 = .pointer (some ⟨z, 0, none⟩) ∧ AtAt w z At.zero ∧ w1.heap.size ≤ z) ∧ (f 4 = true → f 5 = true → y 4 ≠ y 5) ∧ Below w1.heap.size w1 w
theorem DM.start {w1 w : World} {a b : At} {y : Nat → Value} (h : Below w1.heap.size w1 w) : DM w1 a b (fun _ => false) y w :=
  ⟨fun h => absurd h (by simp), fun h => absurd h (by simp), fun h => absurd h (by simp), fun h => absurd h (by simp), fun h => absurd h (by simp), h⟩
theorem DM.call1 {w1 w w' : World} {a b : At} {f : Nat → Bool} {y : Nat → Value} (h : DM w1 a b f y w) (bb : Below w.heap.size w w') : DM w1 a b (fun j => f j || j == 1) (updM y 1 (attV a)) w' := by
  obtain ⟨h1, h3, h4, h5, hn, hb⟩ := h
  refine ⟨fun _ => rfl, fun h => h3 (by simpa using h), fun h => ?_, fun h => ?_, fun h h' => hn (by simpa using h) (by simpa using h'), hb.trans (bb.mono hb.size)⟩
  · obtain ⟨z, e, hA, hz⟩ := h4 (by simpa using h)
    exact ⟨z, e, hA.below bb, hz⟩
  · obtain ⟨z, e, hA, hz⟩ := h5 (by simpa using h)
    exact ⟨z, e, hA.below bb, hz⟩
theorem DM.call3 {w1 w w' : World} {a b : At} {f : Nat → Bool} {y : Nat → Value} (h : DM w1 a b f y w) (bb : Below w.heap.size w w') : DM w1 a b (fun j => f j || j == 3) (updM y 3 (attV b)) w' := by
  obtain ⟨h1, h3, h4, h5, hn, hb⟩ := h
  refine ⟨fun h => h1 (by simpa using h), fun _ => rfl, fun h => ?_, fun h => ?_, fun h h' => hn (by simpa using h) (by simpa using h'), hb.trans (bb.mono hb.size)⟩
  · obtain ⟨z, e, hA, hz⟩ := h4 (by simpa using h)
    exact ⟨z, e, hA.below bb, hz⟩
  · obtain ⟨z, e, hA, hz⟩ := h5 (by simpa using h)
    exact ⟨z, e, hA.below bb, hz⟩
theorem DM.new4 {w1 w : World} {a b : At} {f : Nat → Bool} {y : Nat → Value} (h : DM w1 a b f y w) :
    DM w1 a b (fun j => f j || j == 4) (updM y 4 (.pointer (some ⟨w.heap.size, 0, none⟩))) (w.alloc (.cells #[.int .u8 0, .int .u8 0, .int .u8 0, .int .u8 0, .int .u8 0, .int .u8 0, .int .u8 0, .int .u8 0, .int .u16 0] 26)) := by
  obtain ⟨h1, h3, h4, h5, hn, hb⟩ := h
  have bb : Below w.heap.size w (w.alloc (.cells #[.int .u8 0, .int .u8 0, .int .u8 0, .int .u8 0, .int .u8 0, .int .u8 0, .int .u8 0, .int .u8 0, .int .u16 0] 26)) := (Below.refl _ _).alloc (Nat.le_refl _) _
  refine ⟨fun h => h1 (by simpa using h), fun h => h3 (by simpa using h), fun _ => ⟨w.heap.size, rfl, AtAt.newAt w _ rfl At.zero _, hb.size⟩, fun h => ?_, fun _ h' => ?_, hb.trans (bb.mono hb.size)⟩
  · obtain ⟨z, e, hA, hz⟩ := h5 (by simpa using h)
    exact ⟨z, e, hA.below bb, hz⟩
  · obtain ⟨z, e, hA, hz⟩ := h5 (by simpa using h')
    intro hh
    have hh' : Value.pointer (some ⟨w.heap.size, 0, none⟩) = Value.pointer (some ⟨z, 0, none⟩) := (show _ = y 5 from hh).trans e
    injection hh' with hh'
    injection hh' with hh'
    injection hh' with hh'
    have := hA.1
    omega
theorem DM.new5 {w1 w : World} {a b : At} {f : Nat → Bool} {y : Nat → Value} (h : DM w1 a b f y w) :
    DM w1 a b (fun j => f j || j == 5) (updM y 5 (.pointer (some ⟨w.heap.size, 0, none⟩))) (w.alloc (.cells #[.int .u8 0, .int .u8 0, .int .u8 0, .int .u8 0, .int .u8 0, .int .u8 0, .int .u8 0, .int .u8 0, .int .u16 0] 26)) := by
  obtain ⟨h1, h3, h4, h5, hn, hb⟩ := h
  have bb : Below w.heap.size w (w.alloc (.cells #[.int .u8 0, .int .u8 0, .int .u8 0, .int .u8 0, .int .u8 0, .int .u8 0, .int .u8 0, .int .u8 0, .int .u16 0] 26)) := (Below.refl _ _).alloc (Nat.le_refl _) _
  refine ⟨fun h => h1 (by simpa using h), fun h => h3 (by simpa using h), fun h => ?_, fun _ => ⟨w.heap.size, rfl, AtAt.newAt w _ rfl At.zero _, hb.size⟩, fun h' _ => ?_, hb.trans (bb.mono hb.size)⟩
  · obtain ⟨z, e, hA, hz⟩ := h4 (by simpa using h)
    exact ⟨z, e, hA.below bb, hz⟩
  · obtain ⟨z, e, hA, hz⟩ := h4 (by simpa using h')
    intro hh
    have hh' : Value.pointer (some ⟨z, 0, none⟩) = Value.pointer (some ⟨w.heap.size, 0, none⟩) := e.symm.trans (show y 4 = _ from hh)
    injection hh' with hh'
    injection hh' with hh'
    injection hh' with hh'
    have := hA.1
    omega
/-- What the law says of two right attributes in memory, and a row of parameters. -/
def AB (w2 wc : World) (a b : At) (p q : Value) : Prop := ∃ z z9, p = .pointer (some ⟨z, 0, none⟩) ∧ q = .pointer (some ⟨z9, 0, none⟩) ∧ AtAt wc z a ∧ AtAt wc z9 b ∧ Below w2.heap.size w2 wc
set_option maxHeartbeats 1500000 in
set_option maxRecDepth 100000 in
theorem back_law (w : World) (d d9 : Dr) (hd : d.ok) (hd9 : d9.ok) (v : Value) (l : List Int) (hs : S16 w v l) (hP : Pow w) : Calls Tryd.prog 5 #[drV d, drV d9, v] w fun e w' => e = .returned (.bool true) ∧ Below w.heap.size w w' := by
  obtain ⟨w1, hw1⟩ : ∃ w1, w1 = (w.alloc (.cells #[.int .u16 (d.fl : Nat), .int .u8 (d.k : Nat), .int .u8 (d.f0 : Nat), .int .u8 (d.f1 : Nat), .int .u8 (d.f2 : Nat), .int .u8 (d.b0 : Nat), .int .u8 (d.b1 : Nat), .int .u8 (d.b2 : Nat)] 39)).alloc (.cells #[.int .u16 (d9.fl : Nat), .int .u8 (d9.k : Nat), .int .u8 (d9.f0 : Nat), .int .u8 (d9.f1 : Nat), .int .u8 (d9.f2 : Nat), .int .u8 (d9.b0 : Nat), .int .u8 (d9.b1 : Nat), .int .u8 (d9.b2 : Nat)] 39) := ⟨_, rfl⟩
  have b1 : Below w.heap.size w w1 := by rw [hw1]; exact ((Below.refl _ _).alloc (Nat.le_refl _) _).alloc (by simp) _
  have hsz : w1.heap.size = w.heap.size + 2 := by rw [hw1]; simp
  have HB1 := Lib.hid b1
  have HS := Lib.hid (show w1.cell? ⟨w.heap.size, 0, none⟩ = some (.int .u16 (d.fl : Nat)) ∧ w1.cell? ⟨w.heap.size, 1, none⟩ = some (.int .u8 (d.k : Nat)) ∧ w1.cell? ⟨w.heap.size, 2, none⟩ = some (.int .u8 (d.f0 : Nat)) ∧ w1.cell? ⟨w.heap.size, 3, none⟩ = some (.int .u8 (d.f1 : Nat)) ∧ w1.cell? ⟨w.heap.size, 4, none⟩ = some (.int .u8 (d.f2 : Nat)) ∧ w1.cell? ⟨w.heap.size, 5, none⟩ = some (.int .u8 (d.b0 : Nat)) ∧ w1.cell? ⟨w.heap.size, 6, none⟩ = some (.int .u8 (d.b1 : Nat)) ∧ w1.cell? ⟨w.heap.size, 7, none⟩ = some (.int .u8 (d.b2 : Nat)) ∧ w1.cell? ⟨w.heap.size + 1, 0, none⟩ = some (.int .u16 (d9.fl : Nat)) ∧ w1.cell? ⟨w.heap.size + 1, 1, none⟩ = some (.int .u8 (d9.k : Nat)) ∧ w1.cell? ⟨w.heap.size + 1, 2, none⟩ = some (.int .u8 (d9.f0 : Nat)) ∧ w1.cell? ⟨w.heap.size + 1, 3, none⟩ = some (.int .u8 (d9.f1 : Nat)) ∧ w1.cell? ⟨w.heap.size + 1, 4, none⟩ = some (.int .u8 (d9.f2 : Nat)) ∧ w1.cell? ⟨w.heap.size + 1, 5, none⟩ = some (.int .u8 (d9.b0 : Nat)) ∧ w1.cell? ⟨w.heap.size + 1, 6, none⟩ = some (.int .u8 (d9.b1 : Nat)) ∧ w1.cell? ⟨w.heap.size + 1, 7, none⟩ = some (.int .u8 (d9.b2 : Nat)) by
    have hb : Below (w.alloc (.cells #[.int .u16 (d.fl : Nat), .int .u8 (d.k : Nat), .int .u8 (d.f0 : Nat), .int .u8 (d.f1 : Nat), .int .u8 (d.f2 : Nat), .int .u8 (d.b0 : Nat), .int .u8 (d.b1 : Nat), .int .u8 (d.b2 : Nat)] 39)).heap.size (w.alloc (.cells #[.int .u16 (d.fl : Nat), .int .u8 (d.k : Nat), .int .u8 (d.f0 : Nat), .int .u8 (d.f1 : Nat), .int .u8 (d.f2 : Nat), .int .u8 (d.b0 : Nat), .int .u8 (d.b1 : Nat), .int .u8 (d.b2 : Nat)] 39)) w1 := by rw [hw1]; exact (Below.refl _ _).alloc (Nat.le_refl _) _
    exact ⟨(hb.cell (p := ⟨w.heap.size, 0, none⟩) (by simp)).trans (by simp), (hb.cell (p := ⟨w.heap.size, 1, none⟩) (by simp)).trans (by simp), (hb.cell (p := ⟨w.heap.size, 2, none⟩) (by simp)).trans (by simp), (hb.cell (p := ⟨w.heap.size, 3, none⟩) (by simp)).trans (by simp), (hb.cell (p := ⟨w.heap.size, 4, none⟩) (by simp)).trans (by simp), (hb.cell (p := ⟨w.heap.size, 5, none⟩) (by simp)).trans (by simp), (hb.cell (p := ⟨w.heap.size, 6, none⟩) (by simp)).trans (by simp), (hb.cell (p := ⟨w.heap.size, 7, none⟩) (by simp)).trans (by simp), by rw [hw1]; simp, by rw [hw1]; simp, by rw [hw1]; simp, by rw [hw1]; simp, by rw [hw1]; simp, by rw [hw1]; simp, by rw [hw1]; simp, by rw [hw1]; simp⟩)
  have HKEEP := Lib.hid (show ∀ W : World, Below w1.heap.size w1 W → W.cell? ⟨w.heap.size, 0, none⟩ = some (.int .u16 (d.fl : Nat)) ∧ W.cell? ⟨w.heap.size, 1, none⟩ = some (.int .u8 (d.k : Nat)) ∧ W.cell? ⟨w.heap.size, 2, none⟩ = some (.int .u8 (d.f0 : Nat)) ∧ W.cell? ⟨w.heap.size, 3, none⟩ = some (.int .u8 (d.f1 : Nat)) ∧ W.cell? ⟨w.heap.size, 4, none⟩ = some (.int .u8 (d.f2 : Nat)) ∧ W.cell? ⟨w.heap.size, 5, none⟩ = some (.int .u8 (d.b0 : Nat)) ∧ W.cell? ⟨w.heap.size, 6, none⟩ = some (.int .u8 (d.b1 : Nat)) ∧ W.cell? ⟨w.heap.size, 7, none⟩ = some (.int .u8 (d.b2 : Nat)) ∧ W.cell? ⟨w.heap.size + 1, 0, none⟩ = some (.int .u16 (d9.fl : Nat)) ∧ W.cell? ⟨w.heap.size + 1, 1, none⟩ = some (.int .u8 (d9.k : Nat)) ∧ W.cell? ⟨w.heap.size + 1, 2, none⟩ = some (.int .u8 (d9.f0 : Nat)) ∧ W.cell? ⟨w.heap.size + 1, 3, none⟩ = some (.int .u8 (d9.f1 : Nat)) ∧ W.cell? ⟨w.heap.size + 1, 4, none⟩ = some (.int .u8 (d9.f2 : Nat)) ∧ W.cell? ⟨w.heap.size + 1, 5, none⟩ = some (.int .u8 (d9.b0 : Nat)) ∧ W.cell? ⟨w.heap.size + 1, 6, none⟩ = some (.int .u8 (d9.b1 : Nat)) ∧ W.cell? ⟨w.heap.size + 1, 7, none⟩ = some (.int .u8 (d9.b2 : Nat)) from fun W hb => by
    obtain ⟨s0, s1, s2, s3, s4, s5, s6, s7, s8, s9, s10, s11, s12, s13, s14, s15⟩ := HS.out
    exact ⟨(hb.cell (p := ⟨w.heap.size, 0, none⟩) (by simp only; omega)).trans s0, (hb.cell (p := ⟨w.heap.size, 1, none⟩) (by simp only; omega)).trans s1, (hb.cell (p := ⟨w.heap.size, 2, none⟩) (by simp only; omega)).trans s2, (hb.cell (p := ⟨w.heap.size, 3, none⟩) (by simp only; omega)).trans s3, (hb.cell (p := ⟨w.heap.size, 4, none⟩) (by simp only; omega)).trans s4, (hb.cell (p := ⟨w.heap.size, 5, none⟩) (by simp only; omega)).trans s5, (hb.cell (p := ⟨w.heap.size, 6, none⟩) (by simp only; omega)).trans s6, (hb.cell (p := ⟨w.heap.size, 7, none⟩) (by simp only; omega)).trans s7, (hb.cell (p := ⟨w.heap.size + 1, 0, none⟩) (by simp only; omega)).trans s8, (hb.cell (p := ⟨w.heap.size + 1, 1, none⟩) (by simp only; omega)).trans s9, (hb.cell (p := ⟨w.heap.size + 1, 2, none⟩) (by simp only; omega)).trans s10, (hb.cell (p := ⟨w.heap.size + 1, 3, none⟩) (by simp only; omega)).trans s11, (hb.cell (p := ⟨w.heap.size + 1, 4, none⟩) (by simp only; omega)).trans s12, (hb.cell (p := ⟨w.heap.size + 1, 5, none⟩) (by simp only; omega)).trans s13, (hb.cell (p := ⟨w.heap.size + 1, 6, none⟩) (by simp only; omega)).trans s14, (hb.cell (p := ⟨w.heap.size + 1, 7, none⟩) (by simp only; omega)).trans s15⟩)
  have HR1 := Lib.hid (hs.below b1)
  have HP := Lib.hid hP
  obtain ⟨a, ha⟩ : ∃ a, a = dAt d := ⟨_, rfl⟩
  obtain ⟨b, hb⟩ : ∃ b, b = dAt d9 := ⟨_, rfl⟩
  have HOA := Lib.hid (show a.ok by rw [ha]; exact dAt_ok hd)
  have HOB := Lib.hid (show b.ok by rw [hb]; exact dAt_ok hd9)
  have HRA := Lib.hid (show rightM a = true by rw [ha]; exact right_dAt d)
  have HRB := Lib.hid (show rightM b = true by rw [hb]; exact right_dAt d9)
  have C1 := Lib.hid (show ∀ W, Calls Tryd.prog 18 #[drV d] W fun e w' => e = .returned (attV a) ∧ Below W.heap.size W w' from fun W => by rw [ha]; exact draft_any W d hd)
  have C2 := Lib.hid (show ∀ W, Calls Tryd.prog 18 #[drV d9] W fun e w' => e = .returned (attV b) ∧ Below W.heap.size W w' from fun W => by rw [hb]; exact draft_any W d9 hd9)
  obtain ⟨va, vc, rfl⟩ : ∃ a c, v = .slice a l.length c := by
    obtain ⟨a, c, e, _⟩ := hs
    exact ⟨a, c, e⟩
  obtain ⟨vn, hvn⟩ : ∃ vn, vn = l.length := ⟨_, rfl⟩
  rw [← hvn] at HR1 ⊢
  clear hvn ha hb b1 hs hP hd hd9
  go_enter Tryd.func5, Tryd.ntmps5
  go_wp2_with fail
  rw [← hw1]
  clear hw1
  refine (works_any w1 (HP.out.on HB1.out)).mono ?_
  rintro e w2 ⟨rfl, b2⟩
  have HW2 := Lib.hid b2
  clear b2
  go_upto_region 3 with (fail)
  go_cut [7, 8] (fun p q wc => Hid (AB w1 wc a b p q))
  case first =>
    have BB : Below w1.heap.size w1 w2.drew := HW2.out.trans (Below.mono (show Below w2.heap.size w2 w2.drew from ⟨rfl, rfl, rfl, Nat.le_refl _, fun _ _ => rfl⟩) HW2.out.size)
    refine wp_region_held_drew (S := fun w' => w'.cell? ⟨w.heap.size, 0, none⟩ = some (.int .u16 (d.fl : Nat)) ∧ w'.cell? ⟨w.heap.size, 1, none⟩ = some (.int .u8 (d.k : Nat)) ∧ w'.cell? ⟨w.heap.size, 2, none⟩ = some (.int .u8 (d.f0 : Nat)) ∧ w'.cell? ⟨w.heap.size, 3, none⟩ = some (.int .u8 (d.f1 : Nat)) ∧ w'.cell? ⟨w.heap.size, 4, none⟩ = some (.int .u8 (d.f2 : Nat)) ∧ w'.cell? ⟨w.heap.size, 5, none⟩ = some (.int .u8 (d.b0 : Nat)) ∧ w'.cell? ⟨w.heap.size, 6, none⟩ = some (.int .u8 (d.b1 : Nat)) ∧ w'.cell? ⟨w.heap.size, 7, none⟩ = some (.int .u8 (d.b2 : Nat)) ∧ w'.cell? ⟨w.heap.size + 1, 0, none⟩ = some (.int .u16 (d9.fl : Nat)) ∧ w'.cell? ⟨w.heap.size + 1, 1, none⟩ = some (.int .u8 (d9.k : Nat)) ∧ w'.cell? ⟨w.heap.size + 1, 2, none⟩ = some (.int .u8 (d9.f0 : Nat)) ∧ w'.cell? ⟨w.heap.size + 1, 3, none⟩ = some (.int .u8 (d9.f1 : Nat)) ∧ w'.cell? ⟨w.heap.size + 1, 4, none⟩ = some (.int .u8 (d9.f2 : Nat)) ∧ w'.cell? ⟨w.heap.size + 1, 5, none⟩ = some (.int .u8 (d9.b0 : Nat)) ∧ w'.cell? ⟨w.heap.size + 1, 6, none⟩ = some (.int .u8 (d9.b1 : Nat)) ∧ w'.cell? ⟨w.heap.size + 1, 7, none⟩ = some (.int .u8 (d9.b2 : Nat))) (by kernel_rfl) ?_ (fun hHeld => ?_)
    · exact HKEEP.out _ BB
    obtain ⟨u0, hu0⟩ : ∃ u0, u0 = w2.drew := ⟨_, rfl⟩
    rw [← hu0] at BB hHeld ⊢
    clear hu0
    have HW := Lib.hid BB
    clear BB
    refine take_at (i := 0) (v := ?_) rfl (by kernel_rfl) (by kernel_rfl) (by kernel_rfl) (fun _ _ _ h => h) (by kernel_rfl) (by assumption) ?_ ?_
    rotate_left
    · (intro w hSw; (try dsimp only at hSw); go_simp; try with_reducible rfl)
    simp only [Act.put, List.setIfInBounds_toArray, List.set_cons_zero, List.set_cons_succ]
    refine take_at (i := 2) (v := ?_) rfl (by kernel_rfl) (by kernel_rfl) (by kernel_rfl) (fun _ _ _ h => h) (by kernel_rfl) (by assumption) ?_ ?_
    rotate_left
    · (intro w hSw; (try dsimp only at hSw); go_simp; try with_reducible rfl)
    simp only [Act.put, List.setIfInBounds_toArray, List.set_cons_zero, List.set_cons_succ]
    refine many_at (I := [(1, some 16), (3, some 18), (4, some 7), (5, some 8)]) (fun i => if i = 3 then [1] else []) [true, false, true, false, false, false, false, false] (listed' := #[true, true, true, true, true, true, false, false]) (DM w1 a b) (fun _ => undef) rfl rfl (by kernel_rfl) (by decide) (by kernel_rfl) (by kernel_rfl) (DM.start HW.out) hHeld ?_ ?_
    · clear HW hHeld
      refine List.forall_mem_cons.2 ⟨?_, List.forall_mem_cons.2 ⟨?_, List.forall_mem_cons.2 ⟨?_, List.forall_mem_cons.2 ⟨?_, fun _ h => by cases h⟩⟩⟩⟩
      · refine StepM.mk rfl rfl (fun y => by kernel_rfl) (fun f y u hf hdp hI hHeld K hK => ?_)
        have HI := Lib.hid hI
        clear hI hf hdp
        simp only [actM, List.foldl_cons, List.foldl_nil, Act.put, List.setIfInBounds_toArray, List.set_cons_zero, List.set_cons_succ]
        go_simp
        refine (C1.out _).mono ?_
        rintro e u' ⟨rfl, bb⟩
        have HI' := Lib.hid (HI.out.call1 bb)
        clear HI bb
        go_wp2_with fail
        exact hK.out (attV a) _ _ (by kernel_rfl) HI'.out (HKEEP.out _ HI'.out.2.2.2.2.2)
      · refine StepM.mk rfl rfl (fun y => by kernel_rfl) (fun f y u hf hdp hI hHeld K hK => ?_)
        have HI := Lib.hid hI
        clear hI hf hdp
        simp only [actM, List.foldl_cons, List.foldl_nil, Act.put, List.setIfInBounds_toArray, List.set_cons_zero, List.set_cons_succ]
        go_simp
        refine (C2.out _).mono ?_
        rintro e u' ⟨rfl, bb⟩
        have HI' := Lib.hid (HI.out.call3 bb)
        clear HI bb
        go_wp2_with fail
        exact hK.out (attV b) _ _ (by kernel_rfl) HI'.out (HKEEP.out _ HI'.out.2.2.2.2.2)
      · refine StepM.mk rfl rfl (fun y => by kernel_rfl) (fun f y u hf hdp hI hHeld K hK => ?_)
        have HI' := Lib.hid hI.new4
        clear hI hf hdp
        simp only [actM, List.foldl_cons, List.foldl_nil, Act.put, List.setIfInBounds_toArray, List.set_cons_zero, List.set_cons_succ]
        go_wp2_with fail
        exact hK.out (.pointer (some ⟨u.heap.size, 0, none⟩)) _ _ (by kernel_rfl) HI'.out (HKEEP.out _ HI'.out.2.2.2.2.2)
      · refine StepM.mk rfl rfl (fun y => by kernel_rfl) (fun f y u hf hdp hI hHeld K hK => ?_)
        have HI' := Lib.hid hI.new5
        clear hI hf hdp
        simp only [actM, List.foldl_cons, List.foldl_nil, Act.put, List.setIfInBounds_toArray, List.set_cons_zero, List.set_cons_succ]
        go_wp2_with fail
        exact hK.out (.pointer (some ⟨u.heap.size, 0, none⟩)) _ _ (by kernel_rfl) HI'.out (HKEEP.out _ HI'.out.2.2.2.2.2)
    · clear HW hHeld
      intro y u5 hI hHeld
      obtain ⟨e1, e3, e4, e5, ene, eb⟩ := hI
      replace e1 := e1 rfl
      replace e3 := e3 rfl
      replace ene := ene rfl rfl
      obtain ⟨z, e4, hA, hz⟩ := e4 rfl
      obtain ⟨z9, e5, hA9, hz9⟩ := e5 rfl
      have HNE := Lib.hid (show z ≠ z9 by rintro rfl; exact ene (e4.trans e5.symm))
      have HA := Lib.hid hA
      have HA9 := Lib.hid hA9
      have HSZ := Lib.hid hz
      have HSZ9 := Lib.hid hz9
      have HW := Lib.hid eb
      simp only [actM, List.foldl_cons, List.foldl_nil, Act.put, List.setIfInBounds_toArray, List.set_cons_zero, List.set_cons_succ]
      rw [e1, e3, e4, e5]
      clear e1 e3 e4 e5 ene eb hA hA9 hz hz9
      obtain ⟨u6, hu6⟩ : ∃ u, u = putA u5 z a := ⟨_, rfl⟩
      have hu6' := hu6
      simp only [putA, putC, Nat.zero_add, Nat.reduceAdd] at hu6'
      have hne := HNE.out
      have HA' := Lib.hid (show AtAt u6 z a by rw [hu6]; exact HA.out.putA a)
      have HA9' := Lib.hid (show AtAt u6 z9 At.zero by rw [hu6]; exact HA9.out.same (w' := putA u5 z a) (by rw [putA_size]; exact Nat.le_refl _) (putA_heap u5 z z9 a (by omega)))
      have HW' := Lib.hid (show Below w1.heap.size w1 u6 by rw [hu6]; exact HW.out.trans ((putA_but u5 z a).below (C := w1.heap.size) HSZ.out HW.out.size))
      clear hne hu6
      refine do_at (i := 6) rfl (by kernel_rfl) (by kernel_rfl) (fun K hK => ?_)
      obtain ⟨y0, ⟨y1, y2, y3, y4, y5, y6, y7, y8, y9⟩, yf⟩ := HA.out
      try dsimp only at y1 y2 y3 y4 y5 y6 y7 y8 y9
      go_wp2_with fail
      rw [← hu6']
      clear y0 y1 y2 y3 y4 y5 y6 y7 y8 y9 yf hu6' HA HA9 HW
      refine hK.out _ _ ?_ (fun hHeld => ?_)
      · exact HKEEP.out _ HW'.out
      clear hK K
      try simp only [List.setIfInBounds_toArray, List.set_cons_zero, List.set_cons_succ]
      obtain ⟨u7, hu7⟩ : ∃ u, u = putA u6 z9 b := ⟨_, rfl⟩
      have hu7' := hu7
      simp only [putA, putC, Nat.zero_add, Nat.reduceAdd] at hu7'
      have hne := HNE.out
      have HA := Lib.hid (show AtAt u7 z a by rw [hu7]; exact HA'.out.same (w' := putA u6 z9 b) (by rw [putA_size]; exact Nat.le_refl _) (putA_heap u6 z9 z b (by omega)))
      have HA9 := Lib.hid (show AtAt u7 z9 b by rw [hu7]; exact HA9'.out.putA b)
      have HW := Lib.hid (show Below w1.heap.size w1 u7 by rw [hu7]; exact HW'.out.trans ((putA_but u6 z9 b).below (C := w1.heap.size) HSZ9.out HW'.out.size))
      clear hne hu7
      refine do_at (i := 7) rfl (by kernel_rfl) (by kernel_rfl) (fun K hK => ?_)
      obtain ⟨y0, ⟨y1, y2, y3, y4, y5, y6, y7, y8, y9⟩, yf⟩ := HA9'.out
      try dsimp only at y1 y2 y3 y4 y5 y6 y7 y8 y9
      go_wp2_with fail
      rw [← hu7']
      clear y0 y1 y2 y3 y4 y5 y6 y7 y8 y9 yf hu7' HA' HA9' HW'
      refine hK.out _ _ ?_ (fun hHeld => ?_)
      · exact HKEEP.out _ HW.out
      clear hK K
      try simp only [List.setIfInBounds_toArray, List.set_cons_zero, List.set_cons_succ]
      refine wpAnyH_done (by kernel_rfl) ?_ _
      go_wp2
      go_meet
      case rel => exact Lib.hid ⟨z, z9, rfl, rfl, HA.out, HA9.out, HW.out⟩
  case rest =>
    obtain ⟨z, z9, rfl, rfl, hA3, hA9, hW3⟩ := hcut.out
    obtain ⟨w3, rfl⟩ : ∃ w3 : World, w3 = wc := ⟨_, rfl⟩
    have HA3 := Lib.hid hA3
    have HA93 := Lib.hid hA9
    have HW3 := Lib.hid hW3
    clear hA3 hA9 hW3 hcut HKEEP HS C1 C2 HW2
    obtain ⟨sa, hsa⟩ : ∃ s : ByteArray, s = ⟨(allT (paramsM a)).toArray⟩ := ⟨_, rfl⟩
    obtain ⟨sb, hsb⟩ : ∃ s : ByteArray, s = ⟨(allT (paramsM b)).toArray⟩ := ⟨_, rfl⟩
    have HPW : Hid (∀ W, Below w1.heap.size w1 W → Pow W) := Lib.hid (fun W hb => HP.out.on (HB1.out.trans (hb.mono HB1.out.size)))
    have CF := Lib.hid (show ∀ W, Below w1.heap.size w1 W → Calls Tryd.prog 21 #[attV a] W fun e w' => e = .returned (.string sa) ∧ Below W.heap.size W w' from fun W hb => by rw [hsa]; exact format_any W a HOA.out (HPW.out W hb))
    have CF9 := Lib.hid (show ∀ W, Below w1.heap.size w1 W → Calls Tryd.prog 21 #[attV b] W fun e w' => e = .returned (.string sb) ∧ Below W.heap.size W w' from fun W hb => by rw [hsb]; exact format_any W b HOB.out (HPW.out W hb))
    have hdl : sa.data.toList = allT (paramsM a) := by rw [hsa]
    have CP := Lib.hid (show ∀ W, Calls Tryd.prog 24 #[.string sa] W (ParseOut W (paramsM a)) from fun W => by
      have h := parse_ok sa (by rw [Lib.size_eq, hdl]; have := all_len (paramsM_ok HOA.out).1 (paramsM_ok HOA.out).2; unfold maxLen; omega) ((AllGood.iff _).2 (by rw [hdl]; exact all_good _)) W
      rw [hdl, params_back HOA.out] at h
      exact h)
    have HEQS := Lib.hid (str_eq a b HOA.out HOB.out HRA.out HRB.out sa sb hsa hsb)
    have CR := Lib.hid (show ∀ W, Calls Tryd.prog 15 #[attV a] W fun e w' => e = .returned (.bool true) ∧ Below W.heap.size W w' from fun W => by have := right_any W a HOA.out.2.2; rw [HRA.out] at this; exact this)
    have CR9 := Lib.hid (show ∀ W, Calls Tryd.prog 15 #[attV b] W fun e w' => e = .returned (.bool true) ∧ Below W.heap.size W w' from fun W => by have := right_any W b HOB.out.2.2; rw [HRB.out] at this; exact this)
    have CPA := Lib.hid (fun W => params_any W a HOA.out)
    obtain ⟨PA, hPA⟩ : ∃ PA, PA = paramsM a := ⟨_, rfl⟩
    have CS := Lib.hid (show ∀ (W : World) (X : Nat → Prop) (v : Value), MatAt W X v PA → Calls Tryd.prog 12 #[attV b, v] W fun e w' => e = .returned (attV a) ∧ Below W.heap.size W w' from fun W X v h => by
      rw [hPA] at h
      have := sgr_any W X v (paramsM a) b HOB.out (RowsI.of (paramsM_ok HOA.out).2) h
      rw [sgr_params b HOA.out HRA.out] at this
      exact this)
    rw [← hPA] at CP CPA
    clear hsa hsb hdl hPA HRB HPW
    obtain ⟨_, ⟨y1, y2, y3, y4, y5, y6, y7, y8, y9⟩, yf⟩ := HA3.out
    try dsimp only at y1 y2 y3 y4 y5 y6 y7 y8 y9
    go_wp2_with fail
    refine (CF.out _ HW3.out).mono ?_
    rintro e w4 ⟨rfl, b4⟩
    have HA4 := Lib.hid (HA3.out.below b4)
    have HA94 := Lib.hid (HA93.out.below b4)
    have HW4 := Lib.hid (HW3.out.trans (b4.mono HW3.out.size))
    clear b4 HA3 HA93 HW3 y1 y2 y3 y4 y5 y6 y7 y8 y9 yf
    go_wp2_with fail
    refine (CP.out _).mono ?_
    rintro e w5 ⟨pv, rfl, hR5, b5⟩
    have HA := Lib.hid (HA4.out.below b5)
    have HA9 := Lib.hid (HA94.out.below b5)
    have HW5 := Lib.hid (HW4.out.trans (b5.mono HW4.out.size))
    have HM5 := Lib.hid hR5.mat
    clear b5 hR5 HA4 HA94 HW4 CP
    obtain ⟨pa, pc, rfl⟩ := HM5.out.shape
    obtain ⟨pn, hpn⟩ : ∃ pn, pn = PA.length := ⟨_, rfl⟩
    rw [← hpn] at HM5 ⊢
    have HPN := Lib.hid hpn
    clear hpn
    have HKEEP := Lib.hid (show ∀ W : World, Below w5.heap.size w5 W → W.cell? ⟨z, 0, none⟩ = some (.int .u8 a.fg.k) ∧ W.cell? ⟨z, 1, none⟩ = some (.int .u8 a.fg.r) ∧ W.cell? ⟨z, 2, none⟩ = some (.int .u8 a.fg.g) ∧ W.cell? ⟨z, 3, none⟩ = some (.int .u8 a.fg.b) ∧ W.cell? ⟨z, 4, none⟩ = some (.int .u8 a.bg.k) ∧ W.cell? ⟨z, 5, none⟩ = some (.int .u8 a.bg.r) ∧ W.cell? ⟨z, 6, none⟩ = some (.int .u8 a.bg.g) ∧ W.cell? ⟨z, 7, none⟩ = some (.int .u8 a.bg.b) ∧ W.cell? ⟨z, 8, none⟩ = some (.int .u16 (a.fl : Nat)) ∧ W.cell? ⟨z9, 0, none⟩ = some (.int .u8 b.fg.k) ∧ W.cell? ⟨z9, 1, none⟩ = some (.int .u8 b.fg.r) ∧ W.cell? ⟨z9, 2, none⟩ = some (.int .u8 b.fg.g) ∧ W.cell? ⟨z9, 3, none⟩ = some (.int .u8 b.fg.b) ∧ W.cell? ⟨z9, 4, none⟩ = some (.int .u8 b.bg.k) ∧ W.cell? ⟨z9, 5, none⟩ = some (.int .u8 b.bg.r) ∧ W.cell? ⟨z9, 6, none⟩ = some (.int .u8 b.bg.g) ∧ W.cell? ⟨z9, 7, none⟩ = some (.int .u8 b.bg.b) ∧ W.cell? ⟨z9, 8, none⟩ = some (.int .u16 (b.fl : Nat)) from fun W hb => by
      obtain ⟨a0, ⟨s0, s1, s2, s3, s4, s5, s6, s7, s8⟩, _⟩ := HA.out
      obtain ⟨a1, ⟨s9, s10, s11, s12, s13, s14, s15, s16, s17⟩, _⟩ := HA9.out
      exact ⟨(hb.cell (p := ⟨z, 0, none⟩) a0).trans s0, (hb.cell (p := ⟨z, 1, none⟩) a0).trans s1, (hb.cell (p := ⟨z, 2, none⟩) a0).trans s2, (hb.cell (p := ⟨z, 3, none⟩) a0).trans s3, (hb.cell (p := ⟨z, 4, none⟩) a0).trans s4, (hb.cell (p := ⟨z, 5, none⟩) a0).trans s5, (hb.cell (p := ⟨z, 6, none⟩) a0).trans s6, (hb.cell (p := ⟨z, 7, none⟩) a0).trans s7, (hb.cell (p := ⟨z, 8, none⟩) a0).trans s8, (hb.cell (p := ⟨z9, 0, none⟩) a1).trans s9, (hb.cell (p := ⟨z9, 1, none⟩) a1).trans s10, (hb.cell (p := ⟨z9, 2, none⟩) a1).trans s11, (hb.cell (p := ⟨z9, 3, none⟩) a1).trans s12, (hb.cell (p := ⟨z9, 4, none⟩) a1).trans s13, (hb.cell (p := ⟨z9, 5, none⟩) a1).trans s14, (hb.cell (p := ⟨z9, 6, none⟩) a1).trans s15, (hb.cell (p := ⟨z9, 7, none⟩) a1).trans s16, (hb.cell (p := ⟨z9, 8, none⟩) a1).trans s17⟩)
    have hqa := fun w => (eqAtt w a a).trans (by rw [eqA_self])
    obtain ⟨q, hq⟩ : ∃ q, q = eqA a b := ⟨_, rfl⟩
    have hqb := fun w => eqAtt w a b
    have hqs := HEQS.out
    rw [← hq] at hqb hqs
    clear hq HEQS
    have HQA := Lib.hid hqa
    have HQB := Lib.hid hqb
    have HQS := Lib.hid hqs
    clear hqa hqb hqs
    go_upto_region 5 with (fail)
    have BB : Below w5.heap.size w5 w5.drew := ⟨rfl, rfl, rfl, Nat.le_refl _, fun _ _ => rfl⟩
    have hqa := HQA.out
    have hqb := HQB.out
    have hqs := HQS.out
    refine wp_region_held_drew (S := fun w' => w'.cell? ⟨z, 0, none⟩ = some (.int .u8 a.fg.k) ∧ w'.cell? ⟨z, 1, none⟩ = some (.int .u8 a.fg.r) ∧ w'.cell? ⟨z, 2, none⟩ = some (.int .u8 a.fg.g) ∧ w'.cell? ⟨z, 3, none⟩ = some (.int .u8 a.fg.b) ∧ w'.cell? ⟨z, 4, none⟩ = some (.int .u8 a.bg.k) ∧ w'.cell? ⟨z, 5, none⟩ = some (.int .u8 a.bg.r) ∧ w'.cell? ⟨z, 6, none⟩ = some (.int .u8 a.bg.g) ∧ w'.cell? ⟨z, 7, none⟩ = some (.int .u8 a.bg.b) ∧ w'.cell? ⟨z, 8, none⟩ = some (.int .u16 (a.fl : Nat)) ∧ w'.cell? ⟨z9, 0, none⟩ = some (.int .u8 b.fg.k) ∧ w'.cell? ⟨z9, 1, none⟩ = some (.int .u8 b.fg.r) ∧ w'.cell? ⟨z9, 2, none⟩ = some (.int .u8 b.fg.g) ∧ w'.cell? ⟨z9, 3, none⟩ = some (.int .u8 b.fg.b) ∧ w'.cell? ⟨z9, 4, none⟩ = some (.int .u8 b.bg.k) ∧ w'.cell? ⟨z9, 5, none⟩ = some (.int .u8 b.bg.r) ∧ w'.cell? ⟨z9, 6, none⟩ = some (.int .u8 b.bg.g) ∧ w'.cell? ⟨z9, 7, none⟩ = some (.int .u8 b.bg.b) ∧ w'.cell? ⟨z9, 8, none⟩ = some (.int .u16 (b.fl : Nat))) (by kernel_rfl) ?_ (fun hHeld => ?_)
    · exact HKEEP.out _ BB
    obtain ⟨u0, hu0⟩ : ∃ u0, u0 = w5.drew := ⟨_, rfl⟩
    rw [← hu0] at BB hHeld ⊢
    clear hu0
    have HW := Lib.hid BB
    clear BB
    refine take_at (i := 0) (v := ?_) rfl (by kernel_rfl) (by kernel_rfl) (by kernel_rfl) (fun _ _ _ h => h) (by kernel_rfl) (by assumption) ?_ ?_
    rotate_left
    · (intro w hSw; (try dsimp only at hSw); go_simp; try with_reducible rfl)
    simp only [Act.put, List.setIfInBounds_toArray, List.set_cons_zero, List.set_cons_succ]
    refine do_at (i := 1) rfl (by kernel_rfl) (by kernel_rfl) (fun K hK => ?_)
    go_simp
    refine (CR.out _).mono ?_
    rintro e u1 ⟨rfl, bb⟩
    replace HW := Lib.hid (HW.out.trans (bb.mono HW.out.size))
    clear bb
    go_wp2_with fail
    refine hK.out _ _ ?_ (fun hHeld => ?_)
    · exact HKEEP.out _ HW.out
    clear hK K
    try simp only [Act.put, List.setIfInBounds_toArray, List.set_cons_zero, List.set_cons_succ]
    refine take_at (i := 2) (v := ?_) rfl (by kernel_rfl) (by kernel_rfl) (by kernel_rfl) (fun _ _ _ h => h) (by kernel_rfl) (by assumption) ?_ ?_
    rotate_left
    · (intro w hSw; (try dsimp only at hSw); go_simp; try with_reducible rfl)
    simp only [Act.put, List.setIfInBounds_toArray, List.set_cons_zero, List.set_cons_succ]
    refine take_at (i := 3) (v := ?_) rfl (by kernel_rfl) (by kernel_rfl) (by kernel_rfl) (fun _ _ _ h => h) (by kernel_rfl) (by assumption) ?_ ?_
    rotate_left
    · (intro w hSw; (try dsimp only at hSw); go_simp; try with_reducible rfl)
    simp only [Act.put, List.setIfInBounds_toArray, List.set_cons_zero, List.set_cons_succ]
    refine take_at (i := 4) (v := ?_) rfl (by kernel_rfl) (by kernel_rfl) (by kernel_rfl) (fun _ _ _ h => h) (by kernel_rfl) (by assumption) ?_ ?_
    rotate_left
    · (intro w hSw; (try dsimp only at hSw); go_simp; try with_reducible rfl)
    simp only [Act.put, List.setIfInBounds_toArray, List.set_cons_zero, List.set_cons_succ]
    refine do_at (i := 5) rfl (by kernel_rfl) (by kernel_rfl) (fun K hK => ?_)
    go_simp
    refine (CR9.out _).mono ?_
    rintro e u2 ⟨rfl, bb⟩
    replace HW := Lib.hid (HW.out.trans (bb.mono HW.out.size))
    clear bb
    go_wp2_with fail
    refine hK.out _ _ ?_ (fun hHeld => ?_)
    · exact HKEEP.out _ HW.out
    clear hK K
    try simp only [Act.put, List.setIfInBounds_toArray, List.set_cons_zero, List.set_cons_succ]
    refine take_at (i := 6) (v := ?_) rfl (by kernel_rfl) (by kernel_rfl) (by kernel_rfl) (fun _ _ _ h => h) (by kernel_rfl) (by assumption) ?_ ?_
    rotate_left
    · (intro w hSw; (try dsimp only at hSw); go_simp; try with_reducible rfl)
    simp only [Act.put, List.setIfInBounds_toArray, List.set_cons_zero, List.set_cons_succ]
    refine take_at (i := 7) (v := ?_) rfl (by kernel_rfl) (by kernel_rfl) (by kernel_rfl) (fun _ _ _ h => h) (by kernel_rfl) (by assumption) ?_ ?_
    rotate_left
    · (intro w hSw; (try dsimp only at hSw); go_simp; try with_reducible rfl)
    simp only [Act.put, List.setIfInBounds_toArray, List.set_cons_zero, List.set_cons_succ]
    refine take_at (i := 8) (v := ?_) rfl (by kernel_rfl) (by kernel_rfl) (by kernel_rfl) (fun _ _ _ h => h) (by kernel_rfl) (by assumption) ?_ ?_
    rotate_left
    · (intro w hSw; (try dsimp only at hSw); go_simp; try with_reducible rfl)
    simp only [Act.put, List.setIfInBounds_toArray, List.set_cons_zero, List.set_cons_succ]
    refine take_at (i := 9) (v := ?_) rfl (by kernel_rfl) (by kernel_rfl) (by kernel_rfl) (fun _ _ _ h => h) (by kernel_rfl) (by assumption) ?_ ?_
    rotate_left
    · (intro w hSw; (try dsimp only at hSw); go_simp; try with_reducible rfl)
    simp only [Act.put, List.setIfInBounds_toArray, List.set_cons_zero, List.set_cons_succ]
    refine take_at (i := 10) (v := ?_) rfl (by kernel_rfl) (by kernel_rfl) (by kernel_rfl) (fun _ _ _ h => h) (by kernel_rfl) (by assumption) ?_ ?_
    rotate_left
    · (intro w hSw; (try dsimp only at hSw); go_simp; try with_reducible rfl)
    simp only [Act.put, List.setIfInBounds_toArray, List.set_cons_zero, List.set_cons_succ]
    refine take_at (i := 13) (v := ?_) rfl (by kernel_rfl) (by kernel_rfl) (by kernel_rfl) (fun _ _ _ h => h) (by kernel_rfl) (by assumption) ?_ ?_
    rotate_left
    · (intro w hSw; (try dsimp only at hSw); go_simp; try with_reducible rfl)
    simp only [Act.put, List.setIfInBounds_toArray, List.set_cons_zero, List.set_cons_succ]
    refine do_at (i := 11) rfl (by kernel_rfl) (by kernel_rfl) (fun K hK => ?_)
    go_simp
    refine (CPA.out _).mono ?_
    rintro e u3 ⟨mv, rfl, hR, bb⟩
    replace HW := Lib.hid (HW.out.trans (bb.mono HW.out.size))
    have HM := Lib.hid hR.mat
    clear hR
    obtain ⟨ma, mc, rfl⟩ := HM.out.shape
    obtain ⟨mn, hmn⟩ : ∃ mn, mn = PA.length := ⟨_, rfl⟩
    rw [← hmn] at HM ⊢
    clear hmn
    clear bb
    go_wp2_with fail
    refine hK.out _ _ ?_ (fun hHeld => ?_)
    · exact HKEEP.out _ HW.out
    clear hK K
    try simp only [Act.put, List.setIfInBounds_toArray, List.set_cons_zero, List.set_cons_succ]
    refine do_at (i := 12) rfl (by kernel_rfl) (by kernel_rfl) (fun K hK => ?_)
    go_simp
    refine (CS.out _ _ _ HM.out).mono ?_
    rintro e u4 ⟨rfl, bb⟩
    replace HW := Lib.hid (HW.out.trans (bb.mono HW.out.size))
    clear bb
    go_wp2_with fail
    refine hK.out _ _ ?_ (fun hHeld => ?_)
    · exact HKEEP.out _ HW.out
    clear hK K
    try simp only [Act.put, List.setIfInBounds_toArray, List.set_cons_zero, List.set_cons_succ]
    refine take_at (i := 14) (v := ?_) rfl (by kernel_rfl) (by kernel_rfl) (by kernel_rfl) (fun _ _ _ h => h) (by kernel_rfl) (by assumption) ?_ ?_
    rotate_left
    · (intro w hSw; (try dsimp only at hSw); go_simp; try with_reducible rfl)
    simp only [Act.put, List.setIfInBounds_toArray, List.set_cons_zero, List.set_cons_succ]
    refine take_at (i := 15) (v := ?_) rfl (by kernel_rfl) (by kernel_rfl) (by kernel_rfl) (fun _ _ _ h => h) (by kernel_rfl) (by assumption) ?_ ?_
    rotate_left
    · (intro w hSw; (try dsimp only at hSw); go_simp; try with_reducible rfl)
    simp only [Act.put, List.setIfInBounds_toArray, List.set_cons_zero, List.set_cons_succ]
    refine take_at (i := 16) (v := ?_) rfl (by kernel_rfl) (by kernel_rfl) (by kernel_rfl) (fun _ _ _ h => h) (by kernel_rfl) (by assumption) ?_ ?_
    rotate_left
    · (intro w hSw; (try dsimp only at hSw); go_simp; try with_reducible rfl)
    simp only [Act.put, List.setIfInBounds_toArray, List.set_cons_zero, List.set_cons_succ]
    refine take_at (i := 17) (v := ?_) rfl (by kernel_rfl) (by kernel_rfl) (by kernel_rfl) (fun _ _ _ h => h) (by kernel_rfl) (by assumption) ?_ ?_
    rotate_left
    · (intro w hSw; (try dsimp only at hSw); go_simp; try with_reducible rfl)
    simp only [Act.put, List.setIfInBounds_toArray, List.set_cons_zero, List.set_cons_succ]
    refine take_at (i := 18) (v := ?_) rfl (by kernel_rfl) (by kernel_rfl) (by kernel_rfl) (fun _ _ _ h => h) (by kernel_rfl) (by assumption) ?_ ?_
    rotate_left
    · (intro w hSw; (try dsimp only at hSw); go_simp; try with_reducible rfl)
    simp only [Act.put, List.setIfInBounds_toArray, List.set_cons_zero, List.set_cons_succ]
    refine take_at (i := 19) (v := ?_) rfl (by kernel_rfl) (by kernel_rfl) (by kernel_rfl) (fun _ _ _ h => h) (by kernel_rfl) (by assumption) ?_ ?_
    rotate_left
    · (intro w hSw; (try dsimp only at hSw); go_simp; try with_reducible rfl)
    simp only [Act.put, List.setIfInBounds_toArray, List.set_cons_zero, List.set_cons_succ]
    refine take_at (i := 20) (v := ?_) rfl (by kernel_rfl) (by kernel_rfl) (by kernel_rfl) (fun _ _ _ h => h) (by kernel_rfl) (by assumption) ?_ ?_
    rotate_left
    · (intro w hSw; (try dsimp only at hSw); go_simp; try with_reducible rfl)
    simp only [Act.put, List.setIfInBounds_toArray, List.set_cons_zero, List.set_cons_succ]
    refine take_at (i := 21) (v := ?_) rfl (by kernel_rfl) (by kernel_rfl) (by kernel_rfl) (fun _ _ _ h => h) (by kernel_rfl) (by assumption) ?_ ?_
    rotate_left
    · (intro w hSw; (try dsimp only at hSw); go_simp; try with_reducible rfl)
    simp only [Act.put, List.setIfInBounds_toArray, List.set_cons_zero, List.set_cons_succ]
    refine take_at (i := 22) (v := ?_) rfl (by kernel_rfl) (by kernel_rfl) (by kernel_rfl) (fun _ _ _ h => h) (by kernel_rfl) (by assumption) ?_ ?_
    rotate_left
    · (intro w hSw; (try dsimp only at hSw); go_simp; try with_reducible rfl)
    simp only [Act.put, List.setIfInBounds_toArray, List.set_cons_zero, List.set_cons_succ]
    refine take_at (i := 24) (v := ?_) rfl (by kernel_rfl) (by kernel_rfl) (by kernel_rfl) (fun _ _ _ h => h) (by kernel_rfl) (by assumption) ?_ ?_
    rotate_left
    · (intro w hSw; (try dsimp only at hSw); go_simp; try with_reducible rfl)
    simp only [Act.put, List.setIfInBounds_toArray, List.set_cons_zero, List.set_cons_succ]
    refine do_at (i := 23) rfl (by kernel_rfl) (by kernel_rfl) (fun K hK => ?_)
    go_simp
    refine (CS.out _ _ _ (HM5.out.below HW.out)).mono ?_
    rintro e u5 ⟨rfl, bb⟩
    replace HW := Lib.hid (HW.out.trans (bb.mono HW.out.size))
    clear bb
    go_wp2_with fail
    refine hK.out _ _ ?_ (fun hHeld => ?_)
    · exact HKEEP.out _ HW.out
    clear hK K
    try simp only [Act.put, List.setIfInBounds_toArray, List.set_cons_zero, List.set_cons_succ]
    refine take_at (i := 25) (v := ?_) rfl (by kernel_rfl) (by kernel_rfl) (by kernel_rfl) (fun _ _ _ h => h) (by kernel_rfl) (by assumption) ?_ ?_
    rotate_left
    · (intro w hSw; (try dsimp only at hSw); go_simp; try with_reducible rfl)
    simp only [Act.put, List.setIfInBounds_toArray, List.set_cons_zero, List.set_cons_succ]
    refine take_at (i := 26) (v := ?_) rfl (by kernel_rfl) (by kernel_rfl) (by kernel_rfl) (fun _ _ _ h => h) (by kernel_rfl) (by assumption) ?_ ?_
    rotate_left
    · (intro w hSw; (try dsimp only at hSw); go_simp; try with_reducible rfl)
    simp only [Act.put, List.setIfInBounds_toArray, List.set_cons_zero, List.set_cons_succ]
    refine take_at (i := 27) (v := ?_) rfl (by kernel_rfl) (by kernel_rfl) (by kernel_rfl) (fun _ _ _ h => h) (by kernel_rfl) (by assumption) ?_ ?_
    rotate_left
    · (intro w hSw; (try dsimp only at hSw); go_simp; try with_reducible rfl)
    simp only [Act.put, List.setIfInBounds_toArray, List.set_cons_zero, List.set_cons_succ]
    refine take_at (i := 28) (v := ?_) rfl (by kernel_rfl) (by kernel_rfl) (by kernel_rfl) (fun _ _ _ h => h) (by kernel_rfl) (by assumption) ?_ ?_
    rotate_left
    · (intro w hSw; (try dsimp only at hSw); go_simp; try with_reducible rfl)
    simp only [Act.put, List.setIfInBounds_toArray, List.set_cons_zero, List.set_cons_succ]
    refine take_at (i := 30) (v := ?_) rfl (by kernel_rfl) (by kernel_rfl) (by kernel_rfl) (fun _ _ _ h => h) (by kernel_rfl) (by assumption) ?_ ?_
    rotate_left
    · (intro w hSw; (try dsimp only at hSw); go_simp; try with_reducible rfl)
    simp only [Act.put, List.setIfInBounds_toArray, List.set_cons_zero, List.set_cons_succ]
    refine take_at (i := 33) (v := ?_) rfl (by kernel_rfl) (by kernel_rfl) (by kernel_rfl) (fun _ _ _ h => h) (by kernel_rfl) (by assumption) ?_ ?_
    rotate_left
    · (intro w hSw; (try dsimp only at hSw); go_simp; try with_reducible rfl)
    simp only [Act.put, List.setIfInBounds_toArray, List.set_cons_zero, List.set_cons_succ]
    refine take_at (i := 34) (v := ?_) rfl (by kernel_rfl) (by kernel_rfl) (by kernel_rfl) (fun _ _ _ h => h) (by kernel_rfl) (by assumption) ?_ ?_
    rotate_left
    · (intro w hSw; (try dsimp only at hSw); go_simp; try with_reducible rfl)
    simp only [Act.put, List.setIfInBounds_toArray, List.set_cons_zero, List.set_cons_succ]
    refine take_at (i := 35) (v := ?_) rfl (by kernel_rfl) (by kernel_rfl) (by kernel_rfl) (fun _ _ _ h => h) (by kernel_rfl) (by assumption) ?_ ?_
    rotate_left
    · (intro w hSw; (try dsimp only at hSw); go_simp; try with_reducible rfl)
    simp only [Act.put, List.setIfInBounds_toArray, List.set_cons_zero, List.set_cons_succ]
    refine do_at (i := 29) rfl (by kernel_rfl) (by kernel_rfl) (fun K hK => ?_)
    go_simp
    refine (CF.out _ (HW5.out.trans (HW.out.mono HW5.out.size))).mono ?_
    rintro e u6 ⟨rfl, bb⟩
    replace HW := Lib.hid (HW.out.trans (bb.mono HW.out.size))
    clear bb
    go_wp2_with fail
    refine hK.out _ _ ?_ (fun hHeld => ?_)
    · exact HKEEP.out _ HW.out
    clear hK K
    try simp only [Act.put, List.setIfInBounds_toArray, List.set_cons_zero, List.set_cons_succ]
    refine do_at (i := 31) rfl (by kernel_rfl) (by kernel_rfl) (fun K hK => ?_)
    go_simp
    refine (CF9.out _ (HW5.out.trans (HW.out.mono HW5.out.size))).mono ?_
    rintro e u7 ⟨rfl, bb⟩
    replace HW := Lib.hid (HW.out.trans (bb.mono HW.out.size))
    clear bb
    go_wp2_with fail
    refine hK.out _ _ ?_ (fun hHeld => ?_)
    · exact HKEEP.out _ HW.out
    clear hK K
    try simp only [Act.put, List.setIfInBounds_toArray, List.set_cons_zero, List.set_cons_succ]
    refine take_at (i := 32) (v := ?_) rfl (by kernel_rfl) (by kernel_rfl) (by kernel_rfl) (fun _ _ _ h => h) (by kernel_rfl) (by assumption) ?_ ?_
    rotate_left
    · (intro w hSw; (try dsimp only at hSw); go_simp; try with_reducible rfl)
    simp only [Act.put, List.setIfInBounds_toArray, List.set_cons_zero, List.set_cons_succ]
    refine take_at (i := 36) (v := ?_) rfl (by kernel_rfl) (by kernel_rfl) (by kernel_rfl) (fun _ _ _ h => h) (by kernel_rfl) (by assumption) ?_ ?_
    rotate_left
    · (intro w hSw; (try dsimp only at hSw); go_simp; try with_reducible rfl)
    simp only [Act.put, List.setIfInBounds_toArray, List.set_cons_zero, List.set_cons_succ]
    refine take_at (i := 37) (v := ?_) rfl (by kernel_rfl) (by kernel_rfl) (by kernel_rfl) (fun _ _ _ h => h) (by kernel_rfl) (by assumption) ?_ ?_
    rotate_left
    · (intro w hSw; (try dsimp only at hSw); go_simp; try with_reducible rfl)
    simp only [Act.put, List.setIfInBounds_toArray, List.set_cons_zero, List.set_cons_succ]
    refine wpAnyH_done (by kernel_rfl) ?_ _
    have HW6 := Lib.hid (HW5.out.trans (HW.out.mono HW5.out.size))
    have HA6 := Lib.hid (HA.out.below HW.out)
    clear HKEEP HA HA9 HW5 HM5 HM HQA HQB HQS CF CF9 CS CPA CR9 HPN HOB
    go_wp2_with fail
    refine (row_any _ _ l (HR1.out.below HW6.out)).mono ?_
    rintro e w7 ⟨rv, R, rfl, hR7, hOk, b7⟩
    have HM7 := Lib.hid hR7.mat
    have HOK := Lib.hid hOk
    have HW7 := Lib.hid (HW6.out.trans (b7.mono HW6.out.size))
    have HA7 := Lib.hid (HA6.out.below b7)
    clear b7 hR7 hOk HW6 HA6 HW HR1 hqa hqb hqs hHeld
    obtain ⟨ra, rc, rfl⟩ := HM7.out.shape
    obtain ⟨n, hn⟩ : ∃ n, n = R.length := ⟨_, rfl⟩
    have HN := Lib.hid hn
    have hn40 : n ≤ 40 := by rw [hn]; exact HOK.out.1
    have hnc : n ≤ rc := by
      obtain ⟨_, _, e, h, _⟩ := HM7.out
      injection e with _ _ e
      omega
    rw [← hn] at HM7 ⊢
    clear hn
    have HW0 := Lib.hid (Below.refl w7.heap.size w7)
    go_wp2
    go_loopg [12] (n + 2) (fun gq i wr => ∃ k : Nat, gq + k = n + 2 ∧ k ≤ n + 1 ∧ i = .int .i64 k ∧ Hid (Below w7.heap.size w7 wr))
    case atStart => exact ⟨0, rfl, Nat.zero_le _, rfl, HW0⟩
    case round =>
      obtain ⟨k, hgk, hkn, rfl, HWR⟩ := hrel
      obtain ⟨wo, rfl⟩ : ∃ wo : World, wo = wr := ⟨_, rfl⟩
      have hk1 : IntKind.i64.wrap ((k : Int) + 1) = (k : Int) + 1 := by rw [IntKind.wrap_i64]; omega
      by_cases hlt : k ≤ n
      · have hlti : (k : Int) ≤ n := by omega
        have HKN := Lib.hid (show k ≤ R.length by rw [← HN.out]; exact hlt)
        have sl := fun w => low_rows ra n k rc (by omega) w
        have HA := Lib.hid (HA7.out.below HWR.out)
        have HKEEP := Lib.hid (show ∀ W : World, Below wo.heap.size wo W → W.cell? ⟨z, 0, none⟩ = some (.int .u8 a.fg.k) ∧ W.cell? ⟨z, 1, none⟩ = some (.int .u8 a.fg.r) ∧ W.cell? ⟨z, 2, none⟩ = some (.int .u8 a.fg.g) ∧ W.cell? ⟨z, 3, none⟩ = some (.int .u8 a.fg.b) ∧ W.cell? ⟨z, 4, none⟩ = some (.int .u8 a.bg.k) ∧ W.cell? ⟨z, 5, none⟩ = some (.int .u8 a.bg.r) ∧ W.cell? ⟨z, 6, none⟩ = some (.int .u8 a.bg.g) ∧ W.cell? ⟨z, 7, none⟩ = some (.int .u8 a.bg.b) ∧ W.cell? ⟨z, 8, none⟩ = some (.int .u16 (a.fl : Nat)) from fun W hb => by
          obtain ⟨a0, ⟨s0, s1, s2, s3, s4, s5, s6, s7, s8⟩, _⟩ := HA.out
          exact ⟨(hb.cell (p := ⟨z, 0, none⟩) a0).trans s0, (hb.cell (p := ⟨z, 1, none⟩) a0).trans s1, (hb.cell (p := ⟨z, 2, none⟩) a0).trans s2, (hb.cell (p := ⟨z, 3, none⟩) a0).trans s3, (hb.cell (p := ⟨z, 4, none⟩) a0).trans s4, (hb.cell (p := ⟨z, 5, none⟩) a0).trans s5, (hb.cell (p := ⟨z, 6, none⟩) a0).trans s6, (hb.cell (p := ⟨z, 7, none⟩) a0).trans s7, (hb.cell (p := ⟨z, 8, none⟩) a0).trans s8⟩)
        obtain ⟨x, hx⟩ : ∃ x, x = sgrM a (R.take k) := ⟨_, rfl⟩
        have CX := Lib.hid (show ∀ W, Below wo.heap.size wo W → Calls Tryd.prog 12 #[attV a, .slice ra k rc] W fun e w' => e = .returned (attV x) ∧ Below W.heap.size W w' from fun W hb => by
          rw [hx]
          exact sgr_any W _ _ (R.take k) a HOA.out (fun r hr => HOK.out.i64 r (List.mem_of_mem_take hr)) ((HM7.out.below (HWR.out.trans (hb.mono HWR.out.size))).low HKN.out))
        have CY := Lib.hid (show ∀ W, Calls Tryd.prog 15 #[attV x] W fun e w' => e = .returned (.bool true) ∧ Below W.heap.size W w' from fun W => by
          have := right_any W x (by rw [hx]; exact (sgrM_ok HOA.out _).2.2)
          rw [show rightM x = true by rw [hx]; exact sgr_right HRA.out HOA.out _] at this
          exact this)
        clear hx
        go_upto_region 11 with (fail)
        have BB : Below wo.heap.size wo wo.drew := ⟨rfl, rfl, rfl, Nat.le_refl _, fun _ _ => rfl⟩
        refine wp_region_held_drew (S := fun w' => w'.cell? ⟨z, 0, none⟩ = some (.int .u8 a.fg.k) ∧ w'.cell? ⟨z, 1, none⟩ = some (.int .u8 a.fg.r) ∧ w'.cell? ⟨z, 2, none⟩ = some (.int .u8 a.fg.g) ∧ w'.cell? ⟨z, 3, none⟩ = some (.int .u8 a.fg.b) ∧ w'.cell? ⟨z, 4, none⟩ = some (.int .u8 a.bg.k) ∧ w'.cell? ⟨z, 5, none⟩ = some (.int .u8 a.bg.r) ∧ w'.cell? ⟨z, 6, none⟩ = some (.int .u8 a.bg.g) ∧ w'.cell? ⟨z, 7, none⟩ = some (.int .u8 a.bg.b) ∧ w'.cell? ⟨z, 8, none⟩ = some (.int .u16 (a.fl : Nat))) (by kernel_rfl) ?_ (fun hHeld => ?_)
        · exact HKEEP.out _ BB
        obtain ⟨u0, hu0⟩ : ∃ u0, u0 = wo.drew := ⟨_, rfl⟩
        rw [← hu0] at BB hHeld ⊢
        clear hu0
        have HW := Lib.hid BB
        clear BB
        refine take_at (i := 0) (v := ?_) rfl (by kernel_rfl) (by kernel_rfl) (by kernel_rfl) (fun _ _ _ h => h) (by kernel_rfl) (by assumption) ?_ ?_
        rotate_left
        · (intro w hSw; (try dsimp only at hSw); go_simp; try with_reducible rfl)
        simp only [Act.put, List.setIfInBounds_toArray, List.set_cons_zero, List.set_cons_succ]
        refine take_at (i := 1) (v := ?_) rfl (by kernel_rfl) (by kernel_rfl) (by kernel_rfl) (fun _ _ _ h => h) (by kernel_rfl) (by assumption) ?_ ?_
        rotate_left
        · (intro w hSw; (try dsimp only at hSw); go_simp; try with_reducible rfl)
        simp only [Act.put, List.setIfInBounds_toArray, List.set_cons_zero, List.set_cons_succ]
        refine take_at (i := 2) (v := ?_) rfl (by kernel_rfl) (by kernel_rfl) (by kernel_rfl) (fun _ _ _ h => h) (by kernel_rfl) (by assumption) ?_ ?_
        rotate_left
        · (intro w hSw; (try dsimp only at hSw); go_simp; try with_reducible rfl)
        simp only [Act.put, List.setIfInBounds_toArray, List.set_cons_zero, List.set_cons_succ]
        refine take_at (i := 3) (v := ?_) rfl (by kernel_rfl) (by kernel_rfl) (by kernel_rfl) (fun _ _ _ h => h) (by kernel_rfl) (by assumption) ?_ ?_
        rotate_left
        · (intro w hSw; (try dsimp only at hSw); go_simp; try with_reducible rfl)
        simp only [Act.put, List.setIfInBounds_toArray, List.set_cons_zero, List.set_cons_succ]
        refine do_at (i := 4) rfl (by kernel_rfl) (by kernel_rfl) (fun K hK => ?_)
        go_simp
        refine (CX.out _ HW.out).mono ?_
        rintro e u1 ⟨rfl, bb⟩
        replace HW := Lib.hid (HW.out.trans (bb.mono HW.out.size))
        clear bb
        go_wp2_with fail
        refine hK.out _ _ ?_ (fun hHeld => ?_)
        · exact HKEEP.out _ HW.out
        clear hK K
        try simp only [Act.put, List.setIfInBounds_toArray, List.set_cons_zero, List.set_cons_succ]
        refine do_at (i := 5) rfl (by kernel_rfl) (by kernel_rfl) (fun K hK => ?_)
        go_simp
        refine (CY.out _).mono ?_
        rintro e u2 ⟨rfl, bb⟩
        replace HW := Lib.hid (HW.out.trans (bb.mono HW.out.size))
        clear bb
        go_wp2_with fail
        refine hK.out _ _ ?_ (fun hHeld => ?_)
        · exact HKEEP.out _ HW.out
        clear hK K
        try simp only [Act.put, List.setIfInBounds_toArray, List.set_cons_zero, List.set_cons_succ]
        refine take_at (i := 6) (v := ?_) rfl (by kernel_rfl) (by kernel_rfl) (by kernel_rfl) (fun _ _ _ h => h) (by kernel_rfl) (by assumption) ?_ ?_
        rotate_left
        · (intro w hSw; (try dsimp only at hSw); go_simp; try with_reducible rfl)
        simp only [Act.put, List.setIfInBounds_toArray, List.set_cons_zero, List.set_cons_succ]
        refine wpAnyH_done (by kernel_rfl) ?_ _
        have HW9 := Lib.hid (HWR.out.trans (HW.out.mono HWR.out.size))
        clear HW HKEEP HA CX CY HWR hHeld
        go_wp2
        go_roundg (gk - 1)
        case rel => exact ⟨k + 1, by omega, by omega, by go_num, HW9⟩
        case measure => omega
      · have hlti : (n : Int) < k := by omega
        have hltd : decide ((k : Int) ≤ (n : Int)) = false := by simp; omega
        have HBF := Lib.hid (HB1.out.trans ((HW7.out.trans (HWR.out.mono HW7.out.size)).mono HB1.out.size))
        go_wp2
        go_ret
        exact ⟨rfl, HBF.out⟩
end Go.Proofs.YtlmhnebgkginkaaDoor.Lab
