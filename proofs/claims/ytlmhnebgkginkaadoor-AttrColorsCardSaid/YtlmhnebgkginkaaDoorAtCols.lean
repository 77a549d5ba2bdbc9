/- The Go law AttrColors: a colour is told alike by parameters behind, and by numbers of one parameter. -/
import Derived.Test.YtlmhnebgkginkaaDoorAtColsM
import Derived.Test.YtlmhnebgkginkaaDoorAtWorks
import Derived.Test.YtlmhnebgkginkaaDoorAtDraft
import Derived.Deep.CutBlock
import Derived.Deep.DeepCutAuto
namespace Go.Proofs.YtlmhnebgkginkaaDoor.Lab
open Go Go.RowKit

/-- Three cells at a block's head that can be written. -/
def Z3 (w : World) (b : Nat) (x y z : Value) : Prop := b < w.heap.size ∧ (w.cell? ⟨b, 0, none⟩ = some x ∧ w.cell? ⟨b, 1, none⟩ = some y ∧ w.cell? ⟨b, 2, none⟩ = some z) ∧ ∀ i, w.frozen? ⟨b, i, none⟩ = false
theorem Z3.same {w w' : World} {b : Nat} {x y z : Value} (h : Z3 w b x y z) (hs : w.heap.size ≤ w'.heap.size) (e : w'.heap[b]? = w.heap[b]?) : Z3 w' b x y z := by
  have k : ∀ i, w'.cell? ⟨b, i, none⟩ = w.cell? ⟨b, i, none⟩ := fun i => World.cell?_of_block e
  obtain ⟨h0, ⟨h1, h2, h3⟩, hf⟩ := h
  exact ⟨by omega, ⟨(k 0).trans h1, (k 1).trans h2, (k 2).trans h3⟩, fun i => (World.frozen?_of_block (a := ⟨b, i, none⟩) e).trans (hf i)⟩
theorem Z3.below {w w' : World} {b : Nat} {x y z : Value} (h : Z3 w b x y z) (hb : Below w.heap.size w w') : Z3 w' b x y z := h.same hb.size (hb.block b h.1)
theorem Z3.newAt (w : World) (n : Nat) (hn : n = w.heap.size) (x y z : Value) (T : TypeId) : Z3 (w.alloc (.cells #[x, y, z] T)) n x y z := by
  subst hn
  exact ⟨by simp, ⟨by simp, by simp, by simp⟩, fun i => by simp⟩
theorem Z3.put0 {w : World} {b : Nat} {x y z : Value} (h : Z3 w b x y z) (u : Value) : Z3 (w.setCell ⟨b, 0, none⟩ u) b u y z := by
  obtain ⟨h0, ⟨h1, h2, h3⟩, hf⟩ := h
  exact ⟨by simpa using h0, ⟨World.cell?_setCell_same _ _ _ h1, by simp [World.cell?_setCell_other, h2], by simp [World.cell?_setCell_other, h3]⟩, fun i => by simp [hf i]⟩
theorem Z3.put1 {w : World} {b : Nat} {x y z : Value} (h : Z3 w b x y z) (u : Value) : Z3 (w.setCell ⟨b, 1, none⟩ u) b x u z := by
  obtain ⟨h0, ⟨h1, h2, h3⟩, hf⟩ := h
  exact ⟨by simpa using h0, ⟨by simp [World.cell?_setCell_other, h1], World.cell?_setCell_same _ _ _ h2, by simp [World.cell?_setCell_other, h3]⟩, fun i => by simp [hf i]⟩
theorem Z3.put2 {w : World} {b : Nat} {x y z : Value} (h : Z3 w b x y z) (u : Value) : Z3 (w.setCell ⟨b, 2, none⟩ u) b x y u := by
  obtain ⟨h0, ⟨h1, h2, h3⟩, hf⟩ := h
  exact ⟨by simpa using h0, ⟨by simp [World.cell?_setCell_other, h1], by simp [World.cell?_setCell_other, h2], World.cell?_setCell_same _ _ _ h3⟩, fun i => by simp [hf i]⟩
def pf (k : Nat) (x p : Int) (j : Nat) : Int := if j < k then p else x
def okF (p0 p1 p2 : Int) (k : Nat) : Bool := if k = 0 then true else if k = 1 then decide (p0 ≤ 255) else if k = 2 then decide (p0 ≤ 255) && decide (p1 ≤ 255) else decide (p0 ≤ 255) && decide (p1 ≤ 255) && decide (p2 ≤ 255)
theorem okF_0 (p0 p1 p2 : Int) : okF p0 p1 p2 1 = (okF p0 p1 p2 0 && decide (p0 ≤ 255)) := rfl
theorem okF_1 (p0 p1 p2 : Int) : okF p0 p1 p2 2 = (okF p0 p1 p2 1 && decide (p1 ≤ 255)) := rfl
theorem okF_2 (p0 p1 p2 : Int) : okF p0 p1 p2 3 = (okF p0 p1 p2 2 && decide (p2 ≤ 255)) := rfl
theorem okF_yes {p0 p1 p2 : Int} (h : okF p0 p1 p2 3 = true) : p0 ≤ 255 ∧ p1 ≤ 255 ∧ p2 ≤ 255 := by
  simp only [okF, show ¬ (3 : Nat) = 0 by decide, show ¬ (3 : Nat) = 1 by decide, show ¬ (3 : Nat) = 2 by decide, if_false, Bool.and_eq_true, decide_eq_true_eq] at h
  exact ⟨h.1.1, h.1.2, h.2⟩
theorem c3_of {p0 p1 p2 c0 c1 c2 : Int} (hc : (p0 ≤ 255 → c0 = max 0 p0) ∧ (p1 ≤ 255 → c1 = max 0 p1) ∧ (p2 ≤ 255 → c2 = max 0 p2)) (h : okF p0 p1 p2 3 = true) : c3M p0 p1 p2 = some ⟨2, c0, c1, c2⟩ := by
  obtain ⟨h0, h1, h2⟩ := okF_yes h
  unfold c3M
  rw [if_pos h0, if_pos h1, if_pos h2, hc.1 h0, hc.2.1 h1, hc.2.2 h2]
theorem c3_no {p0 p1 p2 : Int} (h : okF p0 p1 p2 3 = false) : c3M p0 p1 p2 = none := by
  unfold c3M
  split
  · split
    · split
      · rename_i h0 h1 h2
        have : okF p0 p1 p2 3 = true := by
          simp only [okF, show ¬ (3 : Nat) = 0 by decide, show ¬ (3 : Nat) = 1 by decide, show ¬ (3 : Nat) = 2 by decide, if_false, Bool.and_eq_true, decide_eq_true_eq]
          exact ⟨⟨h0, h1⟩, h2⟩
        rw [this] at h
        cases h
      · rfl
    · rfl
  · rfl
/-- Two attributes of the round's own, and what stood before it. -/
def TW (w0 wc : World) (t o : Nat) (A B : At) : Prop := AtAt wc t A ∧ AtAt wc o B ∧ Below w0.heap.size w0 wc
theorem idx38 (w : World) : (Instr.index 57 (.agg #[.int .i64 38, .int .i64 48]) (.int .i64 0)).run Tryd.prog w = .ok (.int .i64 38) w := by kernel_rfl
theorem idx48 (w : World) : (Instr.index 57 (.agg #[.int .i64 38, .int .i64 48]) (.int .i64 1)).run Tryd.prog w = .ok (.int .i64 48) w := by kernel_rfl
set_option maxHeartbeats 32000000 in
set_option maxRecDepth 100000 in
theorem cols_law (w : World) (d : Dr) (hd : d.ok) (l0 l1 l2 : Int) (hl0 : -32768 ≤ l0 ∧ l0 ≤ 32767) (hl1 : -32768 ≤ l1 ∧ l1 ≤ 32767) (hl2 : -32768 ≤ l2 ∧ l2 ≤ 32767) (n : Nat) (hn : n < 256) (hP : Pow w) :
    Calls Tryd.prog 8 #[drV d, .agg #[.int .i16 l0, .int .i16 l1, .int .i16 l2], .int .u8 (n : Nat)] w fun e w' => e = .returned (.bool true) ∧ Below w.heap.size w w' := by
  obtain ⟨w1, hw1⟩ : ∃ w1, w1 = (w.alloc (.cells #[.int .u16 (d.fl : Nat), .int .u8 (d.k : Nat), .int .u8 (d.f0 : Nat), .int .u8 (d.f1 : Nat), .int .u8 (d.f2 : Nat), .int .u8 (d.b0 : Nat), .int .u8 (d.b1 : Nat), .int .u8 (d.b2 : Nat)] 39)).alloc (.cells #[.int .i16 l0, .int .i16 l1, .int .i16 l2] 56) := ⟨_, rfl⟩
  have b1 : Below w.heap.size w w1 := by rw [hw1]; exact ((Below.refl _ _).alloc (Nat.le_refl _) _).alloc (by simp) _
  have hsz : w1.heap.size = w.heap.size + 2 := by rw [hw1]; simp
  have HS := Lib.hid (show w1.cell? ⟨w.heap.size, 0, none⟩ = some (.int .u16 (d.fl : Nat)) ∧ w1.cell? ⟨w.heap.size, 1, none⟩ = some (.int .u8 (d.k : Nat)) ∧ w1.cell? ⟨w.heap.size, 2, none⟩ = some (.int .u8 (d.f0 : Nat)) ∧ w1.cell? ⟨w.heap.size, 3, none⟩ = some (.int .u8 (d.f1 : Nat)) ∧ w1.cell? ⟨w.heap.size, 4, none⟩ = some (.int .u8 (d.f2 : Nat)) ∧ w1.cell? ⟨w.heap.size, 5, none⟩ = some (.int .u8 (d.b0 : Nat)) ∧ w1.cell? ⟨w.heap.size, 6, none⟩ = some (.int .u8 (d.b1 : Nat)) ∧ w1.cell? ⟨w.heap.size, 7, none⟩ = some (.int .u8 (d.b2 : Nat)) ∧ w1.cell? ⟨w.heap.size + 1, 0, none⟩ = some (.int .i16 l0) ∧ w1.cell? ⟨w.heap.size + 1, 1, none⟩ = some (.int .i16 l1) ∧ w1.cell? ⟨w.heap.size + 1, 2, none⟩ = some (.int .i16 l2) by
    have hb : Below (w.alloc (.cells #[.int .u16 (d.fl : Nat), .int .u8 (d.k : Nat), .int .u8 (d.f0 : Nat), .int .u8 (d.f1 : Nat), .int .u8 (d.f2 : Nat), .int .u8 (d.b0 : Nat), .int .u8 (d.b1 : Nat), .int .u8 (d.b2 : Nat)] 39)).heap.size (w.alloc (.cells #[.int .u16 (d.fl : Nat), .int .u8 (d.k : Nat), .int .u8 (d.f0 : Nat), .int .u8 (d.f1 : Nat), .int .u8 (d.f2 : Nat), .int .u8 (d.b0 : Nat), .int .u8 (d.b1 : Nat), .int .u8 (d.b2 : Nat)] 39)) w1 := by rw [hw1]; exact (Below.refl _ _).alloc (Nat.le_refl _) _
    exact ⟨(hb.cell (p := ⟨w.heap.size, 0, none⟩) (by simp)).trans (by simp), (hb.cell (p := ⟨w.heap.size, 1, none⟩) (by simp)).trans (by simp), (hb.cell (p := ⟨w.heap.size, 2, none⟩) (by simp)).trans (by simp), (hb.cell (p := ⟨w.heap.size, 3, none⟩) (by simp)).trans (by simp), (hb.cell (p := ⟨w.heap.size, 4, none⟩) (by simp)).trans (by simp), (hb.cell (p := ⟨w.heap.size, 5, none⟩) (by simp)).trans (by simp), (hb.cell (p := ⟨w.heap.size, 6, none⟩) (by simp)).trans (by simp), (hb.cell (p := ⟨w.heap.size, 7, none⟩) (by simp)).trans (by simp), by rw [hw1]; simp, by rw [hw1]; simp, by rw [hw1]; simp⟩)
  have HKD := Lib.hid (show ∀ W : World, Below w1.heap.size w1 W → W.cell? ⟨w.heap.size, 0, none⟩ = some (.int .u16 (d.fl : Nat)) ∧ W.cell? ⟨w.heap.size, 1, none⟩ = some (.int .u8 (d.k : Nat)) ∧ W.cell? ⟨w.heap.size, 2, none⟩ = some (.int .u8 (d.f0 : Nat)) ∧ W.cell? ⟨w.heap.size, 3, none⟩ = some (.int .u8 (d.f1 : Nat)) ∧ W.cell? ⟨w.heap.size, 4, none⟩ = some (.int .u8 (d.f2 : Nat)) ∧ W.cell? ⟨w.heap.size, 5, none⟩ = some (.int .u8 (d.b0 : Nat)) ∧ W.cell? ⟨w.heap.size, 6, none⟩ = some (.int .u8 (d.b1 : Nat)) ∧ W.cell? ⟨w.heap.size, 7, none⟩ = some (.int .u8 (d.b2 : Nat)) ∧ W.cell? ⟨w.heap.size + 1, 0, none⟩ = some (.int .i16 l0) ∧ W.cell? ⟨w.heap.size + 1, 1, none⟩ = some (.int .i16 l1) ∧ W.cell? ⟨w.heap.size + 1, 2, none⟩ = some (.int .i16 l2) from fun W hb => by
    obtain ⟨s0, s1, s2, s3, s4, s5, s6, s7, s8, s9, s10⟩ := HS.out
    exact ⟨(hb.cell (p := ⟨w.heap.size, 0, none⟩) (by simp only; omega)).trans s0, (hb.cell (p := ⟨w.heap.size, 1, none⟩) (by simp only; omega)).trans s1, (hb.cell (p := ⟨w.heap.size, 2, none⟩) (by simp only; omega)).trans s2, (hb.cell (p := ⟨w.heap.size, 3, none⟩) (by simp only; omega)).trans s3, (hb.cell (p := ⟨w.heap.size, 4, none⟩) (by simp only; omega)).trans s4, (hb.cell (p := ⟨w.heap.size, 5, none⟩) (by simp only; omega)).trans s5, (hb.cell (p := ⟨w.heap.size, 6, none⟩) (by simp only; omega)).trans s6, (hb.cell (p := ⟨w.heap.size, 7, none⟩) (by simp only; omega)).trans s7, (hb.cell (p := ⟨w.heap.size + 1, 0, none⟩) (by simp only; omega)).trans s8, (hb.cell (p := ⟨w.heap.size + 1, 1, none⟩) (by simp only; omega)).trans s9, (hb.cell (p := ⟨w.heap.size + 1, 2, none⟩) (by simp only; omega)).trans s10⟩)
  have HB1 := Lib.hid b1
  have HP1 := Lib.hid (hP.on b1)
  obtain ⟨a, ha⟩ : ∃ a, a = dAt d := ⟨_, rfl⟩
  have HOA := Lib.hid (show a.ok by rw [ha]; exact dAt_ok hd)
  have C1 := Lib.hid (show ∀ W, Calls Tryd.prog 18 #[drV d] W fun e w' => e = .returned (attV a) ∧ Below W.heap.size W w' from fun W => by rw [ha]; exact draft_any W d hd)
  have en : IntKind.i64.wrap (n : Int) = (n : Int) := by rw [IntKind.wrap_i64]; omega
  have ex0 : IntKind.i64.wrap l0 = l0 := by rw [IntKind.wrap_i64]; omega
  have ex1 : IntKind.i64.wrap l1 = l1 := by rw [IntKind.wrap_i64]; omega
  have ex2 : IntKind.i64.wrap l2 = l2 := by rw [IntKind.wrap_i64]; omega
  clear ha b1 hsz hd hP HS
  go_enter Tryd.func8, Tryd.ntmps8
  go_wp2_with fail
  rw [← hw1]
  clear hw1
  refine (works_any w1 HP1.out).mono ?_
  rintro e w2 ⟨rfl, b2⟩
  have HW2 := Lib.hid b2
  clear b2 HP1
  obtain ⟨s0, s1, s2, s3, s4, s5, s6, s7, s8, s9, s10⟩ := HKD.out _ HW2.out
  go_wp2_with fail
  refine (C1.out _).mono ?_
  rintro e w3 ⟨rfl, b3⟩
  have HW3 := Lib.hid (HW2.out.trans (b3.mono HW2.out.size))
  clear b3 HW2 s0 s1 s2 s3 s4 s5 s6 s7 s8 s9 s10 C1
  obtain ⟨w4, hw4⟩ : ∃ w4, w4 = w3.alloc (.cells #[.int .u8 a.fg.k, .int .u8 a.fg.r, .int .u8 a.fg.g, .int .u8 a.fg.b, .int .u8 a.bg.k, .int .u8 a.bg.r, .int .u8 a.bg.g, .int .u8 a.bg.b, .int .u16 (a.fl : Nat)] 26) := ⟨_, rfl⟩
  obtain ⟨z, hz⟩ : ∃ z, z = w3.heap.size := ⟨_, rfl⟩
  have HA4 := Lib.hid (show AtAt w4 z a by rw [hw4, hz]; exact AtAt.newAt w3 _ rfl a _)
  have HW4 := Lib.hid (show Below w1.heap.size w1 w4 by rw [hw4]; exact HW3.out.trans (((Below.refl _ _).alloc (Nat.le_refl _) _).mono HW3.out.size))
  go_upto_region 4 with (fail)
  rw [← hw4, ← hz]
  clear hw4 hz HW3
  obtain ⟨s0, s1, s2, s3, s4, s5, s6, s7, s8, s9, s10⟩ := HKD.out _ HW4.out
  obtain ⟨w5, hw5⟩ : ∃ w5, w5 = w4.alloc (.cells #[.int .i64 l0, .int .i64 l1, .int .i64 l2] 3) := ⟨_, rfl⟩
  obtain ⟨w6, hw6⟩ : ∃ w6, w6 = w5.alloc (.cells #[.int .u8 0, .int .u8 0, .int .u8 0] 37) := ⟨_, rfl⟩
  obtain ⟨bp, hbp⟩ : ∃ b, b = w4.heap.size := ⟨_, rfl⟩
  obtain ⟨bc, hbc⟩ : ∃ b, b = w4.heap.size + 1 := ⟨_, rfl⟩
  have hs5 : w5.heap.size = w4.heap.size + 1 := by rw [hw5]; simp
  have b5 : Below w4.heap.size w4 w5 := by rw [hw5]; exact (Below.refl _ _).alloc (Nat.le_refl _) _
  have b6 : Below w5.heap.size w5 w6 := by rw [hw6]; exact (Below.refl _ _).alloc (Nat.le_refl _) _
  have HZP := Lib.hid (show Z3 w6 bp (.int .i64 l0) (.int .i64 l1) (.int .i64 l2) from (show Z3 w5 bp (.int .i64 l0) (.int .i64 l1) (.int .i64 l2) by rw [hw5]; exact Z3.newAt w4 bp hbp _ _ _ _).below b6)
  have HZC := Lib.hid (show Z3 w6 bc (.int .u8 0) (.int .u8 0) (.int .u8 0) by rw [hw6]; exact Z3.newAt w5 bc (by rw [hs5]; exact hbc) _ _ _ _)
  have b56 := b5.trans (b6.mono b5.size)
  have HA6 := Lib.hid (HA4.out.below b56)
  have HW6 := Lib.hid (HW4.out.trans (b56.mono HW4.out.size))
  have HNE := Lib.hid (show bp ≠ bc ∧ z < bp ∧ z < bc from ⟨by omega, by have := HA4.out.1; omega, by have := HA4.out.1; omega⟩)
  have HG := Lib.hid (show w4.heap.size ≤ bp ∧ w4.heap.size ≤ bc from ⟨by omega, by omega⟩)
  go_upto_region 7 with (fail)
  rw [← hw5, ← hw6, ← hbc, ← hbp]
  have HBE := Lib.hid b56
  clear hw5 hw6 hbp hbc hs5 b5 b6 b56 s0 s1 s2 s3 s4 s5 s6 s7 s8 s9 s10 HKD
  obtain ⟨p0, m0⟩ : ∃ p, max (-1) l0 = p := ⟨_, rfl⟩
  obtain ⟨p1, m1⟩ : ∃ p, max (-1) l1 = p := ⟨_, rfl⟩
  obtain ⟨p2, m2⟩ : ∃ p, max (-1) l2 = p := ⟨_, rfl⟩
  obtain ⟨q0, m3⟩ : ∃ q, max 0 p0 = q := ⟨_, rfl⟩
  obtain ⟨q1, m4⟩ : ∃ q, max 0 p1 = q := ⟨_, rfl⟩
  obtain ⟨q2, m5⟩ : ∃ q, max 0 p2 = q := ⟨_, rfl⟩
  obtain ⟨c0, v0⟩ : ∃ c, IntKind.u8.wrap q0 = c := ⟨_, rfl⟩
  obtain ⟨c1, v1⟩ : ∃ c, IntKind.u8.wrap q1 = c := ⟨_, rfl⟩
  obtain ⟨c2, v2⟩ : ∃ c, IntKind.u8.wrap q2 = c := ⟨_, rfl⟩
  have HPB := Lib.hid (show (-1 ≤ p0 ∧ p0 ≤ 32767) ∧ (-1 ≤ p1 ∧ p1 ≤ 32767) ∧ (-1 ≤ p2 ∧ p2 ≤ 32767) by omega)
  have HQC := Lib.hid (show (p0 ≤ 255 → c0 = max 0 p0) ∧ (p1 ≤ 255 → c1 = max 0 p1) ∧ (p2 ≤ 255 → c2 = max 0 p2) by rw [IntKind.wrap_u8] at v0 v1 v2; omega)
  have HM := Lib.hid (And.intro m0 (And.intro m1 (And.intro m2 (And.intro m3 (And.intro m4 (And.intro m5 (And.intro v0 (And.intro v1 v2))))))))
  clear hl0 hl1 hl2 m0 m1 m2 m3 m4 m5 v0 v1 v2 ex0 ex1 ex2
  go_wp2
  go_loopg [9, 11] 4 (fun gq q i wr => ∃ k : Nat, gq + k = 4 ∧ k ≤ 3 ∧ i = .int .i64 k ∧ q = .bool (okF p0 p1 p2 k) ∧ Hid (Z3 wr bp (.int .i64 (pf k l0 p0 0)) (.int .i64 (pf k l1 p1 1)) (.int .i64 (pf k l2 p2 2))) ∧ Hid (Z3 wr bc (.int .u8 (pf k 0 c0 0)) (.int .u8 (pf k 0 c1 1)) (.int .u8 (pf k 0 c2 2))) ∧ Hid (Below w4.heap.size w4 wr))
  case atStart => exact ⟨0, rfl, by decide, rfl, rfl, HZP, HZC, HBE⟩
  case round =>
    obtain ⟨k, hgk, hk3, rfl, rfl, HP, HC, HB⟩ := hrel
    obtain ⟨wo, rfl⟩ : ∃ wo : World, wo = wr := ⟨_, rfl⟩
    clear HZP HZC HBE
    have hc : k = 0 ∨ k = 1 ∨ k = 2 ∨ k = 3 := by omega
    rcases hc with rfl | rfl | rfl | rfl
    · obtain ⟨m0, m1, m2, m3, m4, m5, v0, v1, v2⟩ := HM.out
      have hP0 : Z3 wo bp (.int .i64 l0) (.int .i64 l1) (.int .i64 l2) := HP.out
      have hC0 : Z3 wo bc (.int .u8 0) (.int .u8 0) (.int .u8 0) := HC.out
      have HP0 := Lib.hid hP0
      have HC0 := Lib.hid hC0
      obtain ⟨hbp, ⟨x0, x1, x2⟩, xf⟩ := hP0
      obtain ⟨hbc, ⟨y0, y1, y2⟩, yf⟩ := hC0
      obtain ⟨hne, _⟩ := HNE.out
      have hne' := Ne.symm hne
      clear HM HP HC
      go_wp2
      have HPN := Lib.hid ((HP0.out.put0 (.int .i64 p0)).same (w' := (wo.setCell ⟨bp, 0, none⟩ (.int .i64 p0)).setCell ⟨bc, 0, none⟩ (.int .u8 c0)) (by simp) (Below.heap_setCell _ _ _ _ hne))
      have HCN := Lib.hid ((HC0.out.same (w' := wo.setCell ⟨bp, 0, none⟩ (.int .i64 p0)) (by simp) (Below.heap_setCell _ _ _ _ hne')).put0 (.int .u8 c0))
      have HBN := Lib.hid (HB.out.trans (((But.set wo bp 0 (.int .i64 p0)).below (C := w4.heap.size) HG.out.1 HB.out.size).trans ((But.set (wo.setCell ⟨bp, 0, none⟩ (.int .i64 p0)) bc 0 (.int .u8 c0)).below (C := w4.heap.size) HG.out.2 (by simpa using HB.out.size))))
      go_roundg (gk - 1)
      case rel => exact ⟨1, by omega, by omega, by go_num, rfl, HPN, HCN, HBN⟩
      case measure => omega
    · obtain ⟨m0, m1, m2, m3, m4, m5, v0, v1, v2⟩ := HM.out
      have hP0 : Z3 wo bp (.int .i64 p0) (.int .i64 l1) (.int .i64 l2) := HP.out
      have hC0 : Z3 wo bc (.int .u8 c0) (.int .u8 0) (.int .u8 0) := HC.out
      have HP0 := Lib.hid hP0
      have HC0 := Lib.hid hC0
      obtain ⟨hbp, ⟨x0, x1, x2⟩, xf⟩ := hP0
      obtain ⟨hbc, ⟨y0, y1, y2⟩, yf⟩ := hC0
      obtain ⟨hne, _⟩ := HNE.out
      have hne' := Ne.symm hne
      clear HM HP HC
      cases hq : okF p0 p1 p2 1 with
      | false =>
        go_wp2
        have HPN := Lib.hid ((HP0.out.put1 (.int .i64 p1)).same (w' := (wo.setCell ⟨bp, 1, none⟩ (.int .i64 p1)).setCell ⟨bc, 1, none⟩ (.int .u8 c1)) (by simp) (Below.heap_setCell _ _ _ _ hne))
        have HCN := Lib.hid ((HC0.out.same (w' := wo.setCell ⟨bp, 1, none⟩ (.int .i64 p1)) (by simp) (Below.heap_setCell _ _ _ _ hne')).put1 (.int .u8 c1))
        have HBN := Lib.hid (HB.out.trans (((But.set wo bp 1 (.int .i64 p1)).below (C := w4.heap.size) HG.out.1 HB.out.size).trans ((But.set (wo.setCell ⟨bp, 1, none⟩ (.int .i64 p1)) bc 1 (.int .u8 c1)).below (C := w4.heap.size) HG.out.2 (by simpa using HB.out.size))))
        go_roundg (gk - 1)
        case rel => exact ⟨2, by omega, by omega, by go_num, by rw [okF_1, hq, Bool.false_and], HPN, HCN, HBN⟩
        case measure => omega
      | true =>
        go_wp2
        have HPN := Lib.hid ((HP0.out.put1 (.int .i64 p1)).same (w' := (wo.setCell ⟨bp, 1, none⟩ (.int .i64 p1)).setCell ⟨bc, 1, none⟩ (.int .u8 c1)) (by simp) (Below.heap_setCell _ _ _ _ hne))
        have HCN := Lib.hid ((HC0.out.same (w' := wo.setCell ⟨bp, 1, none⟩ (.int .i64 p1)) (by simp) (Below.heap_setCell _ _ _ _ hne')).put1 (.int .u8 c1))
        have HBN := Lib.hid (HB.out.trans (((But.set wo bp 1 (.int .i64 p1)).below (C := w4.heap.size) HG.out.1 HB.out.size).trans ((But.set (wo.setCell ⟨bp, 1, none⟩ (.int .i64 p1)) bc 1 (.int .u8 c1)).below (C := w4.heap.size) HG.out.2 (by simpa using HB.out.size))))
        go_roundg (gk - 1)
        case rel => exact ⟨2, by omega, by omega, by go_num, by rw [okF_1, hq, Bool.true_and], HPN, HCN, HBN⟩
        case measure => omega
    · obtain ⟨m0, m1, m2, m3, m4, m5, v0, v1, v2⟩ := HM.out
      have hP0 : Z3 wo bp (.int .i64 p0) (.int .i64 p1) (.int .i64 l2) := HP.out
      have hC0 : Z3 wo bc (.int .u8 c0) (.int .u8 c1) (.int .u8 0) := HC.out
      have HP0 := Lib.hid hP0
      have HC0 := Lib.hid hC0
      obtain ⟨hbp, ⟨x0, x1, x2⟩, xf⟩ := hP0
      obtain ⟨hbc, ⟨y0, y1, y2⟩, yf⟩ := hC0
      obtain ⟨hne, _⟩ := HNE.out
      have hne' := Ne.symm hne
      clear HM HP HC
      cases hq : okF p0 p1 p2 2 with
      | false =>
        go_wp2
        have HPN := Lib.hid ((HP0.out.put2 (.int .i64 p2)).same (w' := (wo.setCell ⟨bp, 2, none⟩ (.int .i64 p2)).setCell ⟨bc, 2, none⟩ (.int .u8 c2)) (by simp) (Below.heap_setCell _ _ _ _ hne))
        have HCN := Lib.hid ((HC0.out.same (w' := wo.setCell ⟨bp, 2, none⟩ (.int .i64 p2)) (by simp) (Below.heap_setCell _ _ _ _ hne')).put2 (.int .u8 c2))
        have HBN := Lib.hid (HB.out.trans (((But.set wo bp 2 (.int .i64 p2)).below (C := w4.heap.size) HG.out.1 HB.out.size).trans ((But.set (wo.setCell ⟨bp, 2, none⟩ (.int .i64 p2)) bc 2 (.int .u8 c2)).below (C := w4.heap.size) HG.out.2 (by simpa using HB.out.size))))
        go_roundg (gk - 1)
        case rel => exact ⟨3, by omega, by omega, by go_num, by rw [okF_2, hq, Bool.false_and], HPN, HCN, HBN⟩
        case measure => omega
      | true =>
        go_wp2
        have HPN := Lib.hid ((HP0.out.put2 (.int .i64 p2)).same (w' := (wo.setCell ⟨bp, 2, none⟩ (.int .i64 p2)).setCell ⟨bc, 2, none⟩ (.int .u8 c2)) (by simp) (Below.heap_setCell _ _ _ _ hne))
        have HCN := Lib.hid ((HC0.out.same (w' := wo.setCell ⟨bp, 2, none⟩ (.int .i64 p2)) (by simp) (Below.heap_setCell _ _ _ _ hne')).put2 (.int .u8 c2))
        have HBN := Lib.hid (HB.out.trans (((But.set wo bp 2 (.int .i64 p2)).below (C := w4.heap.size) HG.out.1 HB.out.size).trans ((But.set (wo.setCell ⟨bp, 2, none⟩ (.int .i64 p2)) bc 2 (.int .u8 c2)).below (C := w4.heap.size) HG.out.2 (by simpa using HB.out.size))))
        go_roundg (gk - 1)
        case rel => exact ⟨3, by omega, by omega, by go_num, by rw [okF_2, hq, Bool.true_and], HPN, HCN, HBN⟩
        case measure => omega
    · obtain ⟨q, hq⟩ : ∃ q, q = okF p0 p1 p2 3 := ⟨_, rfl⟩
      rw [← hq]
      have HP3 := Lib.hid (show Z3 wo bp (.int .i64 p0) (.int .i64 p1) (.int .i64 p2) from HP.out)
      have HC3 := Lib.hid (show Z3 wo bc (.int .u8 c0) (.int .u8 c1) (.int .u8 c2) from HC.out)
      have HQY := Lib.hid (show q = true → c3M p0 p1 p2 = some ⟨2, c0, c1, c2⟩ from fun h => c3_of HQC.out (hq ▸ h))
      have HQN := Lib.hid (show q = false → c3M p0 p1 p2 = none from fun h => c3_no (hq ▸ h))
      have HCB := Lib.hid (show (p0 ≤ 255 → c1M p0 = some ⟨1, c0, 0, 0⟩) ∧ (¬ p0 ≤ 255 → c1M p0 = none) from ⟨fun h => by unfold c1M; rw [if_pos h, HQC.out.1 h], fun h => by unfold c1M; rw [if_neg h]⟩)
      clear hq HP HC HM HQC hgk hk3 HG
      obtain ⟨w8, hw8⟩ : ∃ w8, w8 = wo.alloc (.cells #[.int .i64 (n : Nat)] 3) := ⟨_, rfl⟩
      have b8 : Below wo.heap.size wo w8 := by rw [hw8]; exact (Below.refl _ _).alloc (Nat.le_refl _) _
      have HN8 := Lib.hid (show NumsAt w8 (fun _ => True) (.slice (some ⟨wo.heap.size, 0, none⟩) 1 1) [(n : Int)] by rw [hw8]; exact nums_lit wo [(n : Int)] 1 wo.heap.size rfl rfl (by simp))
      have HP8 := Lib.hid (HP3.out.below b8)
      have HC8 := Lib.hid (HC3.out.below b8)
      have HB8 := Lib.hid (HB.out.trans (b8.mono HB.out.size))
      obtain ⟨tb0, htb0⟩ : ∃ b, b = wo.heap.size := ⟨_, rfl⟩
      rw [← htb0] at HN8
      obtain ⟨m, hm⟩ : ∃ m, m = if n = 38 ∨ n = 48 then 1 else n := ⟨_, rfl⟩
      have HMN := Lib.hid hm
      have hm256 : m < 256 := by rw [hm]; split <;> omega
      go_upto_region 14 with (fail)
      rw [← hw8, ← htb0]
      clear hw8 htb0 b8 HP3 HC3 HB hm
      obtain ⟨b67, hb67⟩ : ∃ b : Bool, b = decide (n = 38 ∨ n = 48) := ⟨_, rfl⟩
      have HB67 := Lib.hid hb67
      clear hb67
      go_cut [67] (fun v wc => v = .bool b67 ∧ Hid (wc = w8))
      case first => as_aux_lemma =>
        by_cases h38 : n = 38
        · have f1 : ((n : Int) == 38) = true := by simp; omega
          have hb : b67 = true := by rw [HB67.out, decide_eq_true (.inl h38)]
          clear h38
          go_wp2
          go_meet
          case rel => exact ⟨by rw [hb], Lib.hid rfl⟩
        · have f1 : ((n : Int) == 38) = false := by simp; omega
          by_cases h48 : n = 48
          · have f2 : ((n : Int) == 48) = true := by simp; omega
            have hb : b67 = true := by rw [HB67.out, decide_eq_true (.inr h48)]
            clear h38 h48
            go_wp2
            go_meet
            case rel => exact ⟨by rw [hb], Lib.hid rfl⟩
          · have f2 : ((n : Int) == 48) = false := by simp; omega
            have hb : b67 = false := by rw [HB67.out, decide_eq_false (by omega)]
            clear h38 h48
            go_wp2
            go_meet
            case rel => exact ⟨by rw [hb], Lib.hid rfl⟩
      case rest =>
      obtain ⟨rfl, hwc⟩ := hcut
      have hwc' := hwc.out.symm
      subst hwc'
      go_upto_if 67 with (fail)
      go_cut [12] (fun v wc => ∃ b, v = .slice (some ⟨b, 0, none⟩) 1 1 ∧ Hid (NumsAt wc (fun _ => True) (.slice (some ⟨b, 0, none⟩) 1 1) [(m : Int)]) ∧ Hid (Below w8.heap.size w8 wc))
      case first => as_aux_lemma =>
        have HL1 := Lib.hid (nums_lit w8 [1] 1 w8.heap.size rfl rfl (by simp))
        have HB1' := Lib.hid (show Below w8.heap.size w8 (w8.alloc (.cells #[.int .i64 1] 3)) from (Below.refl _ _).alloc (Nat.le_refl _) _)
        cases hb : b67 with
        | true =>
          have hm1 : m = 1 := by rw [HMN.out, if_pos (of_decide_eq_true (HB67.out.symm.trans hb))]
          go_wp2
          go_meet
          case rel => exact ⟨_, rfl, by rw [hm1]; exact HL1, HB1'⟩
        | false =>
          have hm1 : m = n := by rw [HMN.out, if_neg (of_decide_eq_false (HB67.out.symm.trans hb))]
          go_wp2
          go_meet
          case rel => exact ⟨_, rfl, by rw [hm1]; exact HN8, Lib.hid (Below.refl _ _)⟩
      case rest =>
        obtain ⟨tb, rfl, HN, HB9⟩ := hcut
        obtain ⟨w9, rfl⟩ : ∃ w9 : World, w9 = wc := ⟨_, rfl⟩
        have HP9 := Lib.hid (HP8.out.below HB9.out)
        have HC9 := Lib.hid (HC8.out.below HB9.out)
        have HW9 := Lib.hid (HB8.out.trans (HB9.out.mono HB8.out.size))
        have HA9 := Lib.hid (HA4.out.below HW9.out)
        have HF9 := Lib.hid (HB1.out.trans ((HW4.out.trans (HW9.out.mono HW4.out.size)).mono HB1.out.size))
        clear HN8 HP8 HC8 HB8 HB9 HW9 HA4 HA6 HW6 HMN HNE HW4 HB1
        have HW0 := Lib.hid (Below.refl w9.heap.size w9)
        go_wp2
        go_loopg [70] 3 (fun gq i wr => ∃ k : Nat, gq + k = 3 ∧ k ≤ 2 ∧ i = .int .i64 k ∧ Hid (Below w9.heap.size w9 wr))
        case atStart => exact ⟨0, rfl, by decide, rfl, HW0⟩
        case round =>
          obtain ⟨k, hgk, hk2, rfl, HWR⟩ := hrel
          obtain ⟨w10, rfl⟩ : ∃ w10 : World, w10 = wr := ⟨_, rfl⟩
          clear HW0
          by_cases hlt : k < 2
          · have hlti : decide ((k : Int) < 2) = true := by simp; omega
            have hk1 : IntKind.i64.wrap ((k : Int) + 1) = (k : Int) + 1 := by rw [IntKind.wrap_i64]; omega
            obtain ⟨bg, hidx, e38, e48⟩ : ∃ bg, (∀ w, (Instr.index 57 (.agg #[.int .i64 38, .int .i64 48]) (.int .i64 (k : Int))).run Tryd.prog w = .ok (.int .i64 (whI bg)) w) ∧ ((whI bg == 38) = !bg) ∧ ((whI bg == 48) = bg) := by
              have hc : k = 0 ∨ k = 1 := by omega
              rcases hc with rfl | rfl
              · exact ⟨false, idx38, rfl, rfl⟩
              · exact ⟨true, idx48, rfl, rfl⟩
            obtain ⟨wh, hwh⟩ : ∃ wh, wh = whI bg := ⟨_, rfl⟩
            have HWH := Lib.hid hwh
            rw [← hwh] at hidx e38 e48
            have HE38 := Lib.hid e38
            have HE48 := Lib.hid e48
            clear hwh e38 e48
            obtain ⟨w11, hw11⟩ : ∃ w11, w11 = (w10.alloc (.cells #[.int .u8 a.fg.k, .int .u8 a.fg.r, .int .u8 a.fg.g, .int .u8 a.fg.b, .int .u8 a.bg.k, .int .u8 a.bg.r, .int .u8 a.bg.g, .int .u8 a.bg.b, .int .u16 (a.fl : Nat)] 26)).alloc (.cells #[.int .u8 a.fg.k, .int .u8 a.fg.r, .int .u8 a.fg.g, .int .u8 a.fg.b, .int .u8 a.bg.k, .int .u8 a.bg.r, .int .u8 a.bg.g, .int .u8 a.bg.b, .int .u16 (a.fl : Nat)] 26) := ⟨_, rfl⟩
            obtain ⟨t, ht⟩ : ∃ t, t = w10.heap.size := ⟨_, rfl⟩
            obtain ⟨o, ho⟩ : ∃ o, o = w10.heap.size + 1 := ⟨_, rfl⟩
            have hAt : AtAt w11 t a := by rw [hw11, ht]; exact (AtAt.newAt w10 _ rfl a _).past _
            have hAo : AtAt w11 o a := by rw [hw11, ho]; exact AtAt.newAt _ _ (by simp) a _
            have b11 : Below w10.heap.size w10 w11 := by rw [hw11]; exact ((Below.refl _ _).alloc (Nat.le_refl _) _).alloc (by simp) _
            have HTO := Lib.hid (show t ≠ o ∧ w10.heap.size ≤ t ∧ w10.heap.size ≤ o from ⟨by omega, by omega, by omega⟩)
            have HT0 := Lib.hid (show TW w10 w11 t o a a from ⟨hAt, hAo, b11⟩)
            obtain ⟨_, ⟨y1, y2, y3, y4, y5, y6, y7, y8, y9⟩, yf⟩ := HA9.out.below HWR.out
            go_upto_region 21 with (fail)
            rw [← hw11, ← ho, ← ht]
            clear hw11 ht ho hAt hAo b11 hidx y1 y2 y3 y4 y5 y6 y7 y8 y9 yf
            obtain ⟨A1, hA1⟩ : ∃ A, A = if bg then a else a.setC bg (c3M p0 p1 p2) := ⟨_, rfl⟩
            obtain ⟨A2, hA2⟩ : ∃ A, A = a.setC bg (c3M p0 p1 p2) := ⟨_, rfl⟩
            obtain ⟨B1, hB1⟩ : ∃ A, A = if bg then a else a.setC bg (c1M p0) := ⟨_, rfl⟩
            obtain ⟨B2, hB2⟩ : ∃ A, A = a.setC bg (c1M p0) := ⟨_, rfl⟩
            have HA1 := Lib.hid hA1
            have HA2 := Lib.hid hA2
            have HB1 := Lib.hid hB1
            have HB2 := Lib.hid hB2
            clear hA1 hA2 hB1 hB2
            obtain ⟨b79, hb79⟩ : ∃ b : Bool, b = (q && !bg) := ⟨_, rfl⟩
            have HB79 := Lib.hid hb79
            clear hb79
            go_cut [79] (fun v wc => v = .bool b79 ∧ Hid (wc = w11))
            case first => as_aux_lemma =>
              have e38 : (wh == 38) = !bg := HE38.out
              cases q with
              | false =>
                go_wp2
                go_meet
                case rel => exact ⟨by rw [HB79.out]; rfl, Lib.hid rfl⟩
              | true =>
                go_wp2
                go_meet
                case rel => exact ⟨by rw [HB79.out]; rfl, Lib.hid rfl⟩
            case rest =>
            obtain ⟨rfl, hwc⟩ := hcut
            have hwc' := hwc.out.symm
            subst hwc'
            go_upto_if 79 with (fail)
            go_cut [15] (fun v wc => v = .pointer (some ⟨t, 0, none⟩) ∧ Hid (TW w10 wc t o A1 a))
            case first => as_aux_lemma =>
              cases hb : b79 with
              | false =>
                have hbb := HB79.out.symm.trans hb
                have hsame : A1 = a := by
                  cases bg with
                  | true => rw [HA1.out]; rfl
                  | false => rw [HA1.out, HQN.out (by simpa using hbb)]; rfl
                have HTN := Lib.hid (show TW w10 w11 t o A1 a by rw [hsame]; exact HT0.out)
                clear hsame hbb
                go_wp2
                go_meet
                case rel => exact ⟨rfl, HTN⟩
              | true =>
                obtain ⟨hq1, hbg⟩ : q = true ∧ bg = false := by have := HB79.out.symm.trans hb; simpa using this
                have hnew : A1 = { a with fg := ⟨2, c0, c1, c2⟩ } := by rw [HA1.out, hbg, HQY.out hq1]; rfl
                clear hq1 hbg
                obtain ⟨hbc, ⟨z0, z1, z2⟩, zf⟩ := (HC9.out.below HWR.out).below HT0.out.2.2
                go_wp2_with fail
                refine (rgb_any c0 c1 c2 _).mono ?_
                rintro e wk ⟨rfl, bk⟩
                have HTk := Lib.hid (show TW w10 wk t o a a from ⟨HT0.out.1.below bk, HT0.out.2.1.below bk, HT0.out.2.2.trans (bk.mono HT0.out.2.2.size)⟩)
                clear bk hbc z0 z1 z2 zf
                obtain ⟨wj, hwj⟩ : ∃ wj, wj = putC wk t 0 ⟨2, c0, c1, c2⟩ := ⟨_, rfl⟩
                have hwj' := hwj
                simp only [putC, Nat.zero_add] at hwj'
                have HTN := Lib.hid (show TW w10 wj t o A1 a from ⟨by rw [hwj, hnew]; exact HTk.out.1.putFg ⟨2, c0, c1, c2⟩, by rw [hwj]; exact HTk.out.2.1.same (by rw [putC_size]; exact Nat.le_refl _) (putC_heap wk t 0 o _ (by have := HTO.out.1; omega)), by rw [hwj]; exact HTk.out.2.2.trans ((putC_but wk t 0 ⟨2, c0, c1, c2⟩).below (C := w10.heap.size) HTO.out.2.1 HTk.out.2.2.size)⟩)
                clear hwj hnew
                obtain ⟨_, ⟨y1, y2, y3, y4, y5, y6, y7, y8, y9⟩, yf⟩ := HTk.out.1
                go_wp2
                rw [← hwj']
                go_meet
                case rel => exact ⟨rfl, HTN⟩
            case rest =>
            obtain ⟨rfl, HT1⟩ := hcut
            obtain ⟨w12, rfl⟩ : ∃ w12 : World, w12 = wc := ⟨_, rfl⟩
            clear HT0 HB79
            go_upto_region 23 with (fail)
            obtain ⟨b92, hb92⟩ : ∃ b : Bool, b = (q && bg) := ⟨_, rfl⟩
            have HB92 := Lib.hid hb92
            clear hb92
            go_cut [92] (fun v wc => v = .bool b92 ∧ Hid (wc = w12))
            case first => as_aux_lemma =>
              have e48 : (wh == 48) = bg := HE48.out
              cases q with
              | false =>
                go_wp2
                go_meet
                case rel => exact ⟨by rw [HB92.out]; rfl, Lib.hid rfl⟩
              | true =>
                go_wp2
                go_meet
                case rel => exact ⟨by rw [HB92.out]; rfl, Lib.hid rfl⟩
            case rest =>
            obtain ⟨rfl, hwc⟩ := hcut
            have hwc' := hwc.out.symm
            subst hwc'
            go_upto_if 92 with (fail)
            go_cut [15] (fun v wc => v = .pointer (some ⟨t, 0, none⟩) ∧ Hid (TW w10 wc t o A2 a))
            case first => as_aux_lemma =>
              cases hb : b92 with
              | false =>
                have hbb := HB92.out.symm.trans hb
                have hsame : A2 = A1 := by
                  cases bg with
                  | false => rw [HA2.out, HA1.out]; rfl
                  | true => rw [HA2.out, HA1.out, HQN.out (by simpa using hbb)]; rfl
                have HTN := Lib.hid (show TW w10 w12 t o A2 a by rw [hsame]; exact HT1.out)
                clear hsame hbb
                go_wp2
                go_meet
                case rel => exact ⟨rfl, HTN⟩
              | true =>
                obtain ⟨hq1, hbg⟩ : q = true ∧ bg = true := by have := HB92.out.symm.trans hb; simpa using this
                have hnew : A2 = { A1 with bg := ⟨2, c0, c1, c2⟩ } := by rw [HA2.out, HA1.out, hbg, HQY.out hq1]; rfl
                clear hq1 hbg
                obtain ⟨hbc, ⟨z0, z1, z2⟩, zf⟩ := (HC9.out.below HWR.out).below HT1.out.2.2
                go_wp2_with fail
                refine (rgb_any c0 c1 c2 _).mono ?_
                rintro e wk ⟨rfl, bk⟩
                have HTk := Lib.hid (show TW w10 wk t o A1 a from ⟨HT1.out.1.below bk, HT1.out.2.1.below bk, HT1.out.2.2.trans (bk.mono HT1.out.2.2.size)⟩)
                clear bk hbc z0 z1 z2 zf
                obtain ⟨wj, hwj⟩ : ∃ wj, wj = putC wk t 4 ⟨2, c0, c1, c2⟩ := ⟨_, rfl⟩
                have hwj' := hwj
                simp only [putC, Nat.reduceAdd] at hwj'
                have HTN := Lib.hid (show TW w10 wj t o A2 a from ⟨by rw [hwj, hnew]; exact HTk.out.1.putBg ⟨2, c0, c1, c2⟩, by rw [hwj]; exact HTk.out.2.1.same (by rw [putC_size]; exact Nat.le_refl _) (putC_heap wk t 4 o _ (by have := HTO.out.1; omega)), by rw [hwj]; exact HTk.out.2.2.trans ((putC_but wk t 4 ⟨2, c0, c1, c2⟩).below (C := w10.heap.size) HTO.out.2.1 HTk.out.2.2.size)⟩)
                clear hwj hnew
                obtain ⟨_, ⟨y1, y2, y3, y4, y5, y6, y7, y8, y9⟩, yf⟩ := HTk.out.1
                go_wp2
                rw [← hwj']
                go_meet
                case rel => exact ⟨rfl, HTN⟩
            case rest =>
            obtain ⟨rfl, HT2⟩ := hcut
            obtain ⟨w13, rfl⟩ : ∃ w13 : World, w13 = wc := ⟨_, rfl⟩
            clear HT1 HB92
            go_upto_region 25 with (fail)
            obtain ⟨b108, hb108⟩ : ∃ b : Bool, b = (decide (p0 ≤ 255) && !bg) := ⟨_, rfl⟩
            have HB108 := Lib.hid hb108
            clear hb108
            go_cut [108] (fun v wc => v = .bool b108 ∧ Hid (wc = w13))
            case first => as_aux_lemma =>
              have e38 : (wh == 38) = !bg := HE38.out
              obtain ⟨hbp, ⟨x0, x1, x2⟩, xf⟩ := (HP9.out.below HWR.out).below HT2.out.2.2
              by_cases h0 : p0 ≤ 255
              · have d0 : decide (p0 ≤ 255) = true := by simp; omega
                go_wp2
                go_meet
                case rel => exact ⟨by rw [HB108.out]; rw [d0]; rfl, Lib.hid rfl⟩
              · have d0 : decide (p0 ≤ 255) = false := by simp; omega
                go_wp2
                go_meet
                case rel => exact ⟨by rw [HB108.out]; rw [d0]; rfl, Lib.hid rfl⟩
            case rest =>
            obtain ⟨rfl, hwc⟩ := hcut
            have hwc' := hwc.out.symm
            subst hwc'
            go_upto_if 108 with (fail)
            go_cut [16] (fun v wc => v = .pointer (some ⟨o, 0, none⟩) ∧ Hid (TW w10 wc t o A2 B1))
            case first => as_aux_lemma =>
              cases hb : b108 with
              | false =>
                have hbb := HB108.out.symm.trans hb
                have hsame : B1 = a := by
                  cases bg with
                  | true => rw [HB1.out]; rfl
                  | false => rw [HB1.out, HCB.out.2 (by simpa using hbb)]; rfl
                have HTN := Lib.hid (show TW w10 w13 t o A2 B1 by rw [hsame]; exact HT2.out)
                clear hsame hbb
                go_wp2
                go_meet
                case rel => exact ⟨rfl, HTN⟩
              | true =>
                obtain ⟨hq1', hbg⟩ : p0 ≤ 255 ∧ bg = false := by have := HB108.out.symm.trans hb; simpa using this
                have hnew : B1 = { a with fg := ⟨1, c0, 0, 0⟩ } := by rw [HB1.out, hbg, HCB.out.1 hq1']; rfl
                clear hq1' hbg
                obtain ⟨hbc, ⟨z0, z1, z2⟩, zf⟩ := (HC9.out.below HWR.out).below HT2.out.2.2
                go_wp2_with fail
                refine (index_any c0 _).mono ?_
                rintro e wk ⟨rfl, bk⟩
                have HTk := Lib.hid (show TW w10 wk t o A2 a from ⟨HT2.out.1.below bk, HT2.out.2.1.below bk, HT2.out.2.2.trans (bk.mono HT2.out.2.2.size)⟩)
                clear bk hbc z0 z1 z2 zf
                obtain ⟨wj, hwj⟩ : ∃ wj, wj = putC wk o 0 ⟨1, c0, 0, 0⟩ := ⟨_, rfl⟩
                have hwj' := hwj
                simp only [putC, Nat.zero_add] at hwj'
                have HTN := Lib.hid (show TW w10 wj t o A2 B1 from ⟨by rw [hwj]; exact HTk.out.1.same (by rw [putC_size]; exact Nat.le_refl _) (putC_heap wk o 0 t _ (by have := HTO.out.1; omega)), by rw [hwj, hnew]; exact HTk.out.2.1.putFg ⟨1, c0, 0, 0⟩, by rw [hwj]; exact HTk.out.2.2.trans ((putC_but wk o 0 ⟨1, c0, 0, 0⟩).below (C := w10.heap.size) HTO.out.2.2 HTk.out.2.2.size)⟩)
                clear hwj hnew
                obtain ⟨_, ⟨y1, y2, y3, y4, y5, y6, y7, y8, y9⟩, yf⟩ := HTk.out.2.1
                go_wp2
                rw [← hwj']
                go_meet
                case rel => exact ⟨rfl, HTN⟩
            case rest =>
            obtain ⟨rfl, HT3⟩ := hcut
            obtain ⟨w14, rfl⟩ : ∃ w14 : World, w14 = wc := ⟨_, rfl⟩
            clear HT2 HB108
            go_upto_region 27 with (fail)
            obtain ⟨b120, hb120⟩ : ∃ b : Bool, b = (decide (p0 ≤ 255) && bg) := ⟨_, rfl⟩
            have HB120 := Lib.hid hb120
            clear hb120
            go_cut [120] (fun v wc => v = .bool b120 ∧ Hid (wc = w14))
            case first => as_aux_lemma =>
              have e48 : (wh == 48) = bg := HE48.out
              obtain ⟨hbp, ⟨x0, x1, x2⟩, xf⟩ := (HP9.out.below HWR.out).below HT3.out.2.2
              by_cases h0 : p0 ≤ 255
              · have d0 : decide (p0 ≤ 255) = true := by simp; omega
                go_wp2
                go_meet
                case rel => exact ⟨by rw [HB120.out]; rw [d0]; rfl, Lib.hid rfl⟩
              · have d0 : decide (p0 ≤ 255) = false := by simp; omega
                go_wp2
                go_meet
                case rel => exact ⟨by rw [HB120.out]; rw [d0]; rfl, Lib.hid rfl⟩
            case rest =>
            obtain ⟨rfl, hwc⟩ := hcut
            have hwc' := hwc.out.symm
            subst hwc'
            go_upto_if 120 with (fail)
            go_cut [16] (fun v wc => v = .pointer (some ⟨o, 0, none⟩) ∧ Hid (TW w10 wc t o A2 B2))
            case first => as_aux_lemma =>
              cases hb : b120 with
              | false =>
                have hbb := HB120.out.symm.trans hb
                have hsame : B2 = B1 := by
                  cases bg with
                  | false => rw [HB2.out, HB1.out]; rfl
                  | true => rw [HB2.out, HB1.out, HCB.out.2 (by simpa using hbb)]; rfl
                have HTN := Lib.hid (show TW w10 w14 t o A2 B2 by rw [hsame]; exact HT3.out)
                clear hsame hbb
                go_wp2
                go_meet
                case rel => exact ⟨rfl, HTN⟩
              | true =>
                obtain ⟨hq1', hbg⟩ : p0 ≤ 255 ∧ bg = true := by have := HB120.out.symm.trans hb; simpa using this
                have hnew : B2 = { B1 with bg := ⟨1, c0, 0, 0⟩ } := by rw [HB2.out, HB1.out, hbg, HCB.out.1 hq1']; rfl
                clear hq1' hbg
                obtain ⟨hbc, ⟨z0, z1, z2⟩, zf⟩ := (HC9.out.below HWR.out).below HT3.out.2.2
                go_wp2_with fail
                refine (index_any c0 _).mono ?_
                rintro e wk ⟨rfl, bk⟩
                have HTk := Lib.hid (show TW w10 wk t o A2 B1 from ⟨HT3.out.1.below bk, HT3.out.2.1.below bk, HT3.out.2.2.trans (bk.mono HT3.out.2.2.size)⟩)
                clear bk hbc z0 z1 z2 zf
                obtain ⟨wj, hwj⟩ : ∃ wj, wj = putC wk o 4 ⟨1, c0, 0, 0⟩ := ⟨_, rfl⟩
                have hwj' := hwj
                simp only [putC, Nat.reduceAdd] at hwj'
                have HTN := Lib.hid (show TW w10 wj t o A2 B2 from ⟨by rw [hwj]; exact HTk.out.1.same (by rw [putC_size]; exact Nat.le_refl _) (putC_heap wk o 4 t _ (by have := HTO.out.1; omega)), by rw [hwj, hnew]; exact HTk.out.2.1.putBg ⟨1, c0, 0, 0⟩, by rw [hwj]; exact HTk.out.2.2.trans ((putC_but wk o 4 ⟨1, c0, 0, 0⟩).below (C := w10.heap.size) HTO.out.2.2 HTk.out.2.2.size)⟩)
                clear hwj hnew
                obtain ⟨_, ⟨y1, y2, y3, y4, y5, y6, y7, y8, y9⟩, yf⟩ := HTk.out.2.1
                go_wp2
                rw [← hwj']
                go_meet
                case rel => exact ⟨rfl, HTN⟩
            case rest =>
            obtain ⟨rfl, HT4⟩ := hcut
            obtain ⟨w15, rfl⟩ : ∃ w15 : World, w15 = wc := ⟨_, rfl⟩
            clear HT3 HB120
            clear HQY HQN HCB HC9 HE38 HE48 HA1 HB1
            obtain ⟨A3, hA3⟩ : ∃ A, A = simpleM A2 m := ⟨_, rfl⟩
            obtain ⟨B3, hB3⟩ : ∃ A, A = simpleM B2 m := ⟨_, rfl⟩
            have HO2 := Lib.hid (show A2.ok by rw [HA2.out]; exact setC_ok HOA.out bg (fun _ h => c3_ok h))
            have HO2' := Lib.hid (show B2.ok by rw [HB2.out]; exact setC_ok HOA.out bg (fun _ h => c1_ok h))
            have HA3 := Lib.hid (show simpleM (a.setC bg (c3M p0 p1 p2)) m = A3 by rw [hA3, HA2.out])
            have HB3 := Lib.hid (show simpleM (a.setC bg (c1M p0)) m = B3 by rw [hB3, HB2.out])
            have CT := Lib.hid (show ∀ (W : World) (v : Value), MatAt W (fun _ => True) v [[(m : Int)]] → Calls Tryd.prog 12 #[attV A2, v] W fun e w' => e = .returned (attV A3) ∧ Below W.heap.size W w' from fun W v h => by
              have := sgr_any W _ v [[(m : Int)]] A2 HO2.out (rowsI_one m hm256) h
              rw [one_sgr, ← hA3] at this
              exact this)
            have CO := Lib.hid (show ∀ (W : World) (v : Value), MatAt W (fun _ => True) v [[(m : Int)]] → Calls Tryd.prog 12 #[attV B2, v] W fun e w' => e = .returned (attV B3) ∧ Below W.heap.size W w' from fun W v h => by
              have := sgr_any W _ v [[(m : Int)]] B2 HO2'.out (rowsI_one m hm256) h
              rw [one_sgr, ← hB3] at this
              exact this)
            have D1 := Lib.hid (show ∀ (W : World) (v : Value), MatAt W (fun _ => True) v [[wh], [2], [p0], [p1], [p2], [(m : Int)]] → Calls Tryd.prog 12 #[attV a, v] W fun e w' => e = .returned (attV A3) ∧ Below W.heap.size W w' from fun W v h => by
              have hb := HPB.out
              have hw : -100 ≤ wh ∧ wh ≤ 100 := by rw [HWH.out]; unfold whI; cases bg <;> decide
              have := sgr_any W _ v [[wh], [2], [p0], [p1], [p2], [(m : Int)]] a HOA.out (fun r hr x hx => by simp only [List.mem_cons, List.not_mem_nil, or_false] at hr; rcases hr with rfl | rfl | rfl | rfl | rfl | rfl <;> (simp only [List.mem_cons, List.not_mem_nil, or_false] at hx; omega)) h
              rw [show sgrM a [[wh], [2], [p0], [p1], [p2], [(m : Int)]] = A3 by rw [HWH.out, cols_1 a bg m HPB.out.1.1 HPB.out.2.1.1 HPB.out.2.2.1]; exact HA3.out] at this
              exact this)
            have D2 := Lib.hid (show ∀ (W : World) (v : Value), MatAt W (fun _ => True) v [[wh, 2, p0, p1, p2], [(m : Int)]] → Calls Tryd.prog 12 #[attV a, v] W fun e w' => e = .returned (attV A3) ∧ Below W.heap.size W w' from fun W v h => by
              have hb := HPB.out
              have hw : -100 ≤ wh ∧ wh ≤ 100 := by rw [HWH.out]; unfold whI; cases bg <;> decide
              have := sgr_any W _ v [[wh, 2, p0, p1, p2], [(m : Int)]] a HOA.out (fun r hr x hx => by simp only [List.mem_cons, List.not_mem_nil, or_false] at hr; rcases hr with rfl | rfl <;> (simp only [List.mem_cons, List.not_mem_nil, or_false] at hx; omega)) h
              rw [show sgrM a [[wh, 2, p0, p1, p2], [(m : Int)]] = A3 by rw [HWH.out, cols_2 a bg m HPB.out.1.1 HPB.out.2.1.1 HPB.out.2.2.1]; exact HA3.out] at this
              exact this)
            have D3 := Lib.hid (show ∀ (W : World) (v : Value), MatAt W (fun _ => True) v [[wh, 2, 7, p0, p1, p2], [(m : Int)]] → Calls Tryd.prog 12 #[attV a, v] W fun e w' => e = .returned (attV A3) ∧ Below W.heap.size W w' from fun W v h => by
              have hb := HPB.out
              have hw : -100 ≤ wh ∧ wh ≤ 100 := by rw [HWH.out]; unfold whI; cases bg <;> decide
              have := sgr_any W _ v [[wh, 2, 7, p0, p1, p2], [(m : Int)]] a HOA.out (fun r hr x hx => by simp only [List.mem_cons, List.not_mem_nil, or_false] at hr; rcases hr with rfl | rfl <;> (simp only [List.mem_cons, List.not_mem_nil, or_false] at hx; omega)) h
              rw [show sgrM a [[wh, 2, 7, p0, p1, p2], [(m : Int)]] = A3 by rw [HWH.out, cols_3 a bg m HPB.out.1.1 HPB.out.2.1.1 HPB.out.2.2.1]; exact HA3.out] at this
              exact this)
            have D4 := Lib.hid (show ∀ (W : World) (v : Value), MatAt W (fun _ => True) v [[wh], [5], [p0], [(m : Int)]] → Calls Tryd.prog 12 #[attV a, v] W fun e w' => e = .returned (attV B3) ∧ Below W.heap.size W w' from fun W v h => by
              have hb := HPB.out
              have hw : -100 ≤ wh ∧ wh ≤ 100 := by rw [HWH.out]; unfold whI; cases bg <;> decide
              have := sgr_any W _ v [[wh], [5], [p0], [(m : Int)]] a HOA.out (fun r hr x hx => by simp only [List.mem_cons, List.not_mem_nil, or_false] at hr; rcases hr with rfl | rfl | rfl | rfl <;> (simp only [List.mem_cons, List.not_mem_nil, or_false] at hx; omega)) h
              rw [show sgrM a [[wh], [5], [p0], [(m : Int)]] = B3 by rw [HWH.out, cols_4 a bg m HPB.out.1.1]; exact HB3.out] at this
              exact this)
            have D5 := Lib.hid (show ∀ (W : World) (v : Value), MatAt W (fun _ => True) v [[wh, 5, p0], [(m : Int)]] → Calls Tryd.prog 12 #[attV a, v] W fun e w' => e = .returned (attV B3) ∧ Below W.heap.size W w' from fun W v h => by
              have hb := HPB.out
              have hw : -100 ≤ wh ∧ wh ≤ 100 := by rw [HWH.out]; unfold whI; cases bg <;> decide
              have := sgr_any W _ v [[wh, 5, p0], [(m : Int)]] a HOA.out (fun r hr x hx => by simp only [List.mem_cons, List.not_mem_nil, or_false] at hr; rcases hr with rfl | rfl <;> (simp only [List.mem_cons, List.not_mem_nil, or_false] at hx; omega)) h
              rw [show sgrM a [[wh, 5, p0], [(m : Int)]] = B3 by rw [HWH.out, cols_5 a bg m HPB.out.1.1]; exact HB3.out] at this
              exact this)
            clear hA3 hB3 HA2 HB2 HO2 HO2' HA3 HB3 HWH HPB HOA
            have hqa := fun w => (eqAtt w A3 A3).trans (by rw [eqA_self])
            have hqb := fun w => (eqAtt w B3 B3).trans (by rw [eqA_self])
            have HQA := Lib.hid hqa
            have HQB := Lib.hid hqb
            clear hqa hqb
            have HA15 := Lib.hid ((HA9.out.below HWR.out).below HT4.out.2.2)
            have HP15 := Lib.hid ((HP9.out.below HWR.out).below HT4.out.2.2)
            have HN15 := Lib.hid ((HN.out.below HWR.out).below HT4.out.2.2)
            have bmCT : Below w15.heap.size w15 (w15.alloc (.cells #[.slice (some ⟨tb, 0, none⟩) 1 1] 50)) := (Below.refl _ _).alloc (Nat.le_refl _) _
            have HMCT := Lib.hid (mat_lit w15 [.slice (some ⟨tb, 0, none⟩) 1 1] [[(m : Int)]] 1 w15.heap.size rfl rfl rfl (by simp) (fun i hi => by
              obtain rfl : i = 0 := (by simpa using hi)
              exact HN15.out))
            obtain ⟨_, ⟨y1, y2, y3, y4, y5, y6, y7, y8, y9⟩, yf⟩ := HT4.out.1
            go_wp2_with fail
            refine (CT.out _ _ HMCT.out).mono ?_
            rintro e w16a ⟨rfl, bk⟩
            have HBCT := Lib.hid (bmCT.trans (bk.mono bmCT.size))
            clear bk bmCT HMCT y1 y2 y3 y4 y5 y6 y7 y8 y9 yf
            obtain ⟨w16, hwj⟩ : ∃ wj, wj = putA w16a t A3 := ⟨_, rfl⟩
            have hwj' := hwj
            simp only [putA, putC, Nat.zero_add, Nat.reduceAdd] at hwj'
            have HTa := Lib.hid ((HT4.out.1.below HBCT.out))
            have HTb := Lib.hid ((HT4.out.2.1.below HBCT.out))
            have HTc := Lib.hid (HT4.out.2.2.trans (HBCT.out.mono HT4.out.2.2.size))
            have HTw16 := Lib.hid (show TW w10 w16 t o A3 B2 from ⟨by rw [hwj]; exact HTa.out.putA A3, by rw [hwj]; exact HTb.out.same (by rw [putA_size]; exact Nat.le_refl _) (putA_heap w16a t o _ (by have := HTO.out.1; omega)), by rw [hwj]; exact HTc.out.trans ((putA_but w16a t A3).below (C := w10.heap.size) HTO.out.2.1 HTc.out.size)⟩)
            obtain ⟨_, ⟨y1, y2, y3, y4, y5, y6, y7, y8, y9⟩, yf⟩ := HTa.out
            clear hwj HTa HTb HTc HT4 HBCT
            go_upto_region 30 with (fail)
            rw [← hwj']
            clear hwj' y1 y2 y3 y4 y5 y6 y7 y8 y9 yf HA15 HP15 HN15
            have HN16 := Lib.hid ((HN.out.below HWR.out).below HTw16.out.2.2)
            have bmCO : Below w16.heap.size w16 (w16.alloc (.cells #[.slice (some ⟨tb, 0, none⟩) 1 1] 50)) := (Below.refl _ _).alloc (Nat.le_refl _) _
            have HMCO := Lib.hid (mat_lit w16 [.slice (some ⟨tb, 0, none⟩) 1 1] [[(m : Int)]] 1 w16.heap.size rfl rfl rfl (by simp) (fun i hi => by
              obtain rfl : i = 0 := (by simpa using hi)
              exact HN16.out))
            obtain ⟨_, ⟨y1, y2, y3, y4, y5, y6, y7, y8, y9⟩, yf⟩ := HTw16.out.2.1
            go_wp2_with fail
            refine (CO.out _ _ HMCO.out).mono ?_
            rintro e w17a ⟨rfl, bk⟩
            have HBCO := Lib.hid (bmCO.trans (bk.mono bmCO.size))
            clear bk bmCO HMCO y1 y2 y3 y4 y5 y6 y7 y8 y9 yf
            obtain ⟨w17, hwj⟩ : ∃ wj, wj = putA w17a o B3 := ⟨_, rfl⟩
            have hwj' := hwj
            simp only [putA, putC, Nat.zero_add, Nat.reduceAdd] at hwj'
            have HTa := Lib.hid ((HTw16.out.1.below HBCO.out))
            have HTb := Lib.hid ((HTw16.out.2.1.below HBCO.out))
            have HTc := Lib.hid (HTw16.out.2.2.trans (HBCO.out.mono HTw16.out.2.2.size))
            have HTw17 := Lib.hid (show TW w10 w17 t o A3 B3 from ⟨by rw [hwj]; exact HTa.out.same (by rw [putA_size]; exact Nat.le_refl _) (putA_heap w17a o t _ (by have := HTO.out.1; omega)), by rw [hwj]; exact HTb.out.putA B3, by rw [hwj]; exact HTc.out.trans ((putA_but w17a o B3).below (C := w10.heap.size) HTO.out.2.2 HTc.out.size)⟩)
            obtain ⟨_, ⟨y1, y2, y3, y4, y5, y6, y7, y8, y9⟩, yf⟩ := HTb.out
            clear hwj HTa HTb HTc HTw16 HBCO
            go_upto_region 31 with (fail)
            rw [← hwj']
            clear hwj' y1 y2 y3 y4 y5 y6 y7 y8 y9 yf HN16 CT CO
            have HA17 := Lib.hid ((HA9.out.below HWR.out).below HTw17.out.2.2)
            have HP17 := Lib.hid ((HP9.out.below HWR.out).below HTw17.out.2.2)
            have HN17 := Lib.hid ((HN.out.below HWR.out).below HTw17.out.2.2)
            have HW17 := Lib.hid (HWR.out.trans (HTw17.out.2.2.mono HWR.out.size))
            have HKEEP := Lib.hid (show ∀ W : World, Below w17.heap.size w17 W → W.cell? ⟨z, 0, none⟩ = some (.int .u8 a.fg.k) ∧ W.cell? ⟨z, 1, none⟩ = some (.int .u8 a.fg.r) ∧ W.cell? ⟨z, 2, none⟩ = some (.int .u8 a.fg.g) ∧ W.cell? ⟨z, 3, none⟩ = some (.int .u8 a.fg.b) ∧ W.cell? ⟨z, 4, none⟩ = some (.int .u8 a.bg.k) ∧ W.cell? ⟨z, 5, none⟩ = some (.int .u8 a.bg.r) ∧ W.cell? ⟨z, 6, none⟩ = some (.int .u8 a.bg.g) ∧ W.cell? ⟨z, 7, none⟩ = some (.int .u8 a.bg.b) ∧ W.cell? ⟨z, 8, none⟩ = some (.int .u16 (a.fl : Nat)) ∧ W.cell? ⟨t, 0, none⟩ = some (.int .u8 A3.fg.k) ∧ W.cell? ⟨t, 1, none⟩ = some (.int .u8 A3.fg.r) ∧ W.cell? ⟨t, 2, none⟩ = some (.int .u8 A3.fg.g) ∧ W.cell? ⟨t, 3, none⟩ = some (.int .u8 A3.fg.b) ∧ W.cell? ⟨t, 4, none⟩ = some (.int .u8 A3.bg.k) ∧ W.cell? ⟨t, 5, none⟩ = some (.int .u8 A3.bg.r) ∧ W.cell? ⟨t, 6, none⟩ = some (.int .u8 A3.bg.g) ∧ W.cell? ⟨t, 7, none⟩ = some (.int .u8 A3.bg.b) ∧ W.cell? ⟨t, 8, none⟩ = some (.int .u16 (A3.fl : Nat)) ∧ W.cell? ⟨o, 0, none⟩ = some (.int .u8 B3.fg.k) ∧ W.cell? ⟨o, 1, none⟩ = some (.int .u8 B3.fg.r) ∧ W.cell? ⟨o, 2, none⟩ = some (.int .u8 B3.fg.g) ∧ W.cell? ⟨o, 3, none⟩ = some (.int .u8 B3.fg.b) ∧ W.cell? ⟨o, 4, none⟩ = some (.int .u8 B3.bg.k) ∧ W.cell? ⟨o, 5, none⟩ = some (.int .u8 B3.bg.r) ∧ W.cell? ⟨o, 6, none⟩ = some (.int .u8 B3.bg.g) ∧ W.cell? ⟨o, 7, none⟩ = some (.int .u8 B3.bg.b) ∧ W.cell? ⟨o, 8, none⟩ = some (.int .u16 (B3.fl : Nat)) ∧ W.cell? ⟨bp, 0, none⟩ = some (.int .i64 p0) ∧ W.cell? ⟨bp, 1, none⟩ = some (.int .i64 p1) ∧ W.cell? ⟨bp, 2, none⟩ = some (.int .i64 p2) from fun W hb => by
              obtain ⟨a0, ⟨s0, s1, s2, s3, s4, s5, s6, s7, s8⟩, _⟩ := HA17.out
              obtain ⟨a1, ⟨s9, s10, s11, s12, s13, s14, s15, s16, s17⟩, _⟩ := HTw17.out.1
              obtain ⟨a2, ⟨s18, s19, s20, s21, s22, s23, s24, s25, s26⟩, _⟩ := HTw17.out.2.1
              obtain ⟨a3, ⟨s27, s28, s29⟩, _⟩ := HP17.out
              exact ⟨(hb.cell (p := ⟨z, 0, none⟩) a0).trans s0, (hb.cell (p := ⟨z, 1, none⟩) a0).trans s1, (hb.cell (p := ⟨z, 2, none⟩) a0).trans s2, (hb.cell (p := ⟨z, 3, none⟩) a0).trans s3, (hb.cell (p := ⟨z, 4, none⟩) a0).trans s4, (hb.cell (p := ⟨z, 5, none⟩) a0).trans s5, (hb.cell (p := ⟨z, 6, none⟩) a0).trans s6, (hb.cell (p := ⟨z, 7, none⟩) a0).trans s7, (hb.cell (p := ⟨z, 8, none⟩) a0).trans s8, (hb.cell (p := ⟨t, 0, none⟩) a1).trans s9, (hb.cell (p := ⟨t, 1, none⟩) a1).trans s10, (hb.cell (p := ⟨t, 2, none⟩) a1).trans s11, (hb.cell (p := ⟨t, 3, none⟩) a1).trans s12, (hb.cell (p := ⟨t, 4, none⟩) a1).trans s13, (hb.cell (p := ⟨t, 5, none⟩) a1).trans s14, (hb.cell (p := ⟨t, 6, none⟩) a1).trans s15, (hb.cell (p := ⟨t, 7, none⟩) a1).trans s16, (hb.cell (p := ⟨t, 8, none⟩) a1).trans s17, (hb.cell (p := ⟨o, 0, none⟩) a2).trans s18, (hb.cell (p := ⟨o, 1, none⟩) a2).trans s19, (hb.cell (p := ⟨o, 2, none⟩) a2).trans s20, (hb.cell (p := ⟨o, 3, none⟩) a2).trans s21, (hb.cell (p := ⟨o, 4, none⟩) a2).trans s22, (hb.cell (p := ⟨o, 5, none⟩) a2).trans s23, (hb.cell (p := ⟨o, 6, none⟩) a2).trans s24, (hb.cell (p := ⟨o, 7, none⟩) a2).trans s25, (hb.cell (p := ⟨o, 8, none⟩) a2).trans s26, (hb.cell (p := ⟨bp, 0, none⟩) a3).trans s27, (hb.cell (p := ⟨bp, 1, none⟩) a3).trans s28, (hb.cell (p := ⟨bp, 2, none⟩) a3).trans s29⟩)
            clear HA17 HP17 HTw17
            have hqa := HQA.out
            have hqb := HQB.out
            try simp only [List.append]
            have BB : Below w17.heap.size w17 w17.drew := ⟨rfl, rfl, rfl, Nat.le_refl _, fun _ _ => rfl⟩
            refine wp_region_held_drew (S := fun w' => w'.cell? ⟨z, 0, none⟩ = some (.int .u8 a.fg.k) ∧ w'.cell? ⟨z, 1, none⟩ = some (.int .u8 a.fg.r) ∧ w'.cell? ⟨z, 2, none⟩ = some (.int .u8 a.fg.g) ∧ w'.cell? ⟨z, 3, none⟩ = some (.int .u8 a.fg.b) ∧ w'.cell? ⟨z, 4, none⟩ = some (.int .u8 a.bg.k) ∧ w'.cell? ⟨z, 5, none⟩ = some (.int .u8 a.bg.r) ∧ w'.cell? ⟨z, 6, none⟩ = some (.int .u8 a.bg.g) ∧ w'.cell? ⟨z, 7, none⟩ = some (.int .u8 a.bg.b) ∧ w'.cell? ⟨z, 8, none⟩ = some (.int .u16 (a.fl : Nat)) ∧ w'.cell? ⟨t, 0, none⟩ = some (.int .u8 A3.fg.k) ∧ w'.cell? ⟨t, 1, none⟩ = some (.int .u8 A3.fg.r) ∧ w'.cell? ⟨t, 2, none⟩ = some (.int .u8 A3.fg.g) ∧ w'.cell? ⟨t, 3, none⟩ = some (.int .u8 A3.fg.b) ∧ w'.cell? ⟨t, 4, none⟩ = some (.int .u8 A3.bg.k) ∧ w'.cell? ⟨t, 5, none⟩ = some (.int .u8 A3.bg.r) ∧ w'.cell? ⟨t, 6, none⟩ = some (.int .u8 A3.bg.g) ∧ w'.cell? ⟨t, 7, none⟩ = some (.int .u8 A3.bg.b) ∧ w'.cell? ⟨t, 8, none⟩ = some (.int .u16 (A3.fl : Nat)) ∧ w'.cell? ⟨o, 0, none⟩ = some (.int .u8 B3.fg.k) ∧ w'.cell? ⟨o, 1, none⟩ = some (.int .u8 B3.fg.r) ∧ w'.cell? ⟨o, 2, none⟩ = some (.int .u8 B3.fg.g) ∧ w'.cell? ⟨o, 3, none⟩ = some (.int .u8 B3.fg.b) ∧ w'.cell? ⟨o, 4, none⟩ = some (.int .u8 B3.bg.k) ∧ w'.cell? ⟨o, 5, none⟩ = some (.int .u8 B3.bg.r) ∧ w'.cell? ⟨o, 6, none⟩ = some (.int .u8 B3.bg.g) ∧ w'.cell? ⟨o, 7, none⟩ = some (.int .u8 B3.bg.b) ∧ w'.cell? ⟨o, 8, none⟩ = some (.int .u16 (B3.fl : Nat)) ∧ w'.cell? ⟨bp, 0, none⟩ = some (.int .i64 p0) ∧ w'.cell? ⟨bp, 1, none⟩ = some (.int .i64 p1) ∧ w'.cell? ⟨bp, 2, none⟩ = some (.int .i64 p2)) (by kernel_rfl) ?_ (fun hHeld => ?_)
            · exact HKEEP.out _ BB
            obtain ⟨u0, hu0⟩ : ∃ u0, u0 = w17.drew := ⟨_, rfl⟩
            rw [← hu0] at BB hHeld ⊢
            clear hu0
            have HW := Lib.hid BB
            clear BB
            refine take_at (i := 0) (v := ?_) rfl (by as_aux_lemma => kernel_rfl) (by as_aux_lemma => kernel_rfl) (by as_aux_lemma => kernel_rfl) (fun _ _ _ h => h) (by as_aux_lemma => kernel_rfl) (by assumption) ?_ ?_
            rotate_left
            · (intro w hSw; (try dsimp only at hSw); go_simp; try with_reducible rfl)
            simp only [Act.put, List.setIfInBounds_toArray, List.set_cons_zero, List.set_cons_succ]
            refine take_at (i := 1) (v := ?_) rfl (by as_aux_lemma => kernel_rfl) (by as_aux_lemma => kernel_rfl) (by as_aux_lemma => kernel_rfl) (fun _ _ _ h => h) (by as_aux_lemma => kernel_rfl) (by assumption) ?_ ?_
            rotate_left
            · (intro w hSw; (try dsimp only at hSw); go_simp; try with_reducible rfl)
            simp only [Act.put, List.setIfInBounds_toArray, List.set_cons_zero, List.set_cons_succ]
            refine take_at (i := 4) (v := ?_) rfl (by as_aux_lemma => kernel_rfl) (by as_aux_lemma => kernel_rfl) (by as_aux_lemma => kernel_rfl) (fun _ _ _ h => h) (by as_aux_lemma => kernel_rfl) (by assumption) ?_ ?_
            rotate_left
            · (intro w hSw; (try dsimp only at hSw); go_simp; try with_reducible rfl)
            simp only [Act.put, List.setIfInBounds_toArray, List.set_cons_zero, List.set_cons_succ]
            refine take_at (i := 5) (v := ?_) rfl (by as_aux_lemma => kernel_rfl) (by as_aux_lemma => kernel_rfl) (by as_aux_lemma => kernel_rfl) (fun _ _ _ h => h) (by as_aux_lemma => kernel_rfl) (by assumption) ?_ ?_
            rotate_left
            · (intro w hSw; (try dsimp only at hSw); go_simp; try with_reducible rfl)
            simp only [Act.put, List.setIfInBounds_toArray, List.set_cons_zero, List.set_cons_succ]
            refine take_at (i := 6) (v := ?_) rfl (by as_aux_lemma => kernel_rfl) (by as_aux_lemma => kernel_rfl) (by as_aux_lemma => kernel_rfl) (fun _ _ _ h => h) (by as_aux_lemma => kernel_rfl) (by assumption) ?_ ?_
            rotate_left
            · (intro w hSw; (try dsimp only at hSw); go_simp; try with_reducible rfl)
            simp only [Act.put, List.setIfInBounds_toArray, List.set_cons_zero, List.set_cons_succ]
            refine take_at (i := 8) (v := ?_) rfl (by as_aux_lemma => kernel_rfl) (by as_aux_lemma => kernel_rfl) (by as_aux_lemma => kernel_rfl) (fun _ _ _ h => h) (by as_aux_lemma => kernel_rfl) (by assumption) ?_ ?_
            rotate_left
            · (intro w hSw; (try dsimp only at hSw); go_simp; try with_reducible rfl)
            simp only [Act.put, List.setIfInBounds_toArray, List.set_cons_zero, List.set_cons_succ]
            refine take_at (i := 9) (v := ?_) rfl (by as_aux_lemma => kernel_rfl) (by as_aux_lemma => kernel_rfl) (by as_aux_lemma => kernel_rfl) (fun _ _ _ h => h) (by as_aux_lemma => kernel_rfl) (by assumption) ?_ ?_
            rotate_left
            · (intro w hSw; (try dsimp only at hSw); go_simp; try with_reducible rfl)
            simp only [Act.put, List.setIfInBounds_toArray, List.set_cons_zero, List.set_cons_succ]
            refine take_at (i := 10) (v := ?_) rfl (by as_aux_lemma => kernel_rfl) (by as_aux_lemma => kernel_rfl) (by as_aux_lemma => kernel_rfl) (fun _ _ _ h => h) (by as_aux_lemma => kernel_rfl) (by assumption) ?_ ?_
            rotate_left
            · (intro w hSw; (try dsimp only at hSw); go_simp; try with_reducible rfl)
            simp only [Act.put, List.setIfInBounds_toArray, List.set_cons_zero, List.set_cons_succ]
            refine take_at (i := 12) (v := ?_) rfl (by as_aux_lemma => kernel_rfl) (by as_aux_lemma => kernel_rfl) (by as_aux_lemma => kernel_rfl) (fun _ _ _ h => h) (by as_aux_lemma => kernel_rfl) (by assumption) ?_ ?_
            rotate_left
            · (intro w hSw; (try dsimp only at hSw); go_simp; try with_reducible rfl)
            simp only [Act.put, List.setIfInBounds_toArray, List.set_cons_zero, List.set_cons_succ]
            refine take_at (i := 13) (v := ?_) rfl (by as_aux_lemma => kernel_rfl) (by as_aux_lemma => kernel_rfl) (by as_aux_lemma => kernel_rfl) (fun _ _ _ h => h) (by as_aux_lemma => kernel_rfl) (by assumption) ?_ ?_
            rotate_left
            · (intro w hSw; (try dsimp only at hSw); go_simp; try with_reducible rfl)
            simp only [Act.put, List.setIfInBounds_toArray, List.set_cons_zero, List.set_cons_succ]
            refine take_at (i := 14) (v := ?_) rfl (by as_aux_lemma => kernel_rfl) (by as_aux_lemma => kernel_rfl) (by as_aux_lemma => kernel_rfl) (fun _ _ _ h => h) (by as_aux_lemma => kernel_rfl) (by assumption) ?_ ?_
            rotate_left
            · (intro w hSw; (try dsimp only at hSw); go_simp; try with_reducible rfl)
            simp only [Act.put, List.setIfInBounds_toArray, List.set_cons_zero, List.set_cons_succ]
            refine take_at (i := 16) (v := ?_) rfl (by as_aux_lemma => kernel_rfl) (by as_aux_lemma => kernel_rfl) (by as_aux_lemma => kernel_rfl) (fun _ _ _ h => h) (by as_aux_lemma => kernel_rfl) (by assumption) ?_ ?_
            rotate_left
            · (intro w hSw; (try dsimp only at hSw); go_simp; try with_reducible rfl)
            simp only [Act.put, List.setIfInBounds_toArray, List.set_cons_zero, List.set_cons_succ]
            refine take_at (i := 19) (v := ?_) rfl (by as_aux_lemma => kernel_rfl) (by as_aux_lemma => kernel_rfl) (by as_aux_lemma => kernel_rfl) (fun _ _ _ h => h) (by as_aux_lemma => kernel_rfl) (by assumption) ?_ ?_
            rotate_left
            · (intro w hSw; (try dsimp only at hSw); go_simp; try with_reducible rfl)
            simp only [Act.put, List.setIfInBounds_toArray, List.set_cons_zero, List.set_cons_succ]
            refine many_at (I := [(2, some 135), (3, some 136), (7, some 140), (11, some 144), (15, some 148)]) (fun _ => []) [true, true, false, false, true, true, true, false, true, true, true, false, true, true, true, false, true, false, false, true, false, false, false, false, false, false, false, false, false, false, false, false, false, false, false, false, false, false, false, false, false, false, false, false, false, false, false, false, false, false, false, false, false, false, false, false, false, false, false, false, false, false, false, false, false, false, false, false, false, false, false, false, false, false, false, false, false, false, false, false, false, false, false, false, false, false, false] (listed' := #[true, true, true, true, true, true, true, true, true, true, true, true, true, true, true, true, true, false, false, true, false, false, false, false, false, false, false, false, false, false, false, false, false, false, false, false, false, false, false, false, false, false, false, false, false, false, false, false, false, false, false, false, false, false, false, false, false, false, false, false, false, false, false, false, false, false, false, false, false, false, false, false, false, false, false, false, false, false, false, false, false, false, false, false, false, false, false]) (MInv [(2, wh), (3, 2), (7, p0), (11, p1), (15, p2)] w17) rfl rfl (by decide) (by as_aux_lemma => kernel_rfl) (by as_aux_lemma => kernel_rfl) (fun _ => MInv.start HW.out) hHeld ?_ ?_
            · clear HW hHeld
              refine List.forall_mem_cons.2 ⟨?_, List.forall_mem_cons.2 ⟨?_, List.forall_mem_cons.2 ⟨?_, List.forall_mem_cons.2 ⟨?_, List.forall_mem_cons.2 ⟨?_, fun _ h => by cases h⟩⟩⟩⟩⟩
              · refine StepM.mk rfl rfl (fun y => (by as_aux_lemma => kernel_rfl)) (fun f y u hf hdp hI hHeld K hK => ?_)
                have HI' := Lib.hid (hI.new 2 (wh) (by intro p hp he; simp only [List.mem_cons, List.not_mem_nil, or_false] at hp; rcases hp with rfl | rfl | rfl | rfl | rfl <;> first | rfl | (simp at he)))
                clear hI hf hdp
                simp only [actM, List.foldl_cons, List.foldl_nil, Act.put, List.setIfInBounds_toArray, List.set_cons_zero, List.set_cons_succ]
                go_wp2_with fail
                exact hK.out (.slice (some ⟨u.heap.size, 0, none⟩) 1 1) _ _ (by as_aux_lemma => kernel_rfl) HI'.out (HKEEP.out _ HI'.out.2)
              · refine StepM.mk rfl rfl (fun y => (by as_aux_lemma => kernel_rfl)) (fun f y u hf hdp hI hHeld K hK => ?_)
                have HI' := Lib.hid (hI.new 3 (2) (by intro p hp he; simp only [List.mem_cons, List.not_mem_nil, or_false] at hp; rcases hp with rfl | rfl | rfl | rfl | rfl <;> first | rfl | (simp at he)))
                clear hI hf hdp
                simp only [actM, List.foldl_cons, List.foldl_nil, Act.put, List.setIfInBounds_toArray, List.set_cons_zero, List.set_cons_succ]
                go_wp2_with fail
                exact hK.out (.slice (some ⟨u.heap.size, 0, none⟩) 1 1) _ _ (by as_aux_lemma => kernel_rfl) HI'.out (HKEEP.out _ HI'.out.2)
              · refine StepM.mk rfl rfl (fun y => (by as_aux_lemma => kernel_rfl)) (fun f y u hf hdp hI hHeld K hK => ?_)
                have HI' := Lib.hid (hI.new 7 (p0) (by intro p hp he; simp only [List.mem_cons, List.not_mem_nil, or_false] at hp; rcases hp with rfl | rfl | rfl | rfl | rfl <;> first | rfl | (simp at he)))
                clear hI hf hdp
                simp only [actM, List.foldl_cons, List.foldl_nil, Act.put, List.setIfInBounds_toArray, List.set_cons_zero, List.set_cons_succ]
                go_wp2_with fail
                exact hK.out (.slice (some ⟨u.heap.size, 0, none⟩) 1 1) _ _ (by as_aux_lemma => kernel_rfl) HI'.out (HKEEP.out _ HI'.out.2)
              · refine StepM.mk rfl rfl (fun y => (by as_aux_lemma => kernel_rfl)) (fun f y u hf hdp hI hHeld K hK => ?_)
                have HI' := Lib.hid (hI.new 11 (p1) (by intro p hp he; simp only [List.mem_cons, List.not_mem_nil, or_false] at hp; rcases hp with rfl | rfl | rfl | rfl | rfl <;> first | rfl | (simp at he)))
                clear hI hf hdp
                simp only [actM, List.foldl_cons, List.foldl_nil, Act.put, List.setIfInBounds_toArray, List.set_cons_zero, List.set_cons_succ]
                go_wp2_with fail
                exact hK.out (.slice (some ⟨u.heap.size, 0, none⟩) 1 1) _ _ (by as_aux_lemma => kernel_rfl) HI'.out (HKEEP.out _ HI'.out.2)
              · refine StepM.mk rfl rfl (fun y => (by as_aux_lemma => kernel_rfl)) (fun f y u hf hdp hI hHeld K hK => ?_)
                have HI' := Lib.hid (hI.new 15 (p2) (by intro p hp he; simp only [List.mem_cons, List.not_mem_nil, or_false] at hp; rcases hp with rfl | rfl | rfl | rfl | rfl <;> first | rfl | (simp at he)))
                clear hI hf hdp
                simp only [actM, List.foldl_cons, List.foldl_nil, Act.put, List.setIfInBounds_toArray, List.set_cons_zero, List.set_cons_succ]
                go_wp2_with fail
                exact hK.out (.slice (some ⟨u.heap.size, 0, none⟩) 1 1) _ _ (by as_aux_lemma => kernel_rfl) HI'.out (HKEEP.out _ HI'.out.2)
            · clear HW hHeld
              intro y m1 hI hHeld
              obtain ⟨b2, f2, n2⟩ := hI.get 2 (wh) (by simp) rfl
              have N2 := Lib.hid n2
              obtain ⟨b3, f3, n3⟩ := hI.get 3 (2) (by simp) rfl
              have N3 := Lib.hid n3
              obtain ⟨b7, f7, n7⟩ := hI.get 7 (p0) (by simp) rfl
              have N7 := Lib.hid n7
              obtain ⟨b11, f11, n11⟩ := hI.get 11 (p1) (by simp) rfl
              have N11 := Lib.hid n11
              obtain ⟨b15, f15, n15⟩ := hI.get 15 (p2) (by simp) rfl
              have N15 := Lib.hid n15
              have HW := Lib.hid hI.2
              simp only [actM, List.foldl_cons, List.foldl_nil, Act.put, List.setIfInBounds_toArray, List.set_cons_zero, List.set_cons_succ]
              rw [f2, f3, f7, f11, f15]
              clear hI f2 n2 f3 n3 f7 n7 f11 n11 f15 n15
              refine do_at (i := 17) rfl (by as_aux_lemma => kernel_rfl) (by as_aux_lemma => kernel_rfl) (fun K hK => ?_)
              have HQ17 := Lib.hid (mat_lit m1 [.slice (some ⟨b2, 0, none⟩) 1 1, .slice (some ⟨b3, 0, none⟩) 1 1, .slice (some ⟨b7, 0, none⟩) 1 1, .slice (some ⟨b11, 0, none⟩) 1 1, .slice (some ⟨b15, 0, none⟩) 1 1, .slice (some ⟨tb, 0, none⟩) 1 1] [[wh], [2], [p0], [p1], [p2], [(m : Int)]] 6 m1.heap.size rfl rfl rfl (by simp) (fun i hi => by
                  match i, hi with
                  | 0, _ => exact N2.out
                  | 1, _ => exact N3.out
                  | 2, _ => exact N7.out
                  | 3, _ => exact N11.out
                  | 4, _ => exact N15.out
                  | 5, _ => exact HN17.out.below HW.out
                  | k + 6, hi => exact absurd hi (by simp only [List.length_cons, List.length_nil]; omega)))
              go_wp2_with fail
              obtain ⟨m2, hu⟩ : ∃ u, u = m1.alloc (.cells #[.slice (some ⟨b2, 0, none⟩) 1 1, .slice (some ⟨b3, 0, none⟩) 1 1, .slice (some ⟨b7, 0, none⟩) 1 1, .slice (some ⟨b11, 0, none⟩) 1 1, .slice (some ⟨b15, 0, none⟩) 1 1, .slice (some ⟨tb, 0, none⟩) 1 1] 50) := ⟨_, rfl⟩
              rw [← hu]
              have bb : Below m1.heap.size m1 m2 := by rw [hu]; exact (Below.refl _ _).alloc (Nat.le_refl _) _
              obtain ⟨g17, hg17⟩ : ∃ b, b = m1.heap.size := ⟨_, rfl⟩
              have M17 := Lib.hid (show MatAt m2 (fun _ => True) (.slice (some ⟨g17, 0, none⟩) 6 6) [[wh], [2], [p0], [p1], [p2], [(m : Int)]] by rw [hu, hg17]; exact HQ17.out)
              rw [← hg17]
              replace HW := Lib.hid (HW.out.trans (bb.mono HW.out.size))
              clear bb hu hg17 HQ17 N2 N3 N7 N11 N15
              refine hK.out _ _ ?_ (fun hHeld => ?_)
              · exact HKEEP.out _ HW.out
              clear hK K
              try simp only [List.setIfInBounds_toArray, List.set_cons_zero, List.set_cons_succ]
              refine do_at (i := 18) rfl (by as_aux_lemma => kernel_rfl) (by as_aux_lemma => kernel_rfl) (fun K hK => ?_)
              go_simp
              refine (D1.out _ _ M17.out).mono ?_
              rintro e m3 ⟨rfl, bb⟩
              replace HW := Lib.hid (HW.out.trans (bb.mono HW.out.size))
              clear bb M17
              go_wp2_with fail
              refine hK.out _ _ ?_ (fun hHeld => ?_)
              · exact HKEEP.out _ HW.out
              clear hK K
              try simp only [List.setIfInBounds_toArray, List.set_cons_zero, List.set_cons_succ]
              refine take_at (i := 20) (v := ?_) rfl (by as_aux_lemma => kernel_rfl) (by as_aux_lemma => kernel_rfl) (by as_aux_lemma => kernel_rfl) (fun _ _ _ h => h) (by as_aux_lemma => kernel_rfl) (by assumption) ?_ ?_
              rotate_left
              · (intro w hSw; (try dsimp only at hSw); go_simp; try with_reducible rfl)
              simp only [Act.put, List.setIfInBounds_toArray, List.set_cons_zero, List.set_cons_succ]
              refine take_at (i := 21) (v := ?_) rfl (by as_aux_lemma => kernel_rfl) (by as_aux_lemma => kernel_rfl) (by as_aux_lemma => kernel_rfl) (fun _ _ _ h => h) (by as_aux_lemma => kernel_rfl) (by assumption) ?_ ?_
              rotate_left
              · (intro w hSw; (try dsimp only at hSw); go_simp; try with_reducible rfl)
              simp only [Act.put, List.setIfInBounds_toArray, List.set_cons_zero, List.set_cons_succ]
              refine take_at (i := 22) (v := ?_) rfl (by as_aux_lemma => kernel_rfl) (by as_aux_lemma => kernel_rfl) (by as_aux_lemma => kernel_rfl) (fun _ _ _ h => h) (by as_aux_lemma => kernel_rfl) (by assumption) ?_ ?_
              rotate_left
              · (intro w hSw; (try dsimp only at hSw); go_simp; try with_reducible rfl)
              simp only [Act.put, List.setIfInBounds_toArray, List.set_cons_zero, List.set_cons_succ]
              refine take_at (i := 23) (v := ?_) rfl (by as_aux_lemma => kernel_rfl) (by as_aux_lemma => kernel_rfl) (by as_aux_lemma => kernel_rfl) (fun _ _ _ h => h) (by as_aux_lemma => kernel_rfl) (by assumption) ?_ ?_
              rotate_left
              · (intro w hSw; (try dsimp only at hSw); go_simp; try with_reducible rfl)
              simp only [Act.put, List.setIfInBounds_toArray, List.set_cons_zero, List.set_cons_succ]
              refine take_at (i := 24) (v := ?_) rfl (by as_aux_lemma => kernel_rfl) (by as_aux_lemma => kernel_rfl) (by as_aux_lemma => kernel_rfl) (fun _ _ _ h => h) (by as_aux_lemma => kernel_rfl) (by assumption) ?_ ?_
              rotate_left
              · (intro w hSw; (try dsimp only at hSw); go_simp; try with_reducible rfl)
              simp only [Act.put, List.setIfInBounds_toArray, List.set_cons_zero, List.set_cons_succ]
              refine take_at (i := 25) (v := ?_) rfl (by as_aux_lemma => kernel_rfl) (by as_aux_lemma => kernel_rfl) (by as_aux_lemma => kernel_rfl) (fun _ _ _ h => h) (by as_aux_lemma => kernel_rfl) (by assumption) ?_ ?_
              rotate_left
              · (intro w hSw; (try dsimp only at hSw); go_simp; try with_reducible rfl)
              simp only [Act.put, List.setIfInBounds_toArray, List.set_cons_zero, List.set_cons_succ]
              refine take_at (i := 26) (v := ?_) rfl (by as_aux_lemma => kernel_rfl) (by as_aux_lemma => kernel_rfl) (by as_aux_lemma => kernel_rfl) (fun _ _ _ h => h) (by as_aux_lemma => kernel_rfl) (by assumption) ?_ ?_
              rotate_left
              · (intro w hSw; (try dsimp only at hSw); go_simp; try with_reducible rfl)
              simp only [Act.put, List.setIfInBounds_toArray, List.set_cons_zero, List.set_cons_succ]
              refine take_at (i := 27) (v := ?_) rfl (by as_aux_lemma => kernel_rfl) (by as_aux_lemma => kernel_rfl) (by as_aux_lemma => kernel_rfl) (fun _ _ _ h => h) (by as_aux_lemma => kernel_rfl) (by assumption) ?_ ?_
              rotate_left
              · (intro w hSw; (try dsimp only at hSw); go_simp; try with_reducible rfl)
              simp only [Act.put, List.setIfInBounds_toArray, List.set_cons_zero, List.set_cons_succ]
              refine take_at (i := 28) (v := ?_) rfl (by as_aux_lemma => kernel_rfl) (by as_aux_lemma => kernel_rfl) (by as_aux_lemma => kernel_rfl) (fun _ _ _ h => h) (by as_aux_lemma => kernel_rfl) (by assumption) ?_ ?_
              rotate_left
              · (intro w hSw; (try dsimp only at hSw); go_simp; try with_reducible rfl)
              simp only [Act.put, List.setIfInBounds_toArray, List.set_cons_zero, List.set_cons_succ]
              refine take_at (i := 29) (v := ?_) rfl (by as_aux_lemma => kernel_rfl) (by as_aux_lemma => kernel_rfl) (by as_aux_lemma => kernel_rfl) (fun _ _ _ h => h) (by as_aux_lemma => kernel_rfl) (by assumption) ?_ ?_
              rotate_left
              · (intro w hSw; (try dsimp only at hSw); go_simp; try with_reducible rfl)
              simp only [Act.put, List.setIfInBounds_toArray, List.set_cons_zero, List.set_cons_succ]
              refine take_at (i := 30) (v := ?_) rfl (by as_aux_lemma => kernel_rfl) (by as_aux_lemma => kernel_rfl) (by as_aux_lemma => kernel_rfl) (fun _ _ _ h => h) (by as_aux_lemma => kernel_rfl) (by assumption) ?_ ?_
              rotate_left
              · (intro w hSw; (try dsimp only at hSw); go_simp; try with_reducible rfl)
              simp only [Act.put, List.setIfInBounds_toArray, List.set_cons_zero, List.set_cons_succ]
              refine take_at (i := 31) (v := ?_) rfl (by as_aux_lemma => kernel_rfl) (by as_aux_lemma => kernel_rfl) (by as_aux_lemma => kernel_rfl) (fun _ _ _ h => h) (by as_aux_lemma => kernel_rfl) (by assumption) ?_ ?_
              rotate_left
              · (intro w hSw; (try dsimp only at hSw); go_simp; try with_reducible rfl)
              simp only [Act.put, List.setIfInBounds_toArray, List.set_cons_zero, List.set_cons_succ]
              refine take_at (i := 32) (v := ?_) rfl (by as_aux_lemma => kernel_rfl) (by as_aux_lemma => kernel_rfl) (by as_aux_lemma => kernel_rfl) (fun _ _ _ h => h) (by as_aux_lemma => kernel_rfl) (by assumption) ?_ ?_
              rotate_left
              · (intro w hSw; (try dsimp only at hSw); go_simp; try with_reducible rfl)
              simp only [Act.put, List.setIfInBounds_toArray, List.set_cons_zero, List.set_cons_succ]
              refine take_at (i := 34) (v := ?_) rfl (by as_aux_lemma => kernel_rfl) (by as_aux_lemma => kernel_rfl) (by as_aux_lemma => kernel_rfl) (fun _ _ _ h => h) (by as_aux_lemma => kernel_rfl) (by assumption) ?_ ?_
              rotate_left
              · (intro w hSw; (try dsimp only at hSw); go_simp; try with_reducible rfl)
              simp only [Act.put, List.setIfInBounds_toArray, List.set_cons_zero, List.set_cons_succ]
              refine take_at (i := 37) (v := ?_) rfl (by as_aux_lemma => kernel_rfl) (by as_aux_lemma => kernel_rfl) (by as_aux_lemma => kernel_rfl) (fun _ _ _ h => h) (by as_aux_lemma => kernel_rfl) (by assumption) ?_ ?_
              rotate_left
              · (intro w hSw; (try dsimp only at hSw); go_simp; try with_reducible rfl)
              simp only [Act.put, List.setIfInBounds_toArray, List.set_cons_zero, List.set_cons_succ]
              refine do_at (i := 33) rfl (by as_aux_lemma => kernel_rfl) (by as_aux_lemma => kernel_rfl) (fun K hK => ?_)
              have HQ33 := Lib.hid (nums_lit m3 [wh, 2, p0, p1, p2] 5 m3.heap.size rfl rfl (by simp))
              go_wp2_with fail
              obtain ⟨m4, hu⟩ : ∃ u, u = m3.alloc (.cells #[.int .i64 wh, .int .i64 2, .int .i64 p0, .int .i64 p1, .int .i64 p2] 3) := ⟨_, rfl⟩
              rw [← hu]
              have bb : Below m3.heap.size m3 m4 := by rw [hu]; exact (Below.refl _ _).alloc (Nat.le_refl _) _
              obtain ⟨b33, hb33⟩ : ∃ b, b = m3.heap.size := ⟨_, rfl⟩
              have N33 := Lib.hid (show NumsAt m4 (fun _ => True) (.slice (some ⟨b33, 0, none⟩) 5 5) [wh, 2, p0, p1, p2] by rw [hu, hb33]; exact HQ33.out)
              rw [← hb33]
              replace HW := Lib.hid (HW.out.trans (bb.mono HW.out.size))
              clear bb hu hb33 HQ33
              refine hK.out _ _ ?_ (fun hHeld => ?_)
              · exact HKEEP.out _ HW.out
              clear hK K
              try simp only [List.setIfInBounds_toArray, List.set_cons_zero, List.set_cons_succ]
              refine do_at (i := 35) rfl (by as_aux_lemma => kernel_rfl) (by as_aux_lemma => kernel_rfl) (fun K hK => ?_)
              have HQ35 := Lib.hid (mat_lit m4 [.slice (some ⟨b33, 0, none⟩) 5 5, .slice (some ⟨tb, 0, none⟩) 1 1] [[wh, 2, p0, p1, p2], [(m : Int)]] 2 m4.heap.size rfl rfl rfl (by simp) (fun i hi => by
                  match i, hi with
                  | 0, _ => exact N33.out
                  | 1, _ => exact HN17.out.below HW.out
                  | k + 2, hi => exact absurd hi (by simp only [List.length_cons, List.length_nil]; omega)))
              go_wp2_with fail
              obtain ⟨m5, hu⟩ : ∃ u, u = m4.alloc (.cells #[.slice (some ⟨b33, 0, none⟩) 5 5, .slice (some ⟨tb, 0, none⟩) 1 1] 50) := ⟨_, rfl⟩
              rw [← hu]
              have bb : Below m4.heap.size m4 m5 := by rw [hu]; exact (Below.refl _ _).alloc (Nat.le_refl _) _
              obtain ⟨g35, hg35⟩ : ∃ b, b = m4.heap.size := ⟨_, rfl⟩
              have M35 := Lib.hid (show MatAt m5 (fun _ => True) (.slice (some ⟨g35, 0, none⟩) 2 2) [[wh, 2, p0, p1, p2], [(m : Int)]] by rw [hu, hg35]; exact HQ35.out)
              rw [← hg35]
              replace HW := Lib.hid (HW.out.trans (bb.mono HW.out.size))
              clear bb hu hg35 HQ35 N33
              refine hK.out _ _ ?_ (fun hHeld => ?_)
              · exact HKEEP.out _ HW.out
              clear hK K
              try simp only [List.setIfInBounds_toArray, List.set_cons_zero, List.set_cons_succ]
              refine do_at (i := 36) rfl (by as_aux_lemma => kernel_rfl) (by as_aux_lemma => kernel_rfl) (fun K hK => ?_)
              go_simp
              refine (D2.out _ _ M35.out).mono ?_
              rintro e m6 ⟨rfl, bb⟩
              replace HW := Lib.hid (HW.out.trans (bb.mono HW.out.size))
              clear bb M35
              go_wp2_with fail
              refine hK.out _ _ ?_ (fun hHeld => ?_)
              · exact HKEEP.out _ HW.out
              clear hK K
              try simp only [List.setIfInBounds_toArray, List.set_cons_zero, List.set_cons_succ]
              refine take_at (i := 38) (v := ?_) rfl (by as_aux_lemma => kernel_rfl) (by as_aux_lemma => kernel_rfl) (by as_aux_lemma => kernel_rfl) (fun _ _ _ h => h) (by as_aux_lemma => kernel_rfl) (by assumption) ?_ ?_
              rotate_left
              · (intro w hSw; (try dsimp only at hSw); go_simp; try with_reducible rfl)
              simp only [Act.put, List.setIfInBounds_toArray, List.set_cons_zero, List.set_cons_succ]
              refine take_at (i := 39) (v := ?_) rfl (by as_aux_lemma => kernel_rfl) (by as_aux_lemma => kernel_rfl) (by as_aux_lemma => kernel_rfl) (fun _ _ _ h => h) (by as_aux_lemma => kernel_rfl) (by assumption) ?_ ?_
              rotate_left
              · (intro w hSw; (try dsimp only at hSw); go_simp; try with_reducible rfl)
              simp only [Act.put, List.setIfInBounds_toArray, List.set_cons_zero, List.set_cons_succ]
              refine take_at (i := 40) (v := ?_) rfl (by as_aux_lemma => kernel_rfl) (by as_aux_lemma => kernel_rfl) (by as_aux_lemma => kernel_rfl) (fun _ _ _ h => h) (by as_aux_lemma => kernel_rfl) (by assumption) ?_ ?_
              rotate_left
              · (intro w hSw; (try dsimp only at hSw); go_simp; try with_reducible rfl)
              simp only [Act.put, List.setIfInBounds_toArray, List.set_cons_zero, List.set_cons_succ]
              refine take_at (i := 41) (v := ?_) rfl (by as_aux_lemma => kernel_rfl) (by as_aux_lemma => kernel_rfl) (by as_aux_lemma => kernel_rfl) (fun _ _ _ h => h) (by as_aux_lemma => kernel_rfl) (by assumption) ?_ ?_
              rotate_left
              · (intro w hSw; (try dsimp only at hSw); go_simp; try with_reducible rfl)
              simp only [Act.put, List.setIfInBounds_toArray, List.set_cons_zero, List.set_cons_succ]
              refine take_at (i := 42) (v := ?_) rfl (by as_aux_lemma => kernel_rfl) (by as_aux_lemma => kernel_rfl) (by as_aux_lemma => kernel_rfl) (fun _ _ _ h => h) (by as_aux_lemma => kernel_rfl) (by assumption) ?_ ?_
              rotate_left
              · (intro w hSw; (try dsimp only at hSw); go_simp; try with_reducible rfl)
              simp only [Act.put, List.setIfInBounds_toArray, List.set_cons_zero, List.set_cons_succ]
              refine take_at (i := 43) (v := ?_) rfl (by as_aux_lemma => kernel_rfl) (by as_aux_lemma => kernel_rfl) (by as_aux_lemma => kernel_rfl) (fun _ _ _ h => h) (by as_aux_lemma => kernel_rfl) (by assumption) ?_ ?_
              rotate_left
              · (intro w hSw; (try dsimp only at hSw); go_simp; try with_reducible rfl)
              simp only [Act.put, List.setIfInBounds_toArray, List.set_cons_zero, List.set_cons_succ]
              refine take_at (i := 44) (v := ?_) rfl (by as_aux_lemma => kernel_rfl) (by as_aux_lemma => kernel_rfl) (by as_aux_lemma => kernel_rfl) (fun _ _ _ h => h) (by as_aux_lemma => kernel_rfl) (by assumption) ?_ ?_
              rotate_left
              · (intro w hSw; (try dsimp only at hSw); go_simp; try with_reducible rfl)
              simp only [Act.put, List.setIfInBounds_toArray, List.set_cons_zero, List.set_cons_succ]
              refine take_at (i := 45) (v := ?_) rfl (by as_aux_lemma => kernel_rfl) (by as_aux_lemma => kernel_rfl) (by as_aux_lemma => kernel_rfl) (fun _ _ _ h => h) (by as_aux_lemma => kernel_rfl) (by assumption) ?_ ?_
              rotate_left
              · (intro w hSw; (try dsimp only at hSw); go_simp; try with_reducible rfl)
              simp only [Act.put, List.setIfInBounds_toArray, List.set_cons_zero, List.set_cons_succ]
              refine take_at (i := 46) (v := ?_) rfl (by as_aux_lemma => kernel_rfl) (by as_aux_lemma => kernel_rfl) (by as_aux_lemma => kernel_rfl) (fun _ _ _ h => h) (by as_aux_lemma => kernel_rfl) (by assumption) ?_ ?_
              rotate_left
              · (intro w hSw; (try dsimp only at hSw); go_simp; try with_reducible rfl)
              simp only [Act.put, List.setIfInBounds_toArray, List.set_cons_zero, List.set_cons_succ]
              refine take_at (i := 47) (v := ?_) rfl (by as_aux_lemma => kernel_rfl) (by as_aux_lemma => kernel_rfl) (by as_aux_lemma => kernel_rfl) (fun _ _ _ h => h) (by as_aux_lemma => kernel_rfl) (by assumption) ?_ ?_
              rotate_left
              · (intro w hSw; (try dsimp only at hSw); go_simp; try with_reducible rfl)
              simp only [Act.put, List.setIfInBounds_toArray, List.set_cons_zero, List.set_cons_succ]
              refine take_at (i := 48) (v := ?_) rfl (by as_aux_lemma => kernel_rfl) (by as_aux_lemma => kernel_rfl) (by as_aux_lemma => kernel_rfl) (fun _ _ _ h => h) (by as_aux_lemma => kernel_rfl) (by assumption) ?_ ?_
              rotate_left
              · (intro w hSw; (try dsimp only at hSw); go_simp; try with_reducible rfl)
              simp only [Act.put, List.setIfInBounds_toArray, List.set_cons_zero, List.set_cons_succ]
              refine take_at (i := 49) (v := ?_) rfl (by as_aux_lemma => kernel_rfl) (by as_aux_lemma => kernel_rfl) (by as_aux_lemma => kernel_rfl) (fun _ _ _ h => h) (by as_aux_lemma => kernel_rfl) (by assumption) ?_ ?_
              rotate_left
              · (intro w hSw; (try dsimp only at hSw); go_simp; try with_reducible rfl)
              simp only [Act.put, List.setIfInBounds_toArray, List.set_cons_zero, List.set_cons_succ]
              refine take_at (i := 50) (v := ?_) rfl (by as_aux_lemma => kernel_rfl) (by as_aux_lemma => kernel_rfl) (by as_aux_lemma => kernel_rfl) (fun _ _ _ h => h) (by as_aux_lemma => kernel_rfl) (by assumption) ?_ ?_
              rotate_left
              · (intro w hSw; (try dsimp only at hSw); go_simp; try with_reducible rfl)
              simp only [Act.put, List.setIfInBounds_toArray, List.set_cons_zero, List.set_cons_succ]
              refine take_at (i := 51) (v := ?_) rfl (by as_aux_lemma => kernel_rfl) (by as_aux_lemma => kernel_rfl) (by as_aux_lemma => kernel_rfl) (fun _ _ _ h => h) (by as_aux_lemma => kernel_rfl) (by assumption) ?_ ?_
              rotate_left
              · (intro w hSw; (try dsimp only at hSw); go_simp; try with_reducible rfl)
              simp only [Act.put, List.setIfInBounds_toArray, List.set_cons_zero, List.set_cons_succ]
              refine take_at (i := 53) (v := ?_) rfl (by as_aux_lemma => kernel_rfl) (by as_aux_lemma => kernel_rfl) (by as_aux_lemma => kernel_rfl) (fun _ _ _ h => h) (by as_aux_lemma => kernel_rfl) (by assumption) ?_ ?_
              rotate_left
              · (intro w hSw; (try dsimp only at hSw); go_simp; try with_reducible rfl)
              simp only [Act.put, List.setIfInBounds_toArray, List.set_cons_zero, List.set_cons_succ]
              refine take_at (i := 56) (v := ?_) rfl (by as_aux_lemma => kernel_rfl) (by as_aux_lemma => kernel_rfl) (by as_aux_lemma => kernel_rfl) (fun _ _ _ h => h) (by as_aux_lemma => kernel_rfl) (by assumption) ?_ ?_
              rotate_left
              · (intro w hSw; (try dsimp only at hSw); go_simp; try with_reducible rfl)
              simp only [Act.put, List.setIfInBounds_toArray, List.set_cons_zero, List.set_cons_succ]
              refine do_at (i := 52) rfl (by as_aux_lemma => kernel_rfl) (by as_aux_lemma => kernel_rfl) (fun K hK => ?_)
              have HQ52 := Lib.hid (nums_lit m6 [wh, 2, 7, p0, p1, p2] 6 m6.heap.size rfl rfl (by simp))
              go_wp2_with fail
              obtain ⟨m7, hu⟩ : ∃ u, u = m6.alloc (.cells #[.int .i64 wh, .int .i64 2, .int .i64 7, .int .i64 p0, .int .i64 p1, .int .i64 p2] 3) := ⟨_, rfl⟩
              rw [← hu]
              have bb : Below m6.heap.size m6 m7 := by rw [hu]; exact (Below.refl _ _).alloc (Nat.le_refl _) _
              obtain ⟨b52, hb52⟩ : ∃ b, b = m6.heap.size := ⟨_, rfl⟩
              have N52 := Lib.hid (show NumsAt m7 (fun _ => True) (.slice (some ⟨b52, 0, none⟩) 6 6) [wh, 2, 7, p0, p1, p2] by rw [hu, hb52]; exact HQ52.out)
              rw [← hb52]
              replace HW := Lib.hid (HW.out.trans (bb.mono HW.out.size))
              clear bb hu hb52 HQ52
              refine hK.out _ _ ?_ (fun hHeld => ?_)
              · exact HKEEP.out _ HW.out
              clear hK K
              try simp only [List.setIfInBounds_toArray, List.set_cons_zero, List.set_cons_succ]
              refine do_at (i := 54) rfl (by as_aux_lemma => kernel_rfl) (by as_aux_lemma => kernel_rfl) (fun K hK => ?_)
              have HQ54 := Lib.hid (mat_lit m7 [.slice (some ⟨b52, 0, none⟩) 6 6, .slice (some ⟨tb, 0, none⟩) 1 1] [[wh, 2, 7, p0, p1, p2], [(m : Int)]] 2 m7.heap.size rfl rfl rfl (by simp) (fun i hi => by
                  match i, hi with
                  | 0, _ => exact N52.out
                  | 1, _ => exact HN17.out.below HW.out
                  | k + 2, hi => exact absurd hi (by simp only [List.length_cons, List.length_nil]; omega)))
              go_wp2_with fail
              obtain ⟨m8, hu⟩ : ∃ u, u = m7.alloc (.cells #[.slice (some ⟨b52, 0, none⟩) 6 6, .slice (some ⟨tb, 0, none⟩) 1 1] 50) := ⟨_, rfl⟩
              rw [← hu]
              have bb : Below m7.heap.size m7 m8 := by rw [hu]; exact (Below.refl _ _).alloc (Nat.le_refl _) _
              obtain ⟨g54, hg54⟩ : ∃ b, b = m7.heap.size := ⟨_, rfl⟩
              have M54 := Lib.hid (show MatAt m8 (fun _ => True) (.slice (some ⟨g54, 0, none⟩) 2 2) [[wh, 2, 7, p0, p1, p2], [(m : Int)]] by rw [hu, hg54]; exact HQ54.out)
              rw [← hg54]
              replace HW := Lib.hid (HW.out.trans (bb.mono HW.out.size))
              clear bb hu hg54 HQ54 N52
              refine hK.out _ _ ?_ (fun hHeld => ?_)
              · exact HKEEP.out _ HW.out
              clear hK K
              try simp only [List.setIfInBounds_toArray, List.set_cons_zero, List.set_cons_succ]
              refine do_at (i := 55) rfl (by as_aux_lemma => kernel_rfl) (by as_aux_lemma => kernel_rfl) (fun K hK => ?_)
              go_simp
              refine (D3.out _ _ M54.out).mono ?_
              rintro e m9 ⟨rfl, bb⟩
              replace HW := Lib.hid (HW.out.trans (bb.mono HW.out.size))
              clear bb M54
              go_wp2_with fail
              refine hK.out _ _ ?_ (fun hHeld => ?_)
              · exact HKEEP.out _ HW.out
              clear hK K
              try simp only [List.setIfInBounds_toArray, List.set_cons_zero, List.set_cons_succ]
              refine take_at (i := 57) (v := ?_) rfl (by as_aux_lemma => kernel_rfl) (by as_aux_lemma => kernel_rfl) (by as_aux_lemma => kernel_rfl) (fun _ _ _ h => h) (by as_aux_lemma => kernel_rfl) (by assumption) ?_ ?_
              rotate_left
              · (intro w hSw; (try dsimp only at hSw); go_simp; try with_reducible rfl)
              simp only [Act.put, List.setIfInBounds_toArray, List.set_cons_zero, List.set_cons_succ]
              refine take_at (i := 58) (v := ?_) rfl (by as_aux_lemma => kernel_rfl) (by as_aux_lemma => kernel_rfl) (by as_aux_lemma => kernel_rfl) (fun _ _ _ h => h) (by as_aux_lemma => kernel_rfl) (by assumption) ?_ ?_
              rotate_left
              · (intro w hSw; (try dsimp only at hSw); go_simp; try with_reducible rfl)
              simp only [Act.put, List.setIfInBounds_toArray, List.set_cons_zero, List.set_cons_succ]
              refine take_at (i := 59) (v := ?_) rfl (by as_aux_lemma => kernel_rfl) (by as_aux_lemma => kernel_rfl) (by as_aux_lemma => kernel_rfl) (fun _ _ _ h => h) (by as_aux_lemma => kernel_rfl) (by assumption) ?_ ?_
              rotate_left
              · (intro w hSw; (try dsimp only at hSw); go_simp; try with_reducible rfl)
              simp only [Act.put, List.setIfInBounds_toArray, List.set_cons_zero, List.set_cons_succ]
              refine take_at (i := 60) (v := ?_) rfl (by as_aux_lemma => kernel_rfl) (by as_aux_lemma => kernel_rfl) (by as_aux_lemma => kernel_rfl) (fun _ _ _ h => h) (by as_aux_lemma => kernel_rfl) (by assumption) ?_ ?_
              rotate_left
              · (intro w hSw; (try dsimp only at hSw); go_simp; try with_reducible rfl)
              simp only [Act.put, List.setIfInBounds_toArray, List.set_cons_zero, List.set_cons_succ]
              refine take_at (i := 61) (v := ?_) rfl (by as_aux_lemma => kernel_rfl) (by as_aux_lemma => kernel_rfl) (by as_aux_lemma => kernel_rfl) (fun _ _ _ h => h) (by as_aux_lemma => kernel_rfl) (by assumption) ?_ ?_
              rotate_left
              · (intro w hSw; (try dsimp only at hSw); go_simp; try with_reducible rfl)
              simp only [Act.put, List.setIfInBounds_toArray, List.set_cons_zero, List.set_cons_succ]
              refine take_at (i := 64) (v := ?_) rfl (by as_aux_lemma => kernel_rfl) (by as_aux_lemma => kernel_rfl) (by as_aux_lemma => kernel_rfl) (fun _ _ _ h => h) (by as_aux_lemma => kernel_rfl) (by assumption) ?_ ?_
              rotate_left
              · (intro w hSw; (try dsimp only at hSw); go_simp; try with_reducible rfl)
              simp only [Act.put, List.setIfInBounds_toArray, List.set_cons_zero, List.set_cons_succ]
              refine take_at (i := 65) (v := ?_) rfl (by as_aux_lemma => kernel_rfl) (by as_aux_lemma => kernel_rfl) (by as_aux_lemma => kernel_rfl) (fun _ _ _ h => h) (by as_aux_lemma => kernel_rfl) (by assumption) ?_ ?_
              rotate_left
              · (intro w hSw; (try dsimp only at hSw); go_simp; try with_reducible rfl)
              simp only [Act.put, List.setIfInBounds_toArray, List.set_cons_zero, List.set_cons_succ]
              refine take_at (i := 66) (v := ?_) rfl (by as_aux_lemma => kernel_rfl) (by as_aux_lemma => kernel_rfl) (by as_aux_lemma => kernel_rfl) (fun _ _ _ h => h) (by as_aux_lemma => kernel_rfl) (by assumption) ?_ ?_
              rotate_left
              · (intro w hSw; (try dsimp only at hSw); go_simp; try with_reducible rfl)
              simp only [Act.put, List.setIfInBounds_toArray, List.set_cons_zero, List.set_cons_succ]
              refine take_at (i := 68) (v := ?_) rfl (by as_aux_lemma => kernel_rfl) (by as_aux_lemma => kernel_rfl) (by as_aux_lemma => kernel_rfl) (fun _ _ _ h => h) (by as_aux_lemma => kernel_rfl) (by assumption) ?_ ?_
              rotate_left
              · (intro w hSw; (try dsimp only at hSw); go_simp; try with_reducible rfl)
              simp only [Act.put, List.setIfInBounds_toArray, List.set_cons_zero, List.set_cons_succ]
              refine take_at (i := 71) (v := ?_) rfl (by as_aux_lemma => kernel_rfl) (by as_aux_lemma => kernel_rfl) (by as_aux_lemma => kernel_rfl) (fun _ _ _ h => h) (by as_aux_lemma => kernel_rfl) (by assumption) ?_ ?_
              rotate_left
              · (intro w hSw; (try dsimp only at hSw); go_simp; try with_reducible rfl)
              simp only [Act.put, List.setIfInBounds_toArray, List.set_cons_zero, List.set_cons_succ]
              refine many_at (I := [(62, some 195), (63, some 196), (67, some 200)]) (fun _ => []) [true, true, true, true, true, true, true, true, true, true, true, true, true, true, true, true, true, true, true, true, true, true, true, true, true, true, true, true, true, true, true, true, true, true, true, true, true, true, true, true, true, true, true, true, true, true, true, true, true, true, true, true, true, true, true, true, true, true, true, true, true, true, false, false, true, true, true, false, true, false, false, true, false, false, false, false, false, false, false, false, false, false, false, false, false, false, false] (listed' := #[true, true, true, true, true, true, true, true, true, true, true, true, true, true, true, true, true, true, true, true, true, true, true, true, true, true, true, true, true, true, true, true, true, true, true, true, true, true, true, true, true, true, true, true, true, true, true, true, true, true, true, true, true, true, true, true, true, true, true, true, true, true, true, true, true, true, true, true, true, false, false, true, false, false, false, false, false, false, false, false, false, false, false, false, false, false, false]) (MInv [(62, wh), (63, 5), (67, p0)] w17) rfl rfl (by decide) (by as_aux_lemma => kernel_rfl) (by as_aux_lemma => kernel_rfl) (fun _ => MInv.start HW.out) hHeld ?_ ?_
              · clear HW hHeld
                refine List.forall_mem_cons.2 ⟨?_, List.forall_mem_cons.2 ⟨?_, List.forall_mem_cons.2 ⟨?_, fun _ h => by cases h⟩⟩⟩
                · refine StepM.mk rfl rfl (fun y => (by as_aux_lemma => kernel_rfl)) (fun f y u hf hdp hI hHeld K hK => ?_)
                  have HI' := Lib.hid (hI.new 62 (wh) (by intro p hp he; simp only [List.mem_cons, List.not_mem_nil, or_false] at hp; rcases hp with rfl | rfl | rfl <;> first | rfl | (simp at he)))
                  clear hI hf hdp
                  simp only [actM, List.foldl_cons, List.foldl_nil, Act.put, List.setIfInBounds_toArray, List.set_cons_zero, List.set_cons_succ]
                  go_wp2_with fail
                  exact hK.out (.slice (some ⟨u.heap.size, 0, none⟩) 1 1) _ _ (by as_aux_lemma => kernel_rfl) HI'.out (HKEEP.out _ HI'.out.2)
                · refine StepM.mk rfl rfl (fun y => (by as_aux_lemma => kernel_rfl)) (fun f y u hf hdp hI hHeld K hK => ?_)
                  have HI' := Lib.hid (hI.new 63 (5) (by intro p hp he; simp only [List.mem_cons, List.not_mem_nil, or_false] at hp; rcases hp with rfl | rfl | rfl <;> first | rfl | (simp at he)))
                  clear hI hf hdp
                  simp only [actM, List.foldl_cons, List.foldl_nil, Act.put, List.setIfInBounds_toArray, List.set_cons_zero, List.set_cons_succ]
                  go_wp2_with fail
                  exact hK.out (.slice (some ⟨u.heap.size, 0, none⟩) 1 1) _ _ (by as_aux_lemma => kernel_rfl) HI'.out (HKEEP.out _ HI'.out.2)
                · refine StepM.mk rfl rfl (fun y => (by as_aux_lemma => kernel_rfl)) (fun f y u hf hdp hI hHeld K hK => ?_)
                  have HI' := Lib.hid (hI.new 67 (p0) (by intro p hp he; simp only [List.mem_cons, List.not_mem_nil, or_false] at hp; rcases hp with rfl | rfl | rfl <;> first | rfl | (simp at he)))
                  clear hI hf hdp
                  simp only [actM, List.foldl_cons, List.foldl_nil, Act.put, List.setIfInBounds_toArray, List.set_cons_zero, List.set_cons_succ]
                  go_wp2_with fail
                  exact hK.out (.slice (some ⟨u.heap.size, 0, none⟩) 1 1) _ _ (by as_aux_lemma => kernel_rfl) HI'.out (HKEEP.out _ HI'.out.2)
              · clear HW hHeld
                intro y m10 hI hHeld
                obtain ⟨b62, f62, n62⟩ := hI.get 62 (wh) (by simp) rfl
                have N62 := Lib.hid n62
                obtain ⟨b63, f63, n63⟩ := hI.get 63 (5) (by simp) rfl
                have N63 := Lib.hid n63
                obtain ⟨b67, f67, n67⟩ := hI.get 67 (p0) (by simp) rfl
                have N67 := Lib.hid n67
                have HW := Lib.hid hI.2
                simp only [actM, List.foldl_cons, List.foldl_nil, Act.put, List.setIfInBounds_toArray, List.set_cons_zero, List.set_cons_succ]
                rw [f62, f63, f67]
                clear hI f62 n62 f63 n63 f67 n67
                refine do_at (i := 69) rfl (by as_aux_lemma => kernel_rfl) (by as_aux_lemma => kernel_rfl) (fun K hK => ?_)
                have HQ69 := Lib.hid (mat_lit m10 [.slice (some ⟨b62, 0, none⟩) 1 1, .slice (some ⟨b63, 0, none⟩) 1 1, .slice (some ⟨b67, 0, none⟩) 1 1, .slice (some ⟨tb, 0, none⟩) 1 1] [[wh], [5], [p0], [(m : Int)]] 4 m10.heap.size rfl rfl rfl (by simp) (fun i hi => by
                    match i, hi with
                    | 0, _ => exact N62.out
                    | 1, _ => exact N63.out
                    | 2, _ => exact N67.out
                    | 3, _ => exact HN17.out.below HW.out
                    | k + 4, hi => exact absurd hi (by simp only [List.length_cons, List.length_nil]; omega)))
                go_wp2_with fail
                obtain ⟨m11, hu⟩ : ∃ u, u = m10.alloc (.cells #[.slice (some ⟨b62, 0, none⟩) 1 1, .slice (some ⟨b63, 0, none⟩) 1 1, .slice (some ⟨b67, 0, none⟩) 1 1, .slice (some ⟨tb, 0, none⟩) 1 1] 50) := ⟨_, rfl⟩
                rw [← hu]
                have bb : Below m10.heap.size m10 m11 := by rw [hu]; exact (Below.refl _ _).alloc (Nat.le_refl _) _
                obtain ⟨g69, hg69⟩ : ∃ b, b = m10.heap.size := ⟨_, rfl⟩
                have M69 := Lib.hid (show MatAt m11 (fun _ => True) (.slice (some ⟨g69, 0, none⟩) 4 4) [[wh], [5], [p0], [(m : Int)]] by rw [hu, hg69]; exact HQ69.out)
                rw [← hg69]
                replace HW := Lib.hid (HW.out.trans (bb.mono HW.out.size))
                clear bb hu hg69 HQ69 N62 N63 N67
                refine hK.out _ _ ?_ (fun hHeld => ?_)
                · exact HKEEP.out _ HW.out
                clear hK K
                try simp only [List.setIfInBounds_toArray, List.set_cons_zero, List.set_cons_succ]
                refine do_at (i := 70) rfl (by as_aux_lemma => kernel_rfl) (by as_aux_lemma => kernel_rfl) (fun K hK => ?_)
                go_simp
                refine (D4.out _ _ M69.out).mono ?_
                rintro e m12 ⟨rfl, bb⟩
                replace HW := Lib.hid (HW.out.trans (bb.mono HW.out.size))
                clear bb M69
                go_wp2_with fail
                refine hK.out _ _ ?_ (fun hHeld => ?_)
                · exact HKEEP.out _ HW.out
                clear hK K
                try simp only [List.setIfInBounds_toArray, List.set_cons_zero, List.set_cons_succ]
                refine take_at (i := 72) (v := ?_) rfl (by as_aux_lemma => kernel_rfl) (by as_aux_lemma => kernel_rfl) (by as_aux_lemma => kernel_rfl) (fun _ _ _ h => h) (by as_aux_lemma => kernel_rfl) (by assumption) ?_ ?_
                rotate_left
                · (intro w hSw; (try dsimp only at hSw); go_simp; try with_reducible rfl)
                simp only [Act.put, List.setIfInBounds_toArray, List.set_cons_zero, List.set_cons_succ]
                refine take_at (i := 73) (v := ?_) rfl (by as_aux_lemma => kernel_rfl) (by as_aux_lemma => kernel_rfl) (by as_aux_lemma => kernel_rfl) (fun _ _ _ h => h) (by as_aux_lemma => kernel_rfl) (by assumption) ?_ ?_
                rotate_left
                · (intro w hSw; (try dsimp only at hSw); go_simp; try with_reducible rfl)
                simp only [Act.put, List.setIfInBounds_toArray, List.set_cons_zero, List.set_cons_succ]
                refine take_at (i := 74) (v := ?_) rfl (by as_aux_lemma => kernel_rfl) (by as_aux_lemma => kernel_rfl) (by as_aux_lemma => kernel_rfl) (fun _ _ _ h => h) (by as_aux_lemma => kernel_rfl) (by assumption) ?_ ?_
                rotate_left
                · (intro w hSw; (try dsimp only at hSw); go_simp; try with_reducible rfl)
                simp only [Act.put, List.setIfInBounds_toArray, List.set_cons_zero, List.set_cons_succ]
                refine take_at (i := 75) (v := ?_) rfl (by as_aux_lemma => kernel_rfl) (by as_aux_lemma => kernel_rfl) (by as_aux_lemma => kernel_rfl) (fun _ _ _ h => h) (by as_aux_lemma => kernel_rfl) (by assumption) ?_ ?_
                rotate_left
                · (intro w hSw; (try dsimp only at hSw); go_simp; try with_reducible rfl)
                simp only [Act.put, List.setIfInBounds_toArray, List.set_cons_zero, List.set_cons_succ]
                refine take_at (i := 76) (v := ?_) rfl (by as_aux_lemma => kernel_rfl) (by as_aux_lemma => kernel_rfl) (by as_aux_lemma => kernel_rfl) (fun _ _ _ h => h) (by as_aux_lemma => kernel_rfl) (by assumption) ?_ ?_
                rotate_left
                · (intro w hSw; (try dsimp only at hSw); go_simp; try with_reducible rfl)
                simp only [Act.put, List.setIfInBounds_toArray, List.set_cons_zero, List.set_cons_succ]
                refine take_at (i := 77) (v := ?_) rfl (by as_aux_lemma => kernel_rfl) (by as_aux_lemma => kernel_rfl) (by as_aux_lemma => kernel_rfl) (fun _ _ _ h => h) (by as_aux_lemma => kernel_rfl) (by assumption) ?_ ?_
                rotate_left
                · (intro w hSw; (try dsimp only at hSw); go_simp; try with_reducible rfl)
                simp only [Act.put, List.setIfInBounds_toArray, List.set_cons_zero, List.set_cons_succ]
                refine take_at (i := 78) (v := ?_) rfl (by as_aux_lemma => kernel_rfl) (by as_aux_lemma => kernel_rfl) (by as_aux_lemma => kernel_rfl) (fun _ _ _ h => h) (by as_aux_lemma => kernel_rfl) (by assumption) ?_ ?_
                rotate_left
                · (intro w hSw; (try dsimp only at hSw); go_simp; try with_reducible rfl)
                simp only [Act.put, List.setIfInBounds_toArray, List.set_cons_zero, List.set_cons_succ]
                refine take_at (i := 79) (v := ?_) rfl (by as_aux_lemma => kernel_rfl) (by as_aux_lemma => kernel_rfl) (by as_aux_lemma => kernel_rfl) (fun _ _ _ h => h) (by as_aux_lemma => kernel_rfl) (by assumption) ?_ ?_
                rotate_left
                · (intro w hSw; (try dsimp only at hSw); go_simp; try with_reducible rfl)
                simp only [Act.put, List.setIfInBounds_toArray, List.set_cons_zero, List.set_cons_succ]
                refine take_at (i := 81) (v := ?_) rfl (by as_aux_lemma => kernel_rfl) (by as_aux_lemma => kernel_rfl) (by as_aux_lemma => kernel_rfl) (fun _ _ _ h => h) (by as_aux_lemma => kernel_rfl) (by assumption) ?_ ?_
                rotate_left
                · (intro w hSw; (try dsimp only at hSw); go_simp; try with_reducible rfl)
                simp only [Act.put, List.setIfInBounds_toArray, List.set_cons_zero, List.set_cons_succ]
                refine take_at (i := 84) (v := ?_) rfl (by as_aux_lemma => kernel_rfl) (by as_aux_lemma => kernel_rfl) (by as_aux_lemma => kernel_rfl) (fun _ _ _ h => h) (by as_aux_lemma => kernel_rfl) (by assumption) ?_ ?_
                rotate_left
                · (intro w hSw; (try dsimp only at hSw); go_simp; try with_reducible rfl)
                simp only [Act.put, List.setIfInBounds_toArray, List.set_cons_zero, List.set_cons_succ]
                refine do_at (i := 80) rfl (by as_aux_lemma => kernel_rfl) (by as_aux_lemma => kernel_rfl) (fun K hK => ?_)
                have HQ80 := Lib.hid (nums_lit m12 [wh, 5, p0] 3 m12.heap.size rfl rfl (by simp))
                go_wp2_with fail
                obtain ⟨m13, hu⟩ : ∃ u, u = m12.alloc (.cells #[.int .i64 wh, .int .i64 5, .int .i64 p0] 3) := ⟨_, rfl⟩
                rw [← hu]
                have bb : Below m12.heap.size m12 m13 := by rw [hu]; exact (Below.refl _ _).alloc (Nat.le_refl _) _
                obtain ⟨b80, hb80⟩ : ∃ b, b = m12.heap.size := ⟨_, rfl⟩
                have N80 := Lib.hid (show NumsAt m13 (fun _ => True) (.slice (some ⟨b80, 0, none⟩) 3 3) [wh, 5, p0] by rw [hu, hb80]; exact HQ80.out)
                rw [← hb80]
                replace HW := Lib.hid (HW.out.trans (bb.mono HW.out.size))
                clear bb hu hb80 HQ80
                refine hK.out _ _ ?_ (fun hHeld => ?_)
                · exact HKEEP.out _ HW.out
                clear hK K
                try simp only [List.setIfInBounds_toArray, List.set_cons_zero, List.set_cons_succ]
                refine do_at (i := 82) rfl (by as_aux_lemma => kernel_rfl) (by as_aux_lemma => kernel_rfl) (fun K hK => ?_)
                have HQ82 := Lib.hid (mat_lit m13 [.slice (some ⟨b80, 0, none⟩) 3 3, .slice (some ⟨tb, 0, none⟩) 1 1] [[wh, 5, p0], [(m : Int)]] 2 m13.heap.size rfl rfl rfl (by simp) (fun i hi => by
                    match i, hi with
                    | 0, _ => exact N80.out
                    | 1, _ => exact HN17.out.below HW.out
                    | k + 2, hi => exact absurd hi (by simp only [List.length_cons, List.length_nil]; omega)))
                go_wp2_with fail
                obtain ⟨m14, hu⟩ : ∃ u, u = m13.alloc (.cells #[.slice (some ⟨b80, 0, none⟩) 3 3, .slice (some ⟨tb, 0, none⟩) 1 1] 50) := ⟨_, rfl⟩
                rw [← hu]
                have bb : Below m13.heap.size m13 m14 := by rw [hu]; exact (Below.refl _ _).alloc (Nat.le_refl _) _
                obtain ⟨g82, hg82⟩ : ∃ b, b = m13.heap.size := ⟨_, rfl⟩
                have M82 := Lib.hid (show MatAt m14 (fun _ => True) (.slice (some ⟨g82, 0, none⟩) 2 2) [[wh, 5, p0], [(m : Int)]] by rw [hu, hg82]; exact HQ82.out)
                rw [← hg82]
                replace HW := Lib.hid (HW.out.trans (bb.mono HW.out.size))
                clear bb hu hg82 HQ82 N80
                refine hK.out _ _ ?_ (fun hHeld => ?_)
                · exact HKEEP.out _ HW.out
                clear hK K
                try simp only [List.setIfInBounds_toArray, List.set_cons_zero, List.set_cons_succ]
                refine do_at (i := 83) rfl (by as_aux_lemma => kernel_rfl) (by as_aux_lemma => kernel_rfl) (fun K hK => ?_)
                go_simp
                refine (D5.out _ _ M82.out).mono ?_
                rintro e m15 ⟨rfl, bb⟩
                replace HW := Lib.hid (HW.out.trans (bb.mono HW.out.size))
                clear bb M82
                go_wp2_with fail
                refine hK.out _ _ ?_ (fun hHeld => ?_)
                · exact HKEEP.out _ HW.out
                clear hK K
                try simp only [List.setIfInBounds_toArray, List.set_cons_zero, List.set_cons_succ]
                refine take_at (i := 85) (v := ?_) rfl (by as_aux_lemma => kernel_rfl) (by as_aux_lemma => kernel_rfl) (by as_aux_lemma => kernel_rfl) (fun _ _ _ h => h) (by as_aux_lemma => kernel_rfl) (by assumption) ?_ ?_
                rotate_left
                · (intro w hSw; (try dsimp only at hSw); go_simp; try with_reducible rfl)
                simp only [Act.put, List.setIfInBounds_toArray, List.set_cons_zero, List.set_cons_succ]
                refine take_at (i := 86) (v := ?_) rfl (by as_aux_lemma => kernel_rfl) (by as_aux_lemma => kernel_rfl) (by as_aux_lemma => kernel_rfl) (fun _ _ _ h => h) (by as_aux_lemma => kernel_rfl) (by assumption) ?_ ?_
                rotate_left
                · (intro w hSw; (try dsimp only at hSw); go_simp; try with_reducible rfl)
                simp only [Act.put, List.setIfInBounds_toArray, List.set_cons_zero, List.set_cons_succ]
                refine wpAnyH_done (by as_aux_lemma => kernel_rfl) ?_ _
                have HWN := Lib.hid (HW17.out.trans (HW.out.mono HW17.out.size))
                clear HW HKEEP hHeld hqa hqb HQA HQB
                go_wp2
                go_roundg (gk - 1)
                case rel => exact ⟨k + 1, by omega, by omega, by go_num, HWN⟩
                case measure => omega
          · have hlti : decide ((k : Int) < 2) = false := by simp; omega
            have HBE := Lib.hid (HF9.out.trans (HWR.out.mono HF9.out.size))
            go_wp2
            go_ret
            exact ⟨rfl, HBE.out⟩
end Go.Proofs.YtlmhnebgkginkaaDoor.Lab
