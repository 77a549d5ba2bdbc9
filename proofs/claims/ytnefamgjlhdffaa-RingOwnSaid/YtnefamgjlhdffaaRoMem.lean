/- Rows of cells in memory: as they can be read, as the call's own. -/
import Derived.Test.YtnefamgjlhdffaaRoMath
import Derived.Test.YtnefamgjlhdffaaAtMath
import Derived.Test.YtnefamgjlhdffaaProg
import Derived.WalkKit
import Derived.BigRegion
import Derived.BigQuiet
import Derived.Deep.QuietTactic
import Derived.IntWalk
import Derived.Below
import Derived.Lib.Hide
import Derived.Deep.Draws
import Derived.Laws.BitsAllLaws
import Derived.OwnWalk
import Derived.Laws.OwnMore
import Derived.Laws.AppendOwnNone
import Derived.Outline
import Derived.LoopTactic
import Derived.Deep.LoopGhost
namespace Go.Proofs.Ytnefamgjlhdffaa.Lab
open Go Go.RowKit

/-- A cell's fourteen cells; a cell as a value. -/
def cells14 (c : Cel) : List Value := [.int .i32 c.ru, .int .i32 c.m0, .int .i32 c.m1, .int .u8 c.k, .int .u8 c.a.fg.k, .int .u8 c.a.fg.r, .int .u8 c.a.fg.g, .int .u8 c.a.fg.b, .int .u8 c.a.bg.k, .int .u8 c.a.bg.r, .int .u8 c.a.bg.g, .int .u8 c.a.bg.b, .int .u16 (c.a.fl : Nat), .int .u8 c.l]
abbrev celV (c : Cel) : Value := .agg #[.int .i32 c.ru, .int .i32 c.m0, .int .i32 c.m1, .int .u8 c.k, .int .u8 c.a.fg.k, .int .u8 c.a.fg.r, .int .u8 c.a.fg.g, .int .u8 c.a.fg.b, .int .u8 c.a.bg.k, .int .u8 c.a.bg.r, .int .u8 c.a.bg.g, .int .u8 c.a.bg.b, .int .u16 (c.a.fl : Nat), .int .u8 c.l]
theorem celV_cells (c : Cel) : celV c = .agg (cells14 c).toArray := rfl
def flat14 (R : Cls) : List Value := R.flatMap cells14
theorem flat14_len : ∀ R : Cls, (flat14 R).length = R.length * 14
  | [] => rfl
  | c :: R => by
    show (cells14 c ++ flat14 R).length = _
    rw [List.length_append, flat14_len R]
    simp [cells14]
    omega
theorem flat14_get : ∀ (R : Cls) (i j : Nat), i < R.length → j < 14 → (flat14 R)[i * 14 + j]? = (cells14 (gc R i))[j]?
  | [], i, j, h, _ => by simp at h
  | c :: R, 0, j, h, hj => by
    show (cells14 c ++ flat14 R)[0 * 14 + j]? = _
    rw [List.getElem?_append_left (by simp [cells14]; omega)]
    simp [gc]
  | c :: R, i + 1, j, h, hj => by
    have h' : i < R.length := by simpa using h
    show (cells14 c ++ flat14 R)[(i + 1) * 14 + j]? = _
    rw [List.getElem?_append_right (by simp [cells14]; omega)]
    have e : (i + 1) * 14 + j - (cells14 c).length = i * 14 + j := by simp [cells14]; omega
    rw [e, flat14_get R i j h' hj]
    simp [gc]
theorem flat14_append (R S : Cls) : flat14 (R ++ S) = flat14 R ++ flat14 S := by simp [flat14]
theorem flat14_one (R : Cls) : ∀ u ∈ flat14 R, u.oneCell' = true := by
  intro u hu
  obtain ⟨c, _, hu⟩ := List.mem_flatMap.1 hu
  simp [cells14] at hu
  rcases hu with rfl | rfl | rfl | rfl | rfl | rfl | rfl | rfl | rfl | rfl | rfl | rfl | rfl | rfl <;> rfl
/-- One field of one cell changed. -/
theorem flat14_set : ∀ (R : Cls) (i j : Nat) (u : Value) (c : Cel), i < R.length → j < 14 → cells14 c = (cells14 (gc R i)).set j u → (flat14 R).set (i * 14 + j) u = flat14 (R.set i c)
  | [], i, _, _, _, h, _, _ => by simp at h
  | d :: R, 0, j, u, c, _, hj, hc => by
    show (cells14 d ++ flat14 R).set (0 * 14 + j) u = cells14 c ++ flat14 R
    have hc' : cells14 c = (cells14 d).set j u := hc
    rw [List.set_append_left _ _ (by simp [cells14]; omega), hc']
    simp
  | d :: R, i + 1, j, u, c, h, hj, hc => by
    have h' : i < R.length := by simpa using h
    show (cells14 d ++ flat14 R).set ((i + 1) * 14 + j) u = cells14 d ++ flat14 (R.set i c)
    rw [List.set_append_right _ _ (by simp [cells14]; omega)]
    have e : (i + 1) * 14 + j - (cells14 d).length = i * 14 + j := by simp [cells14]; omega
    rw [e, flat14_set R i j u c h' hj hc]

/-- A cell stands at a place of a block. -/
def C14 (w : World) (g o : Nat) (c : Cel) : Prop :=
  w.cell? ⟨g, o, none⟩ = some (.int .i32 c.ru) ∧ w.cell? ⟨g, o + 1, none⟩ = some (.int .i32 c.m0) ∧ w.cell? ⟨g, o + 2, none⟩ = some (.int .i32 c.m1) ∧ w.cell? ⟨g, o + 3, none⟩ = some (.int .u8 c.k) ∧
  w.cell? ⟨g, o + 4, none⟩ = some (.int .u8 c.a.fg.k) ∧ w.cell? ⟨g, o + 5, none⟩ = some (.int .u8 c.a.fg.r) ∧ w.cell? ⟨g, o + 6, none⟩ = some (.int .u8 c.a.fg.g) ∧ w.cell? ⟨g, o + 7, none⟩ = some (.int .u8 c.a.fg.b) ∧
  w.cell? ⟨g, o + 8, none⟩ = some (.int .u8 c.a.bg.k) ∧ w.cell? ⟨g, o + 9, none⟩ = some (.int .u8 c.a.bg.r) ∧ w.cell? ⟨g, o + 10, none⟩ = some (.int .u8 c.a.bg.g) ∧ w.cell? ⟨g, o + 11, none⟩ = some (.int .u8 c.a.bg.b) ∧
  w.cell? ⟨g, o + 12, none⟩ = some (.int .u16 (c.a.fl : Nat)) ∧ w.cell? ⟨g, o + 13, none⟩ = some (.int .u8 c.l)
theorem C14.of {w : World} {g o : Nat} {c : Cel} (h : ∀ j u, j < 14 → (cells14 c)[j]? = some u → w.cell? ⟨g, o + j, none⟩ = some u) : C14 w g o c :=
  ⟨h 0 _ (by decide) rfl, h 1 _ (by decide) rfl, h 2 _ (by decide) rfl, h 3 _ (by decide) rfl, h 4 _ (by decide) rfl, h 5 _ (by decide) rfl, h 6 _ (by decide) rfl, h 7 _ (by decide) rfl, h 8 _ (by decide) rfl, h 9 _ (by decide) rfl, h 10 _ (by decide) rfl, h 11 _ (by decide) rfl, h 12 _ (by decide) rfl, h 13 _ (by decide) rfl⟩
theorem C14.same {w w' : World} {g o : Nat} {c : Cel} (h : C14 w g o c) (e : w'.heap[g]? = w.heap[g]?) : C14 w' g o c := by
  have k : ∀ i, w'.cell? ⟨g, i, none⟩ = w.cell? ⟨g, i, none⟩ := fun i => World.cell?_of_block e
  obtain ⟨h0, h1, h2, h3, h4, h5, h6, h7, h8, h9, h10, h11, h12, h13⟩ := h
  exact ⟨(k _).trans h0, (k _).trans h1, (k _).trans h2, (k _).trans h3, (k _).trans h4, (k _).trans h5, (k _).trans h6, (k _).trans h7, (k _).trans h8, (k _).trans h9, (k _).trans h10, (k _).trans h11, (k _).trans h12, (k _).trans h13⟩
/-- A row as it can be read. -/
def RowIn (w : World) (v : Value) (R : Cls) : Prop :=
  ∃ a c, v = .slice a R.length c ∧ R.length ≤ c ∧ R.length ≤ maxLen ∧ (0 < R.length → ∃ g o, a = some ⟨g, o, none⟩ ∧ g < w.heap.size ∧ ∀ i, i < R.length → C14 w g (o + i * 14) (gc R i))
theorem RowIn.below {w w' : World} {v : Value} {R : Cls} (h : RowIn w v R) (hb : Below w.heap.size w w') : RowIn w' v R := by
  obtain ⟨a, c, e, hc, hm, h⟩ := h
  refine ⟨a, c, e, hc, hm, fun h0 => ?_⟩
  obtain ⟨g, o, ea, hg, hC⟩ := h h0
  exact ⟨g, o, ea, Nat.lt_of_lt_of_le hg hb.size, fun i hi => (hC i hi).same (hb.block g hg)⟩
theorem RowIn.shape {w : World} {v : Value} {R : Cls} (h : RowIn w v R) : ∃ a c, v = .slice a R.length c := by
  obtain ⟨a, c, e, _⟩ := h
  exact ⟨a, c, e⟩
theorem RowIn.open {w : World} {v : Value} {R : Cls} (h : RowIn w v R) (h0 : 0 < R.length) : ∃ g o c, v = .slice (some ⟨g, o, none⟩) R.length c ∧ R.length ≤ c ∧ g < w.heap.size ∧ ∀ i, i < R.length → C14 w g (o + i * 14) (gc R i) := by
  obtain ⟨a, c, e, hc, hm, h⟩ := h
  obtain ⟨g, o, ea, hg, hC⟩ := h h0
  exact ⟨g, o, c, by rw [e, ea], hc, hg, hC⟩
theorem RowIn.nil (w : World) (a : Option Addr) (c : Nat) : RowIn w (.slice a 0 c) [] := ⟨a, c, rfl, by simp, by simp, fun h => by simp at h⟩

/-- A row of the call's own. -/
def CRow (w : World) (lo : Nat) (v : Value) (R : Cls) : Prop := w.ownsRow lo 47 14 v R.length (flat14 R)
theorem own_below {w w' : World} {lo size n : Nat} {e : TypeId} {v : Value} {xs : List Value} (h : w.ownsRow lo e size v n xs) (hb : Below w.heap.size w w') : w'.ownsRow lo e size v n xs := by
  refine h.kept (row := none) ⟨hb.os, hb.tape, hb.output, hb.size, fun k hk _ => hb.block k hk⟩ ?_
  cases hv : v.ownBlock with
  | none => exact .inl rfl
  | some b => exact .inr (by simp)
theorem own_lower {w : World} {lo lo' n size : Nat} {e : TypeId} {v : Value} {xs : List Value} (h : w.ownsRow lo e size v n xs) (hl : lo' ≤ lo) : w.ownsRow lo' e size v n xs := by
  refine ⟨h.1, ?_⟩
  rcases h.2 with hn | ⟨g, cap, cur, e, hb, rest⟩
  · exact .inl hn
  · exact .inr ⟨g, cap, cur, e, Nat.le_trans hl hb, rest⟩
theorem CRow.below {w w' : World} {lo : Nat} {v : Value} {R : Cls} (h : CRow w lo v R) (hb : Below w.heap.size w w') : CRow w' lo v R := own_below h hb
theorem CRow.lower {w : World} {lo lo' : Nat} {v : Value} {R : Cls} (h : CRow w lo v R) (hl : lo' ≤ lo) : CRow w lo' v R := own_lower h hl
theorem CRow.nil (w : World) (lo : Nat) : CRow w lo (.slice none 0 0) [] := World.ownsRow_nil w lo _ 14
theorem CRow.shape {w : World} {lo : Nat} {v : Value} {R : Cls} (h : CRow w lo v R) : ∃ a c, v = .slice a R.length c := by
  rcases h.2 with ⟨rfl, h0⟩ | ⟨g, cap, cur, rfl, _⟩
  · exact ⟨none, 0, by rw [h0]⟩
  · exact ⟨_, cap, rfl⟩
theorem CRow.here {w : World} {lo : Nat} {v : Value} {R : Cls} (h : CRow w lo v R) (h0 : 0 < R.length) : ∃ g c, v = .slice (some ⟨g, 0, none⟩) R.length c ∧ lo ≤ g ∧ g < w.heap.size := by
  rcases h.2 with ⟨rfl, h1⟩ | ⟨g, cap, cur, rfl, _⟩
  · omega
  · have := h.lt g rfl
    exact ⟨g, cap, rfl, this.1, this.2⟩
theorem CRow.at {w : World} {lo g n c : Nat} {R : Cls} (h : CRow w lo (.slice (some ⟨g, 0, none⟩) n c) R) {i : Nat} (hi : i < R.length) : C14 w g (i * 14) (gc R i) := by
  refine C14.of fun j u hj hu => ?_
  have := h.cells (g := g) rfl (i * 14 + j) u (by rw [flat14_get R i j hi hj]; exact hu)
  rw [Addr.add_mid, Nat.zero_add] at this
  exact this
theorem own_max {w : World} {lo size n : Nat} {e : TypeId} {v : Value} {xs : List Value} (h : w.ownsRow lo e size v n xs) : n ≤ maxLen := by
  rcases h.2 with ⟨_, rfl⟩ | ⟨g, cap, cur, _, _, _, _, h1, _⟩
  · exact Nat.zero_le _
  · omega
theorem CRow.row {w : World} {lo : Nat} {v : Value} {R : Cls} (h : CRow w lo v R) : RowIn w v R := by
  have hm := own_max h
  rcases h.2 with ⟨rfl, h0⟩ | ⟨g, cap, cur, rfl, _, _, hnc, _⟩
  · obtain rfl : R = [] := List.length_eq_zero_iff.1 h0
    exact RowIn.nil _ _ _
  · refine ⟨_, cap, rfl, hnc, hm, fun _ => ⟨g, 0, rfl, (h.lt g rfl).2, fun i hi => ?_⟩⟩
    rw [Nat.zero_add]
    exact CRow.at h hi
/-- A store into one field. -/
theorem CRow.fld {w : World} {lo g n cp : Nat} {R : Cls} (h : CRow w lo (.slice (some ⟨g, 0, none⟩) n cp) R) (hn : n = R.length) {i j : Nat} {u : Value} {c : Cel} (hi : i < R.length) (hj : j < 14) (hc : cells14 c = (cells14 (gc R i)).set j u) :
    CRow (w.setCell ⟨g, i * 14 + j, none⟩ u) lo (.slice (some ⟨g, 0, none⟩) n cp) (R.set i c) := by
  subst hn
  have := (World.ownsRow.stored h (i * 14 + j) u).1
  rw [flat14_set R i j u c hi hj hc] at this
  unfold CRow
  rw [List.length_set]
  exact this

/-! ### A cell in a block of its own -/
def D14 (w : World) (b : Nat) (c : Cel) : Prop :=
  w.cell? ⟨b, 0, none⟩ = some (.int .i32 c.ru) ∧ w.cell? ⟨b, 1, none⟩ = some (.int .i32 c.m0) ∧ w.cell? ⟨b, 2, none⟩ = some (.int .i32 c.m1) ∧ w.cell? ⟨b, 3, none⟩ = some (.int .u8 c.k) ∧
  w.cell? ⟨b, 4, none⟩ = some (.int .u8 c.a.fg.k) ∧ w.cell? ⟨b, 5, none⟩ = some (.int .u8 c.a.fg.r) ∧ w.cell? ⟨b, 6, none⟩ = some (.int .u8 c.a.fg.g) ∧ w.cell? ⟨b, 7, none⟩ = some (.int .u8 c.a.fg.b) ∧
  w.cell? ⟨b, 8, none⟩ = some (.int .u8 c.a.bg.k) ∧ w.cell? ⟨b, 9, none⟩ = some (.int .u8 c.a.bg.r) ∧ w.cell? ⟨b, 10, none⟩ = some (.int .u8 c.a.bg.g) ∧ w.cell? ⟨b, 11, none⟩ = some (.int .u8 c.a.bg.b) ∧
  w.cell? ⟨b, 12, none⟩ = some (.int .u16 (c.a.fl : Nat)) ∧ w.cell? ⟨b, 13, none⟩ = some (.int .u8 c.l)
def BAt (w : World) (b : Nat) (c : Cel) : Prop := b < w.heap.size ∧ D14 w b c ∧ ∀ i, w.frozen? ⟨b, i, none⟩ = false
theorem D14.same {w w' : World} {b : Nat} {c : Cel} (h : D14 w b c) (e : w'.heap[b]? = w.heap[b]?) : D14 w' b c := by
  have k : ∀ i, w'.cell? ⟨b, i, none⟩ = w.cell? ⟨b, i, none⟩ := fun i => World.cell?_of_block e
  obtain ⟨h0, h1, h2, h3, h4, h5, h6, h7, h8, h9, h10, h11, h12, h13⟩ := h
  exact ⟨(k _).trans h0, (k _).trans h1, (k _).trans h2, (k _).trans h3, (k _).trans h4, (k _).trans h5, (k _).trans h6, (k _).trans h7, (k _).trans h8, (k _).trans h9, (k _).trans h10, (k _).trans h11, (k _).trans h12, (k _).trans h13⟩
theorem BAt.same {w w' : World} {b : Nat} {c : Cel} (h : BAt w b c) (hs : w.heap.size ≤ w'.heap.size) (e : w'.heap[b]? = w.heap[b]?) : BAt w' b c :=
  ⟨by have := h.1; omega, h.2.1.same e, fun i => (World.frozen?_of_block (a := ⟨b, i, none⟩) e).trans (h.2.2 i)⟩
theorem BAt.below {w w' : World} {b : Nat} {c : Cel} (h : BAt w b c) (hb : Below w.heap.size w w') : BAt w' b c := h.same hb.size (hb.block b h.1)
theorem BAt.past {w : World} {b : Nat} {c : Cel} (h : BAt w b c) (o : Obj) : BAt (w.alloc o) b c := h.below ((Below.refl _ _).alloc (Nat.le_refl _) _)
theorem BAt.but {w w' : World} {b B : Nat} {c : Cel} (h : BAt w b c) (k : But B w w') (hb : b ≠ B) : BAt w' b c := h.same k.size (k.block b h.1 (by simp; omega))
theorem BAt.newAt (w : World) (n : Nat) (hn : n = w.heap.size) (c : Cel) (T : TypeId) : BAt (w.alloc (.cells #[.int .i32 c.ru, .int .i32 c.m0, .int .i32 c.m1, .int .u8 c.k, .int .u8 c.a.fg.k, .int .u8 c.a.fg.r, .int .u8 c.a.fg.g, .int .u8 c.a.fg.b, .int .u8 c.a.bg.k, .int .u8 c.a.bg.r, .int .u8 c.a.bg.g, .int .u8 c.a.bg.b, .int .u16 (c.a.fl : Nat), .int .u8 c.l] T)) n c := by
  subst hn
  exact ⟨by simp, ⟨by simp, by simp, by simp, by simp, by simp, by simp, by simp, by simp, by simp, by simp, by simp, by simp, by simp, by simp⟩, fun i => by simp⟩
/-- Fourteen cells written at a block's place. -/
def put14 (w : World) (b o : Nat) (c : Cel) : World :=
  (((((((((((((w.setCell ⟨b, o, none⟩ (.int .i32 c.ru)).setCell ⟨b, o + 1, none⟩ (.int .i32 c.m0)).setCell ⟨b, o + 2, none⟩ (.int .i32 c.m1)).setCell ⟨b, o + 3, none⟩ (.int .u8 c.k)).setCell ⟨b, o + 4, none⟩ (.int .u8 c.a.fg.k)).setCell ⟨b, o + 5, none⟩ (.int .u8 c.a.fg.r)).setCell ⟨b, o + 6, none⟩ (.int .u8 c.a.fg.g)).setCell ⟨b, o + 7, none⟩ (.int .u8 c.a.fg.b)).setCell ⟨b, o + 8, none⟩ (.int .u8 c.a.bg.k)).setCell ⟨b, o + 9, none⟩ (.int .u8 c.a.bg.r)).setCell ⟨b, o + 10, none⟩ (.int .u8 c.a.bg.g)).setCell ⟨b, o + 11, none⟩ (.int .u8 c.a.bg.b)).setCell ⟨b, o + 12, none⟩ (.int .u16 (c.a.fl : Nat))).setCell ⟨b, o + 13, none⟩ (.int .u8 c.l)
theorem put14_but (w : World) (b o : Nat) (c : Cel) : But b w (put14 w b o c) :=
  (((((((((((((But.set w b o _).trans (But.set _ b (o + 1) _)).trans (But.set _ b (o + 2) _)).trans (But.set _ b (o + 3) _)).trans (But.set _ b (o + 4) _)).trans (But.set _ b (o + 5) _)).trans (But.set _ b (o + 6) _)).trans (But.set _ b (o + 7) _)).trans (But.set _ b (o + 8) _)).trans (But.set _ b (o + 9) _)).trans (But.set _ b (o + 10) _)).trans (But.set _ b (o + 11) _)).trans (But.set _ b (o + 12) _)).trans (But.set _ b (o + 13) _)
theorem put14_size (w : World) (b o : Nat) (c : Cel) : (put14 w b o c).heap.size = w.heap.size := by simp [put14]
set_option maxHeartbeats 2000000 in
theorem BAt.put {w : World} {b : Nat} {d : Cel} (h : BAt w b d) (c : Cel) : BAt (put14 w b 0 c) b c := by
  obtain ⟨h0, ⟨a0, a1, a2, a3, a4, a5, a6, a7, a8, a9, a10, a11, a12, a13⟩, hf⟩ := h
  refine ⟨by rw [put14_size]; exact h0, ?_, fun i => by simp [put14, hf i]⟩
  unfold put14
  refine ⟨?_, ?_, ?_, ?_, ?_, ?_, ?_, ?_, ?_, ?_, ?_, ?_, ?_, ?_⟩ <;> simp [World.cell?_setCell_other, World.cell?_setCell_same', a0, a1, a2, a3, a4, a5, a6, a7, a8, a9, a10, a11, a12, a13]
/-- A whole cell stored into a row of the call's own. -/
theorem CRow.put {w : World} {lo g n cp : Nat} {R : Cls} (h : CRow w lo (.slice (some ⟨g, 0, none⟩) n cp) R) (hn : n = R.length) {i : Nat} (hi : i < R.length) (c : Cel) : CRow (put14 w g (i * 14) c) lo (.slice (some ⟨g, 0, none⟩) n cp) (R.set i c) := by
  obtain ⟨d, hd⟩ : ∃ d, d = gc R i := ⟨_, rfl⟩
  have step : ∀ {W : World} {x y : Cel} {j : Nat} {u : Value}, CRow W lo (.slice (some ⟨g, 0, none⟩) n cp) (R.set i x) → j < 14 → cells14 y = (cells14 x).set j u → CRow (W.setCell ⟨g, i * 14 + j, none⟩ u) lo (.slice (some ⟨g, 0, none⟩) n cp) (R.set i y) := by
    intro W x y j u hW hj hc
    have := CRow.fld hW (by rw [List.length_set]; exact hn) (i := i) (j := j) (u := u) (c := y) (by rw [List.length_set]; exact hi) hj (by rw [gc_set hi, if_pos rfl]; exact hc)
    rwa [List.set_set] at this
  have s0 : CRow w lo (.slice (some ⟨g, 0, none⟩) n cp) (R.set i d) := by
    rw [hd, gc_eq hi, List.set_getElem_self]
    exact h
  have s1 := step (y := { d with ru := c.ru }) (j := 0) (u := .int .i32 c.ru) s0 (by decide) rfl
  have s2 := step (y := { d with ru := c.ru, m0 := c.m0 }) (j := 1) (u := .int .i32 c.m0) s1 (by decide) rfl
  have s3 := step (y := { d with ru := c.ru, m0 := c.m0, m1 := c.m1 }) (j := 2) (u := .int .i32 c.m1) s2 (by decide) rfl
  have s4 := step (y := { c with a := d.a, l := d.l }) (j := 3) (u := .int .u8 c.k) s3 (by decide) rfl
  have s5 := step (y := { c with a := { d.a with fg := { d.a.fg with k := c.a.fg.k } }, l := d.l }) (j := 4) (u := .int .u8 c.a.fg.k) s4 (by decide) rfl
  have s6 := step (y := { c with a := { d.a with fg := { d.a.fg with k := c.a.fg.k, r := c.a.fg.r } }, l := d.l }) (j := 5) (u := .int .u8 c.a.fg.r) s5 (by decide) rfl
  have s7 := step (y := { c with a := { d.a with fg := { d.a.fg with k := c.a.fg.k, r := c.a.fg.r, g := c.a.fg.g } }, l := d.l }) (j := 6) (u := .int .u8 c.a.fg.g) s6 (by decide) rfl
  have s8 := step (y := { c with a := { d.a with fg := c.a.fg }, l := d.l }) (j := 7) (u := .int .u8 c.a.fg.b) s7 (by decide) rfl
  have s9 := step (y := { c with a := { d.a with fg := c.a.fg, bg := { d.a.bg with k := c.a.bg.k } }, l := d.l }) (j := 8) (u := .int .u8 c.a.bg.k) s8 (by decide) rfl
  have s10 := step (y := { c with a := { d.a with fg := c.a.fg, bg := { d.a.bg with k := c.a.bg.k, r := c.a.bg.r } }, l := d.l }) (j := 9) (u := .int .u8 c.a.bg.r) s9 (by decide) rfl
  have s11 := step (y := { c with a := { d.a with fg := c.a.fg, bg := { d.a.bg with k := c.a.bg.k, r := c.a.bg.r, g := c.a.bg.g } }, l := d.l }) (j := 10) (u := .int .u8 c.a.bg.g) s10 (by decide) rfl
  have s12 := step (y := { c with a := { c.a with fl := d.a.fl }, l := d.l }) (j := 11) (u := .int .u8 c.a.bg.b) s11 (by decide) rfl
  have s13 := step (y := { c with l := d.l }) (j := 12) (u := .int .u16 (c.a.fl : Nat)) s12 (by decide) rfl
  have s14 := step (y := c) (j := 13) (u := .int .u8 c.l) s13 (by decide) rfl
  exact s14
theorem CRow.frozen {w : World} {lo g n cp : Nat} {R : Cls} (h : CRow w lo (.slice (some ⟨g, 0, none⟩) n cp) R) (hn : n = R.length) (j : Nat) : w.frozen? ⟨g, j, none⟩ = false := by
  subst hn
  exact World.ownsRow.frozenAt h j
end Go.Proofs.Ytnefamgjlhdffaa.Lab
