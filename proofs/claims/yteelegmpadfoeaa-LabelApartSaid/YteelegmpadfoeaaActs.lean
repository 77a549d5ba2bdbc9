/- A slice of acts (a number, a text, a level each) and a labelled text, as they come in: what each cell holds. -/
import Derived.Test.YteelegmpadfoeaaOpen
namespace Go.Proofs.Yteelegmpadfoeaa.Lab
open Go.RowKit Go.ChangeShapes Go.WideShapes Go.ChangeAt Go.Deep Go.Joins

/-- WHAT A SLICE OF ACTS THAT CAME IN IS: of each act the number, the text, the level. -/
def IsActs (W : World) (a : Option Addr) (len cap : Nat) (X : Nat → Int) (S : Nat → ByteArray) (B : Nat → Int) : Prop :=
  len ≤ cap ∧ cap ≤ maxLen ∧ (∀ i, i < len → 0 ≤ X i ∧ X i ≤ 255 ∧ 0 ≤ B i ∧ B i ≤ 255 ∧ (S i).size ≤ maxLen) ∧
      (0 < len → ∃ b off, a = some ⟨b, off, none⟩ ∧ b < W.heap.size ∧ ∀ i, i < len → W.cell? ⟨b, off + i * 3, none⟩ = some (.int .u8 (X i)) ∧ W.cell? ⟨b, off + i * 3 + 1, none⟩ = some (.string (S i)) ∧ W.cell? ⟨b, off + i * 3 + 2, none⟩ = some (.int .u8 (B i)))

section
variable {H : Type} (enc : TypeId × Value → H) (base : Nat) (W : World)

theorem act_at {n : Nat} {cs : List Value} {x : DataW H × List MemPlace} (h : DataW.trod enc Try.prog W 0 (fun _ => true) true n 35 cs = some x) :
    ∃ (u : Int) (s : ByteArray) (v : Int), cs = [.int .u8 u, .string s, .int .u8 v] ∧ 0 ≤ u ∧ u ≤ 255 ∧ 0 ≤ v ∧ v ≤ 255 ∧ s.size ≤ maxLen := by
  obtain ⟨y0, y1, y2, m, _, hl, h0, h1, h2⟩ := trod_struct3 Try.underlying35 h
  have hl3 : cs.length = 3 := hl.trans (by kernel_rfl)
  match cs, hl3 with
  | [c0, c1, c2], _ =>
    obtain ⟨u, e0, _, wu⟩ := DataW.trod_int Try.underlying5 h0
    obtain ⟨s, e1, _, ws⟩ := DataW.trod_string Try.underlying9 h1
    obtain ⟨v, e2, _, wv⟩ := DataW.trod_int Try.underlying25 h2
    have q5 : Try.prog.cellsOf 5 = 1 := by kernel_rfl
    have q9 : Try.prog.cellsOf 9 = 1 := by kernel_rfl
    have q25 : Try.prog.cellsOf 25 = 1 := by kernel_rfl
    simp [q5] at e0
    simp [q9] at e1
    simp [q25] at e2
    subst e0 e1 e2
    have := bounds_u8 wu
    have := bounds_u8 wv
    exact ⟨u, s, v, rfl, by omega, by omega, by omega, by omega, ws⟩

theorem open_acts {v : Value} {d : DataW H} {p : List MemPlace} (ok : Value.okWide Try.prog W .any base 32 v) (k : DataW.Trod enc Try.prog W 0 (fun _ => true) true 32 v d p) :
    ∃ (a : Option Addr) (len cap : Nat) (X : Nat → Int) (S : Nat → ByteArray) (B : Nat → Int), v = .slice a len cap ∧ IsActs W a len cap X S B := by
  obtain ⟨a0, len0, cap0, rfl⟩ := okWide_slice Try.underlying32 ok
  obtain ⟨fuel, hf⟩ := k
  rcases open_slice Try.underlying32 hf with ⟨hcs, _⟩ | ⟨x, len, cap, m, n, D, Pl, hcs, _, hl, hm, hmm, _, hx⟩
  · simp [Value.cells] at hcs
    obtain ⟨rfl, rfl, rfl⟩ := hcs
    exact ⟨none, 0, 0, fun _ => 0, fun _ => ⟨#[]⟩, fun _ => 0, rfl, Nat.le_refl _, by unfold maxLen; omega, fun i hi => by omega, fun h => by omega⟩
  · simp [Value.cells] at hcs
    obtain ⟨rfl, rfl, rfl⟩ := hcs
    simp at hmm
    subst hmm
    have q35 : Try.prog.cellsOf 35 = 3 := by kernel_rfl
    rw [q35] at hx
    have hall : ∀ i, i < m → ∃ (t : Int × ByteArray × Int), (W.cell? (x.add (i * 3)) = some (.int .u8 t.1) ∧ W.cell? ((x.add (i * 3)).add 1) = some (.string t.2.1) ∧ W.cell? ((x.add (i * 3)).add 2) = some (.int .u8 t.2.2)) ∧ 0 ≤ t.1 ∧ t.1 ≤ 255 ∧ 0 ≤ t.2.2 ∧ t.2.2 ≤ 255 ∧ t.2.1.size ≤ maxLen := by
      intro i hi
      obtain ⟨cs', h1, h2⟩ := hx i hi
      obtain ⟨u, s, v, rfl, k1, k2, k3, k4, k5⟩ := act_at enc W h2
      obtain ⟨_, _, hc⟩ := World.cells?_some h1
      refine ⟨(u, s, v), ⟨?_, ?_, ?_⟩, k1, k2, k3, k4, k5⟩
      · simpa [Addr.add] using hc 0 (by omega)
      · exact hc 1 (by omega)
      · exact hc 2 (by omega)
    obtain ⟨T, hT⟩ := choose_lt (p := fun i (t : Int × ByteArray × Int) => (W.cell? (x.add (i * 3)) = some (.int .u8 t.1) ∧ W.cell? ((x.add (i * 3)).add 1) = some (.string t.2.1) ∧ W.cell? ((x.add (i * 3)).add 2) = some (.int .u8 t.2.2)) ∧ 0 ≤ t.1 ∧ t.1 ≤ 255 ∧ 0 ≤ t.2.2 ∧ t.2.2 ≤ 255 ∧ t.2.1.size ≤ maxLen) hall
    refine ⟨some x, len0, m, fun i => (T i).1, fun i => (T i).2.1, fun i => (T i).2.2, rfl, hl, hm, fun i hi => (hT i (by omega)).2, fun h0 => ?_⟩
    obtain ⟨b, off, spot⟩ := x
    have hspot : spot = none := by simpa [Addr.add] using World.cell?_spot (hT 0 (by omega)).1.1
    subst hspot
    have hc := fun i (hi : i < m) => (hT i hi).1
    simp only [add_plain] at hc
    exact ⟨b, off, rfl, block_lt (hc 0 (by omega)).1, fun i hi => hc i (by omega)⟩

theorem open_text {v : Value} {d : DataW H} {p : List MemPlace} (ok : Value.okWide Try.prog W .any base 31 v) (k : DataW.Trod enc Try.prog W 0 (fun _ => true) true 31 v d p) :
    ∃ (s : ByteArray) (l m : Int), v = txt s l m ∧ s.size ≤ maxLen ∧ 0 ≤ l ∧ l ≤ 255 ∧ (Lit.int .i64 m).wf = true := by
  obtain ⟨c0, c1, c2, y0, y1, y2, n, rfl, _, _, h0, h1, h2⟩ := open_agg3 Try.underlying31 (by kernel_rfl) (by kernel_rfl) ok k
  obtain ⟨s, e0, _, ws⟩ := DataW.trod_string Try.underlying9 h0
  obtain ⟨l, e1, _, wl⟩ := DataW.trod_int Try.underlying25 h1
  obtain ⟨m, e2, _, wm⟩ := DataW.trod_int Try.underlying3 h2
  simp at e0 e1 e2
  subst e0 e1 e2
  have := bounds_u8 wl
  exact ⟨s, l, m, rfl, ws, by omega, by omega, wm⟩
end
end Go.Proofs.Yteelegmpadfoeaa.Lab
