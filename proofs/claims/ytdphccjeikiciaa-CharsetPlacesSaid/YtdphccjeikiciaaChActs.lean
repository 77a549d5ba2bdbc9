/- A slice of acts (what, place, byte, rune each), as it comes in; and what 'played' makes of it. -/
import Derived.Test.YtdphccjeikiciaaChWorks
import Derived.Test.YtdphccjeikiciaaTakes
import Derived.ProofKit
import Derived.OpenShut
import Derived.Deep.Slices
import Derived.Lib.SmallJoins
import Derived.ChangeMaps5
namespace Go.Proofs.Ytdphccjeikiciaa.Lab
open Go Go.RowKit Go.ChangeShapes Go.WideShapes Go.ChangeAt Go.Deep Go.Joins Go.ChangeMaps

structure ActV where
  what : Int
  place : Int
  byte : Int
  r : Int

instance : Inhabited ActV := ⟨⟨0, 0, 0, 0⟩⟩
def ActV.Ok (x : ActV) : Prop := (0 ≤ x.what ∧ x.what ≤ 255) ∧ (-128 ≤ x.place ∧ x.place ≤ 127) ∧ (0 ≤ x.byte ∧ x.byte ≤ 255) ∧ -2147483648 ≤ x.r ∧ x.r ≤ 2147483647
def ActAt (W : World) (b o : Nat) (x : ActV) : Prop := W.cell? ⟨b, o, none⟩ = some (.int .u8 x.what) ∧ W.cell? ⟨b, o + 1, none⟩ = some (.int .i8 x.place) ∧ W.cell? ⟨b, o + 2, none⟩ = some (.int .u8 x.byte) ∧ W.cell? ⟨b, o + 3, none⟩ = some (.int .i32 x.r)

/-- WHAT A SLICE OF ACTS THAT CAME IN IS. -/
def IsActs (W : World) (a : Option Addr) (len cap : Nat) (T : Nat → ActV) : Prop :=
  len ≤ cap ∧ cap ≤ maxLen ∧ (∀ i, i < len → (T i).Ok) ∧ (0 < len → ∃ b off, a = some ⟨b, off, none⟩ ∧ b < W.heap.size ∧ ∀ i, i < len → ActAt W b (off + i * 4) (T i))

theorem IsActs.below {W w' : World} {a : Option Addr} {len cap : Nat} {T : Nat → ActV} (h : IsActs W a len cap T) (hb : Below W.heap.size W w') : IsActs w' a len cap T := by
  refine ⟨h.1, h.2.1, h.2.2.1, fun h0 => ?_⟩
  obtain ⟨b, off, e, h1, h2⟩ := h.2.2.2 h0
  refine ⟨b, off, e, Nat.lt_of_lt_of_le h1 hb.size, fun i hi => ?_⟩
  obtain ⟨q1, q2, q3, q4⟩ := h2 i hi
  exact ⟨(hb.cell (p := ⟨b, _, none⟩) h1).trans q1, (hb.cell (p := ⟨b, _, none⟩) h1).trans q2, (hb.cell (p := ⟨b, _, none⟩) h1).trans q3, (hb.cell (p := ⟨b, _, none⟩) h1).trans q4⟩

theorem block_lt {w : World} {b o : Nat} {v : Value} (h : w.cell? ⟨b, o, none⟩ = some v) : b < w.heap.size := by
  rcases Nat.lt_or_ge b w.heap.size with h1 | h1
  · exact h1
  · have : w.heap[b]? = none := by simp; omega
    simp [World.cell?, this] at h

theorem wf_u8 {n : Int} (h : (Lit.int .u8 n).wf = true) : 0 ≤ n ∧ n ≤ 255 := by
  simp [Lit.wf, IntKind.min, IntKind.max, IntKind.bits, IntKind.signed] at h
  omega
theorem wf_i8 {n : Int} (h : (Lit.int .i8 n).wf = true) : -128 ≤ n ∧ n ≤ 127 := by
  simp [Lit.wf, IntKind.min, IntKind.max, IntKind.bits, IntKind.signed] at h
  omega
theorem wf_i32 {n : Int} (h : (Lit.int .i32 n).wf = true) : -2147483648 ≤ n ∧ n ≤ 2147483647 := by
  simp [Lit.wf, IntKind.min, IntKind.max, IntKind.bits, IntKind.signed] at h
  omega

section
variable {H : Type} (enc : TypeId × Value → H) (base : Nat) (W : World)

theorem act_at {n : Nat} {cs : List Value} {x : DataW H × List MemPlace} (h : DataW.trod enc Try.prog W 0 (fun _ => true) true n 30 cs = some x) :
    ∃ y : ActV, cs = [.int .u8 y.what, .int .i8 y.place, .int .u8 y.byte, .int .i32 y.r] ∧ y.Ok := by
  obtain ⟨y0, y1, y2, y3, m, _, hl, h0, h1, h2, h3⟩ := trod_struct4 Try.underlying30 h
  have hl4 : cs.length = 4 := hl.trans (by kernel_rfl)
  match cs, hl4 with
  | [c0, c1, c2, c3], _ =>
    obtain ⟨u, e0, _, wu⟩ := DataW.trod_int Try.underlying5 h0
    obtain ⟨s, e1, _, ws⟩ := DataW.trod_int Try.underlying28 h1
    obtain ⟨v, e2, _, wv⟩ := DataW.trod_int Try.underlying5 h2
    obtain ⟨z, e3, _, wz⟩ := DataW.trod_int Try.underlying21 h3
    have q5 : Try.prog.cellsOf 5 = 1 := by kernel_rfl
    have q9 : Try.prog.cellsOf 28 = 1 := by kernel_rfl
    have q25 : Try.prog.cellsOf 21 = 1 := by kernel_rfl
    simp [q5] at e0
    simp [q9] at e1
    simp [q5] at e2
    simp [q25] at e3
    subst e0 e1 e2 e3
    exact ⟨⟨u, s, v, z⟩, rfl, wf_u8 wu, wf_i8 ws, wf_u8 wv, wf_i32 wz⟩

theorem open_acts {v : Value} {d : DataW H} {p : List MemPlace} (ok : Value.okWide Try.prog W .any base 22 v) (k : DataW.Trod enc Try.prog W 0 (fun _ => true) true 22 v d p) :
    ∃ (a : Option Addr) (len cap : Nat) (T : Nat → ActV), v = .slice a len cap ∧ IsActs W a len cap T := by
  obtain ⟨a0, len0, cap0, rfl⟩ := okWide_slice Try.underlying22 ok
  obtain ⟨fuel, hf⟩ := k
  rcases open_slice Try.underlying22 hf with ⟨hcs, _⟩ | ⟨x, len, cap, m, n, D, Pl, hcs, _, hl, hm, hmm, _, hx⟩
  · simp [Value.cells] at hcs
    obtain ⟨rfl, rfl, rfl⟩ := hcs
    exact ⟨none, 0, 0, fun _ => ⟨0, 0, 0, 0⟩, rfl, Nat.le_refl _, by unfold maxLen; omega, fun i hi => by omega, fun h => by omega⟩
  · simp [Value.cells] at hcs
    obtain ⟨rfl, rfl, rfl⟩ := hcs
    simp at hmm
    subst hmm
    have q35 : Try.prog.cellsOf 30 = 4 := by kernel_rfl
    rw [q35] at hx
    have hall : ∀ i, i < m → ∃ (t : ActV), (W.cell? (x.add (i * 4)) = some (.int .u8 t.what) ∧ W.cell? ((x.add (i * 4)).add 1) = some (.int .i8 t.place) ∧ W.cell? ((x.add (i * 4)).add 2) = some (.int .u8 t.byte) ∧ W.cell? ((x.add (i * 4)).add 3) = some (.int .i32 t.r)) ∧ t.Ok := by
      intro i hi
      obtain ⟨cs', h1, h2⟩ := hx i hi
      obtain ⟨y, rfl, hy⟩ := act_at enc W h2
      obtain ⟨_, _, hc⟩ := World.cells?_some h1
      refine ⟨y, ⟨?_, ?_, ?_, ?_⟩, hy⟩
      · simpa [Addr.add] using hc 0 (by omega)
      · exact hc 1 (by omega)
      · exact hc 2 (by omega)
      · exact hc 3 (by omega)
    obtain ⟨T, hT⟩ := choose_lt (p := fun i (t : ActV) => (W.cell? (x.add (i * 4)) = some (.int .u8 t.what) ∧ W.cell? ((x.add (i * 4)).add 1) = some (.int .i8 t.place) ∧ W.cell? ((x.add (i * 4)).add 2) = some (.int .u8 t.byte) ∧ W.cell? ((x.add (i * 4)).add 3) = some (.int .i32 t.r)) ∧ t.Ok) hall
    refine ⟨some x, len0, m, T, rfl, hl, hm, fun i hi => (hT i (by omega)).2, fun h0 => ?_⟩
    obtain ⟨b, off, spot⟩ := x
    have hspot : spot = none := by simpa [Addr.add] using World.cell?_spot (hT 0 (by omega)).1.1
    subst hspot
    have hc := fun i (hi : i < m) => (hT i hi).1
    simp only [add_plain] at hc
    exact ⟨b, off, rfl, block_lt (hc 0 (by omega)).1, fun i hi => hc i (by omega)⟩
end

/-- What an act makes of a choice, in 'played'. -/
def stepP (k : Ch) (x : ActV) : Ch := if x.what % 4 = 0 then (k.des x.place x.byte).1 else if x.what % 4 = 1 then (k.lock x.byte).1 else if x.what % 4 = 2 then (k.one x.place).1 else (k.map x.r).1
def playedN (T : Nat → ActV) : Nat → Ch
  | 0 => Ch.zero
  | n + 1 => stepP (playedN T n) (T n)
theorem stepP_ok {k : Ch} (h : k.Ok) (x : ActV) : (stepP k x).Ok := by
  unfold stepP
  split
  · exact h.des _ _
  · split
    · exact h.lock _
    · split
      · exact h.one _
      · exact h.map _
theorem playedN_ok (T : Nat → ActV) : ∀ n, (playedN T n).Ok
  | 0 => Ch.Ok.zero
  | n + 1 => stepP_ok (playedN_ok T n) (T n)

theorem ActAt.below {w w' : World} {b o B : Nat} {x : ActV} (h : ActAt w b o x) (hB : b < B) (hb : Below B w w') : ActAt w' b o x := by
  obtain ⟨q1, q2, q3, q4⟩ := h
  exact ⟨(hb.cell (p := ⟨b, _, none⟩) hB).trans q1, (hb.cell (p := ⟨b, _, none⟩) hB).trans q2, (hb.cell (p := ⟨b, _, none⟩) hB).trans q3, (hb.cell (p := ⟨b, _, none⟩) hB).trans q4⟩
end Go.Proofs.Ytdphccjeikiciaa.Lab
