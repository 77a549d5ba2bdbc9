/- Rows of drafts as they come in. -/
import Derived.Test.YtclaopidjfekmaaDoorToDrafts
namespace Go.Proofs.YtclaopidjfekmaaDoor.Lab
open Go Go.RowKit Go.ChangeShapes Go.WideShapes Go.Deep Go.Lib Go.Joins

/-- What one draft holds. -/
structure Dr where
  K : Int
  p : Int
  r : Int
  pv : Value
  iv : Value
  f : Int
  d : ByteArray
  PP : Rws
  I : List Int
instance : Inhabited Dr := ⟨⟨0, 0, 0, .slice none 0 0, .slice none 0 0, 0, ⟨#[]⟩, [], []⟩⟩
def Dr.Ok (W : World) (x : Dr) : Prop := (0 ≤ x.K ∧ x.K ≤ 255) ∧ (0 ≤ x.p ∧ x.p ≤ 255) ∧ (0 ≤ x.f ∧ x.f ≤ 255) ∧ x.d.size ≤ maxLen ∧ ShortsAt W x.pv x.PP ∧ BytAt W x.iv x.I ∧ ∀ q ∈ x.PP, ∀ y ∈ q, -32768 ≤ y ∧ y ≤ 32767
def Dr.tok (x : Dr) : Tok := tokD x.K x.p x.r x.PP x.I x.f x.d
def DrAt (W : World) (b o : Nat) (x : Dr) : Prop := W.cell? ⟨b, o, none⟩ = some (.int .u8 x.K) ∧ W.cell? ⟨b, o + 1, none⟩ = some (.int .u8 x.p) ∧ W.cell? ⟨b, o + 2, none⟩ = some (.int .i32 x.r) ∧ W.cell? ⟨b, o + 3, none⟩ = some x.pv ∧ W.cell? ⟨b, o + 4, none⟩ = some x.iv ∧ W.cell? ⟨b, o + 5, none⟩ = some (.int .u8 x.f) ∧ W.cell? ⟨b, o + 6, none⟩ = some (.string x.d)
/-- What a slice of drafts that came in is. -/
def IsDrafts (W : World) (a : Option Addr) (len cap : Nat) (T : Nat → Dr) : Prop :=
  len ≤ cap ∧ cap ≤ maxLen ∧ (∀ i, i < len → (T i).Ok W) ∧ (0 < len → ∃ b off, a = some ⟨b, off, none⟩ ∧ b < W.heap.size ∧ ∀ i, i < len → DrAt W b (off + i * 7) (T i))
theorem Dr.Ok.on {W W' : World} {x : Dr} (h : x.Ok W) (k : Keeps W W') : x.Ok W' := ⟨h.1, h.2.1, h.2.2.1, h.2.2.2.1, h.2.2.2.2.1.on k, h.2.2.2.2.2.1.on k, h.2.2.2.2.2.2⟩
theorem IsDrafts.below {W W' : World} {a : Option Addr} {len cap : Nat} {T : Nat → Dr} (h : IsDrafts W a len cap T) (hb : Below W.heap.size W W') : IsDrafts W' a len cap T := by
  refine ⟨h.1, h.2.1, fun i hi => (h.2.2.1 i hi).on (Keeps.of hb), fun h0 => ?_⟩
  obtain ⟨b, off, e, h1, h2⟩ := h.2.2.2 h0
  refine ⟨b, off, e, Nat.lt_of_lt_of_le h1 hb.size, fun i hi => ?_⟩
  obtain ⟨q1, q2, q3, q4, q5, q6, q7⟩ := h2 i hi
  have k := Keeps.of hb
  exact ⟨k _ _ _ q1, k _ _ _ q2, k _ _ _ q3, k _ _ _ q4, k _ _ _ q5, k _ _ _ q6, k _ _ _ q7⟩

section
variable {H : Type} (enc : TypeId × Value → H) (W : World)
set_option maxRecDepth 100000 in
theorem dr_at {m : Nat} {cs : List Value} {x : DataW H × List MemPlace} (h : DataW.trod enc Tryd.prog W 0 (fun _ => true) true m 41 cs = some x) :
    ∃ y : Dr, cs = [.int .u8 y.K, .int .u8 y.p, .int .i32 y.r, y.pv, y.iv, .int .u8 y.f, .string y.d] ∧ y.Ok W := by
  obtain ⟨xs, n, _, _, hl, hlen, hq⟩ := DataW.trod_struct Tryd.underlying41 h
  have hl7 : cs.length = 7 := hl.trans (by kernel_rfl)
  have q1 : Tryd.prog.cellsOf 5 = 1 := by kernel_rfl
  have q2 : Tryd.prog.cellsOf 21 = 1 := by kernel_rfl
  have q3 : Tryd.prog.cellsOf 38 = 1 := by kernel_rfl
  have q4 : Tryd.prog.cellsOf 39 = 1 := by kernel_rfl
  have q5 : Tryd.prog.cellsOf 9 = 1 := by kernel_rfl
  match cs, hl7, xs, hlen with
  | [c0, c1, c2, c3, c4, c5, c6], _, [y0, y1, y2, y3, y4, y5, y6], _ =>
    have h0 : DataW.trod enc Tryd.prog W 0 (fun _ => true) true n 5 (([c0, c1, c2, c3, c4, c5, c6].drop 0).take (Tryd.prog.cellsOf 5)) = some y0 := hq 0 _ rfl
    rw [q1] at h0
    replace h0 : DataW.trod enc Tryd.prog W 0 (fun _ => true) true n 5 [c0] = some y0 := h0
    have h1 : DataW.trod enc Tryd.prog W 0 (fun _ => true) true n 5 (([c0, c1, c2, c3, c4, c5, c6].drop 1).take (Tryd.prog.cellsOf 5)) = some y1 := hq 1 _ rfl
    rw [q1] at h1
    replace h1 : DataW.trod enc Tryd.prog W 0 (fun _ => true) true n 5 [c1] = some y1 := h1
    have h2 : DataW.trod enc Tryd.prog W 0 (fun _ => true) true n 21 (([c0, c1, c2, c3, c4, c5, c6].drop 2).take (Tryd.prog.cellsOf 21)) = some y2 := hq 2 _ rfl
    rw [q2] at h2
    replace h2 : DataW.trod enc Tryd.prog W 0 (fun _ => true) true n 21 [c2] = some y2 := h2
    have h3 : DataW.trod enc Tryd.prog W 0 (fun _ => true) true n 38 (([c0, c1, c2, c3, c4, c5, c6].drop 3).take (Tryd.prog.cellsOf 38)) = some y3 := hq 3 _ rfl
    rw [q3] at h3
    replace h3 : DataW.trod enc Tryd.prog W 0 (fun _ => true) true n 38 [c3] = some y3 := h3
    have h4 : DataW.trod enc Tryd.prog W 0 (fun _ => true) true n 39 (([c0, c1, c2, c3, c4, c5, c6].drop 4).take (Tryd.prog.cellsOf 39)) = some y4 := hq 4 _ rfl
    rw [q4] at h4
    replace h4 : DataW.trod enc Tryd.prog W 0 (fun _ => true) true n 39 [c4] = some y4 := h4
    have h5 : DataW.trod enc Tryd.prog W 0 (fun _ => true) true n 5 (([c0, c1, c2, c3, c4, c5, c6].drop 5).take (Tryd.prog.cellsOf 5)) = some y5 := hq 5 _ rfl
    rw [q1] at h5
    replace h5 : DataW.trod enc Tryd.prog W 0 (fun _ => true) true n 5 [c5] = some y5 := h5
    have h6 : DataW.trod enc Tryd.prog W 0 (fun _ => true) true n 9 (([c0, c1, c2, c3, c4, c5, c6].drop 6).take (Tryd.prog.cellsOf 9)) = some y6 := hq 6 _ rfl
    rw [q5] at h6
    replace h6 : DataW.trod enc Tryd.prog W 0 (fun _ => true) true n 9 [c6] = some y6 := h6
    obtain ⟨K, e0, _, w0⟩ := DataW.trod_int Tryd.underlying5 h0
    obtain ⟨p, e1, _, w1⟩ := DataW.trod_int Tryd.underlying5 h1
    obtain ⟨r, e2, _, w2⟩ := DataW.trod_int Tryd.underlying21 h2
    obtain ⟨f, e5, _, w5⟩ := DataW.trod_int Tryd.underlying5 h5
    obtain ⟨s, e6, _, w6⟩ := DataW.trod_string Tryd.underlying9 h6
    obtain ⟨PP, hP, hB⟩ := open_shorts enc W h3
    obtain ⟨I, hI⟩ := open_byt enc W h4
    simp at e0 e1 e2 e5 e6
    subst e0 e1 e2 e5 e6
    exact ⟨⟨K, p, r, c3, c4, f, s, PP, I⟩, rfl, wf_u8 w0, wf_u8 w1, wf_u8 w5, w6, hP, hI, hB⟩

set_option maxRecDepth 100000 in
theorem open_drafts (base : Nat) {v : Value} {d : DataW H} {p : List MemPlace} (ok : Value.okWide Tryd.prog W .any base 23 v) (k : DataW.Trod enc Tryd.prog W 0 (fun _ => true) true 23 v d p) :
    ∃ (a : Option Addr) (len cap : Nat) (T : Nat → Dr), v = .slice a len cap ∧ IsDrafts W a len cap T := by
  obtain ⟨a0, len0, cap0, rfl⟩ := okWide_slice Tryd.underlying23 ok
  obtain ⟨fuel, hf⟩ := k
  rcases open_slice Tryd.underlying23 hf with ⟨hcs, _⟩ | ⟨x, len, cap, m, n, D, Pl, hcs, _, hl, hm, hmm, _, hx⟩
  · simp [Value.cells] at hcs
    obtain ⟨rfl, rfl, rfl⟩ := hcs
    exact ⟨none, 0, 0, fun _ => default, rfl, Nat.le_refl _, by unfold maxLen; omega, fun i hi => by omega, fun h => by omega⟩
  · simp [Value.cells] at hcs
    obtain ⟨rfl, rfl, rfl⟩ := hcs
    simp at hmm
    subst hmm
    have q7 : Tryd.prog.cellsOf 41 = 7 := by kernel_rfl
    rw [q7] at hx
    have hall : ∀ i, i < m → ∃ (t : Dr), (W.cell? (x.add (i * 7)) = some (.int .u8 t.K) ∧ W.cell? ((x.add (i * 7)).add 1) = some (.int .u8 t.p) ∧ W.cell? ((x.add (i * 7)).add 2) = some (.int .i32 t.r) ∧ W.cell? ((x.add (i * 7)).add 3) = some t.pv ∧ W.cell? ((x.add (i * 7)).add 4) = some t.iv ∧ W.cell? ((x.add (i * 7)).add 5) = some (.int .u8 t.f) ∧ W.cell? ((x.add (i * 7)).add 6) = some (.string t.d)) ∧ t.Ok W := by
      intro i hi
      obtain ⟨cs', h1, h2⟩ := hx i hi
      obtain ⟨y, rfl, hy⟩ := dr_at enc W h2
      obtain ⟨_, _, hc⟩ := World.cells?_some h1
      refine ⟨y, ⟨?_, ?_, ?_, ?_, ?_, ?_, ?_⟩, hy⟩
      · simpa [Addr.add] using hc 0 (by omega)
      · exact hc 1 (by omega)
      · exact hc 2 (by omega)
      · exact hc 3 (by omega)
      · exact hc 4 (by omega)
      · exact hc 5 (by omega)
      · exact hc 6 (by omega)
    obtain ⟨T, hT⟩ := choose_lt hall
    refine ⟨some x, len0, m, T, rfl, hl, hm, fun i hi => (hT i (by omega)).2, fun h0 => ?_⟩
    obtain ⟨b, off, spot⟩ := x
    have hspot : spot = none := by simpa [Addr.add] using World.cell?_spot (hT 0 (by omega)).1.1
    subst hspot
    have hc := fun i (hi : i < m) => (hT i hi).1
    simp only [Go.WideShapes.add_plain] at hc
    exact ⟨b, off, rfl, World.block_lt_of_cell? (a := ⟨b, off + 0 * 7, none⟩) W (hc 0 (by omega)).1, fun i hi => hc i (by omega)⟩
end
end Go.Proofs.YtclaopidjfekmaaDoor.Lab
