/- Pieces for the laws on parts and on writing: beginnings of slices, texts one behind the other, rows one behind the other. -/
import Derived.Test.YtlmhnebgkginkaaDoorAtFull
import Derived.Test.YtlmhnebgkginkaaDoorProg
import Derived.Laws.OwnMore
namespace Go.Proofs.YtlmhnebgkginkaaDoor.Lab
open Go.RowKit

theorem slice_low {T E : TypeId} (hT : Tryd.prog.underlying T = some (.slice E)) (hE : Tryd.prog.elem T = E) {k : Nat} (hs : ∀ w, (sizeOf E).run Tryd.prog w = .ok k w) (a : Option Addr) (n m c : Nat) (hm : m ≤ c) (w : World) :
    (Instr.sliceAt T (.slice a n c) none (some (.int .i64 m)) none).run Tryd.prog w = .ok (.slice a m c) w := by
  have hT' : Tryd.prog.underlying T = some (.slice (Tryd.prog.elem T)) := by rw [hE]; exact hT
  rw [run_sliceAt_slice w T _ _ _ _ hT', run_slice_h (P := Tryd.prog) (w := w) (t := T) (ht := hT') (kh := .i64) (h := (m : Int)) (h0 := by omega) (h2 := by omega), hE, hs]
  have e : (if c = 0 then a else a.map fun x => x.add (0 * k)) = a := by
    split
    · rfl
    · cases a with
      | none => rfl
      | some a =>
        cases a with
        | mk b o s => simp [Addr.add]
  simp only [Result.andThen, sliced, Int.toNat_natCast, Nat.sub_zero]
  rw [e]
theorem low_bytes (a : Option Addr) (n m c : Nat) (hm : m ≤ c) (w : World) : (Instr.sliceAt 92 (.slice a n c) none (some (.int .i64 m)) none).run Tryd.prog w = .ok (.slice a m c) w :=
  slice_low Tryd.underlying92 (by kernel_rfl) (k := 1) (fun _ => by kernel_rfl) a n m c hm w
theorem low_ints (a : Option Addr) (n m c : Nat) (hm : m ≤ c) (w : World) : (Instr.sliceAt 50 (.slice a n c) none (some (.int .i64 m)) none).run Tryd.prog w = .ok (.slice a m c) w :=
  slice_low Tryd.underlying50 (by kernel_rfl) (k := 1) (fun _ => by kernel_rfl) a n m c hm w
theorem low_rows (a : Option Addr) (n m c : Nat) (hm : m ≤ c) (w : World) : (Instr.sliceAt 27 (.slice a n c) none (some (.int .i64 m)) none).run Tryd.prog w = .ok (.slice a m c) w :=
  slice_low Tryd.underlying27 (by kernel_rfl) (k := 1) (fun _ => by kernel_rfl) a n m c hm w

theorem own_take {w : World} {base n m c : Nat} {e : TypeId} {a : Option Addr} {xs : List Value} (h : w.ownsRow base e 1 (.slice a n c) n xs) (hm : m ≤ n) (h0 : a ≠ none) : w.ownsRow base e 1 (.slice a m c) m (xs.take m) := by
  obtain ⟨h1, h2⟩ := h
  refine ⟨by simp; omega, ?_⟩
  rcases h2 with ⟨e1, _⟩ | ⟨g, cap, cur, e1, hb, hg, hl, hcm, hs, ht⟩
  · simp at e1
    exact absurd e1.1 h0
  · simp at e1
    obtain ⟨rfl, rfl⟩ := e1
    refine .inr ⟨g, c, cur, rfl, hb, hg, by omega, hcm, hs, ?_⟩
    rw [← ht, List.take_take]
    congr 1
    omega
theorem IntsAt.take {w : World} {lo c m : Nat} {a : Option Addr} {r : List Int} (hi : IntsAt w lo (.slice a r.length c) r) (hm : m ≤ r.length) : IntsAt w lo (.slice a m c) (r.take m) := by
  obtain ⟨g, c', cur, e, _⟩ := hi.open
  simp at e
  obtain ⟨rfl, rfl⟩ := e
  have hl : (r.take m).length = m := by simp; omega
  refine ⟨?_, by simp⟩
  have := own_take hi.1 (m := m) hm (by simp)
  rw [hl]
  simpa [intsV, List.map_take] using this
theorem RowsAt.take {w : World} {lo g n c m : Nat} {R : Rws} (h : RowsAt w lo (.slice (some ⟨g, 0, none⟩) n c) R) (hn : n = R.length) (hm : m ≤ n) : RowsAt w lo (.slice (some ⟨g, 0, none⟩) m c) (R.take m) := by
  subst hn
  obtain ⟨us, h, hi⟩ := h
  have hl : (R.take m).length = m := by simp; omega
  have hu : us.length = R.length := by simpa using h.1
  refine ⟨us.take m, by rw [hl]; exact own_take h hm (by simp), fun i hi' => ?_⟩
  rw [hl] at hi'
  have e1 : (us.take m).getD i undef = us.getD i undef := by simp [List.getD_eq_getElem?_getD, hi']
  have e2 : (R.take m).getD i [] = R.getD i [] := by simp [List.getD_eq_getElem?_getD, hi']
  rw [e1, e2]
  exact hi i (by omega)
/-- Rows of rows, one behind the other. -/
theorem rows_append {w w' : World} {lo base n : Nat} {v v' : Value} {X R : Rws} {vs us : List Value} (h : w.ownsRow base 50 1 v X.length vs) (hv : ∀ i, i < X.length → IntsAt w lo (vs.getD i undef) (X.getD i [])) (hi : ∀ i, i < R.length → IntsAt w lo (us.getD i undef) (R.getD i []))
    (hn : n = X.length + R.length) (ho : w'.ownsRow lo 50 1 v' n (vs ++ us)) (hg : w.grownBy w' v.ownBlock) : RowsAt w' lo v' (X ++ R) := by
  have hl : vs.length = X.length := by simpa using h.1
  subst hn
  refine ⟨vs ++ us, by simpa using ho, fun i hi' => ?_⟩
  have hi2 : i < X.length + R.length := by simpa using hi'
  by_cases e : i < X.length
  · have e1 : (vs ++ us).getD i undef = vs.getD i undef := by simp [List.getD_eq_getElem?_getD, List.getElem?_append_left (show i < vs.length by omega)]
    have e2 : (X ++ R).getD i [] = X.getD i [] := by simp [List.getD_eq_getElem?_getD, List.getElem?_append_left e]
    rw [e1, e2]
    exact (hv i e).apart h hg
  · have e1 : (vs ++ us).getD i undef = us.getD (i - X.length) undef := by simp [List.getD_eq_getElem?_getD, List.getElem?_append_right (show vs.length ≤ i by omega), hl]
    have e2 : (X ++ R).getD i [] = R.getD (i - X.length) [] := by simp [List.getD_eq_getElem?_getD, List.getElem?_append_right (show X.length ≤ i by omega)]
    rw [e1, e2]
    exact (hi _ (by omega)).apart h hg
theorem us_one {w : World} {lo : Nat} {R : Rws} {us : List Value} (hu : us.length = R.length) (hi : ∀ i, i < R.length → IntsAt w lo (us.getD i undef) (R.getD i [])) : ∀ u ∈ us, u.oneCell' = true := by
  intro u hm
  obtain ⟨i, hl, rfl⟩ := List.getElem_of_mem hm
  obtain ⟨g, c, cur, e, _⟩ := (hi i (by omega)).open
  simp only [List.getD_eq_getElem?_getD, List.getElem?_eq_getElem hl, Option.getD_some] at e
  rw [e]
  rfl
theorem ints_one (r : List Int) : ∀ u ∈ intsV r, u.oneCell' = true := by
  intro u hm
  obtain ⟨x, _, rfl⟩ := List.mem_map.1 hm
  rfl
theorem AllGood.iff (s : ByteArray) : AllGood s ↔ ∀ c ∈ s.data.toList, good c := by
  constructor
  · intro h c hc
    obtain ⟨i, hl, rfl⟩ := List.getElem_of_mem hc
    exact h i (by rw [Lib.size_eq]; exact hl)
  · intro h k hk
    refine h _ ?_
    show s.data[k] ∈ _
    simp
theorem AllGood.of {l : List UInt8} (h : ∀ c ∈ l, good c) : AllGood ⟨l.toArray⟩ := (AllGood.iff _).2 (by simpa using h)
end Go.Proofs.YtlmhnebgkginkaaDoor.Lab
