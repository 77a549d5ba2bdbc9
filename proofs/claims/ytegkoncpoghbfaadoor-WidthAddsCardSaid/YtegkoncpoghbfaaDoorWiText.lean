/- What width.Text and width.Fit answer of any text. -/
import Derived.Test.YtegkoncpoghbfaaDoorWiCol
import Derived.Test.YtegkoncpoghbfaaDoorWiMath
import Derived.Lib.OthersKept
namespace Go.Proofs.YtegkoncpoghbfaaDoor.Lab
open Go.RowKit Go.Lib

/-- A text's columns. -/
def tx (s : ByteArray) : Int := txt s.data.toList
theorem left_nil (s : ByteArray) : s.data.toList.drop s.size = [] := List.drop_eq_nil_of_le (by rw [← size_eq]; exact Nat.le_refl _)
theorem left_ne {s : ByteArray} {pos : Nat} (h : pos < s.size) : s.data.toList.drop pos ≠ [] := by
  intro e
  have h1 := congrArg List.length e
  rw [List.length_drop, ← size_eq] at h1
  have : ([] : List UInt8).length = 0 := rfl
  omega
/-- The rune at a place: how far on it leads, and what is left then. -/
theorem at_step {s : ByteArray} {pos : Nat} (h : pos < s.size) :
    1 ≤ (Utf8.decode s pos).2 ∧ pos + (Utf8.decode s pos).2 ≤ s.size ∧ txt (s.data.toList.drop pos) = colI (Utf8.decode s pos).1 + txt (s.data.toList.drop (pos + (Utf8.decode s pos).2)) := by
  have h1 := dec_ge (s.data.toList.drop pos)
  have h2 := dec_le _ (left_ne h)
  have h3 := txt_step (left_ne h)
  rw [decodeL_drop] at h1 h2 h3
  rw [List.length_drop, ← size_eq] at h2
  rw [List.drop_drop] at h3
  exact ⟨h1, by omega, h3⟩

/-- The call's own iterator stands at a place; nothing elder has turned. -/
def ItAt (w0 w : World) (s : ByteArray) (pos : Nat) : Prop := w.heap[w0.heap.size]? = some (.stringIter s pos) ∧ Below w0.heap.size w0 w
theorem ItAt.fresh (w : World) (s : ByteArray) (pos : Nat) : ItAt w (w.iter s pos) s pos := ⟨World.iter_heap w s pos, (Below.refl _ _).alloc (Nat.le_refl _) _⟩
theorem ItAt.move {w0 w : World} {s : ByteArray} {pos : Nat} (h : ItAt w0 w s pos) (pos' : Nat) : ItAt w0 (w.iterAt w0.heap.size s pos') s pos' :=
  ⟨iterAt_heap w _ s pos pos' h.1, below_iterAt h.2 (Nat.le_refl _) s pos'⟩
theorem ItAt.on {w0 w w' : World} {s : ByteArray} {pos : Nat} (h : ItAt w0 w s pos) (hb : Below w.heap.size w w') : ItAt w0 w' s pos := by
  have hlt : w0.heap.size < w.heap.size := (Array.getElem?_eq_some_iff.1 h.1).1
  exact ⟨(hb.block _ hlt).trans h.1, h.2.trans (hb.mono h.2.size)⟩
theorem ItAt.pos {w0 w : World} {s : ByteArray} {pos : Nat} (h : ItAt w0 w s pos) : w.iterPos w0.heap.size = pos := iterPos_of h.1

set_option maxHeartbeats 2000000 in
theorem text_any (s : ByteArray) (w : World) (hT : Tabs w) (hs : s.size ≤ 1000000) :
    Calls Tryd.prog 9 #[.string s] w fun e w' => e = .returned (.int .i64 (tx s)) ∧ Below w.heap.size w w' := by
  have H := Lib.hid hT
  clear hT
  go_enter Tryd.func9, Tryd.ntmps9
  go_wp2
  go_loopw [3] (fun vm wr => ∃ (pos : Nat) (q : Int), vm = .int .i64 q ∧ pos ≤ s.size ∧ 0 ≤ q ∧ q ≤ 2 * pos ∧ Hid (q + txt (s.data.toList.drop pos) = tx s) ∧ Hid (ItAt w wr s pos)) (fun _ wr => s.size - wr.iterPos w.heap.size)
  case atStart => exact ⟨0, 0, rfl, by omega, by omega, by omega, Lib.hid (by simp [tx]), Lib.hid (ItAt.fresh w s 0)⟩
  case round =>
    obtain ⟨pos, q, rfl, hp, q0, q1, hQ, hI⟩ := hrel
    by_cases hlt : pos < s.size
    · obtain ⟨d1, d2, d3⟩ := at_step hlt
      have HD := Lib.hid d3
      clear d3
      have hnx : ∀ ty, (Instr.next (.pointer (some ⟨w.heap.size, 0, none⟩)) true ty).run Tryd.prog wr = .ok (.tuple #[.bool true, .int .i64 pos, .int .i32 (Utf8.decode s pos).1]) (wr.iterAt w.heap.size s (pos + (Utf8.decode s pos).2)) :=
        fun ty => run_next_any_at wr _ s pos ty hI.out.1 hlt
      have HI2 := Lib.hid (hI.out.move (pos + (Utf8.decode s pos).2))
      generalize wr.iterAt w.heap.size s (pos + (Utf8.decode s pos).2) = w2 at *
      generalize Utf8.decode s pos = dd at *
      have hc := colI_bd dd.1
      go_wp2_with fail
      refine (columns_any _ _ (H.out.below HI2.out.2)).mono ?_
      rintro e w5 ⟨rfl, hb5⟩
      have HI3 := Lib.hid (HI2.out.on hb5)
      have HP := Lib.hid hI.out.pos
      clear hb5 hnx
      generalize colI dd.1 = c at *
      go_wp2
      go_roundw
      case rel => exact ⟨pos + dd.2, q + c, rfl, d2, by omega, by omega, Lib.hid (by have := HD.out; have := hQ.out; omega), HI3⟩
      case measure => rw [HP.out, HI3.out.pos]; omega
    · obtain rfl : pos = s.size := by omega
      have hnx : ∀ ty, (Instr.next (.pointer (some ⟨w.heap.size, 0, none⟩)) true ty).run Tryd.prog wr = .ok (.tuple #[.bool false]) wr :=
        fun ty => run_next_end_at wr _ s s.size ty hI.out.1 hlt
      go_wp2
      go_ret
      refine ⟨?_, hI.out.2⟩
      have := hQ.out
      rw [left_nil, txt_nil] at this
      rw [← this, Int.add_zero]
      rfl

/-- What fits of a text: where it ends, and its columns. -/
def fitN (c : Int) (s : ByteArray) : Nat := (fitL c s.data.toList).1
def fitC (c : Int) (s : ByteArray) : Int := (fitL c s.data.toList).2
theorem fitN_le (c : Int) (s : ByteArray) : fitN c s ≤ s.size := by
  have := fit_le s.data.toList c
  rw [← size_eq] at this
  exact this
theorem extract_all (s : ByteArray) : s.extract 0 s.size = s := by
  simp

/-- The rune at a place fits, or not. -/
theorem fit_at {s : ByteArray} {pos : Nat} (h : pos < s.size) (c : Int) :
    (c < colI (Utf8.decode s pos).1 → fitL c (s.data.toList.drop pos) = (0, 0)) ∧
    (¬ c < colI (Utf8.decode s pos).1 → fitL c (s.data.toList.drop pos) = ((Utf8.decode s pos).2 + (fitL (c - colI (Utf8.decode s pos).1) (s.data.toList.drop (pos + (Utf8.decode s pos).2))).1, colI (Utf8.decode s pos).1 + (fitL (c - colI (Utf8.decode s pos).1) (s.data.toList.drop (pos + (Utf8.decode s pos).2))).2)) := by
  have h1 := fun hc => fit_no (c := c) (left_ne h) hc
  have h2 := fun hc => fit_step (c := c) (left_ne h) hc
  rw [decodeL_drop] at h1 h2
  rw [List.drop_drop] at h2
  exact ⟨h1, h2⟩

set_option maxHeartbeats 2000000 in
theorem fit_any (s : ByteArray) (cols : Int) (w : World) (hT : Tabs w) (hs : s.size ≤ 1000000) :
    Calls Tryd.prog 8 #[.string s, .int .i64 cols] w fun e w' => e = .returned (.tuple #[.string (s.extract 0 (fitN cols s)), .int .i64 (fitC cols s)]) ∧ Below w.heap.size w w' := by
  have H := Lib.hid hT
  clear hT
  go_enter Tryd.func8, Tryd.ntmps8
  go_wp2
  go_loopw [6] (fun vm wr => ∃ (pos : Nat) (q : Int), vm = .int .i64 q ∧ pos ≤ s.size ∧ 0 ≤ q ∧ q ≤ 2 * pos ∧
    Hid (pos + (fitL (cols - q) (s.data.toList.drop pos)).1 = fitN cols s ∧ q + (fitL (cols - q) (s.data.toList.drop pos)).2 = fitC cols s) ∧ Hid (ItAt w wr s pos)) (fun _ wr => s.size - wr.iterPos w.heap.size)
  case atStart => exact ⟨0, 0, rfl, by omega, by omega, by omega, Lib.hid (by simp [fitN, fitC]), Lib.hid (ItAt.fresh w s 0)⟩
  case round =>
    obtain ⟨pos, q, rfl, hp, q0, q1, hQ, hI⟩ := hrel
    by_cases hlt : pos < s.size
    · obtain ⟨d1, d2, -⟩ := at_step hlt
      have HF := Lib.hid (fit_at hlt (cols - q))
      have hnx : ∀ ty, (Instr.next (.pointer (some ⟨w.heap.size, 0, none⟩)) true ty).run Tryd.prog wr = .ok (.tuple #[.bool true, .int .i64 pos, .int .i32 (Utf8.decode s pos).1]) (wr.iterAt w.heap.size s (pos + (Utf8.decode s pos).2)) :=
        fun ty => run_next_any_at wr _ s pos ty hI.out.1 hlt
      have HI2 := Lib.hid (hI.out.move (pos + (Utf8.decode s pos).2))
      generalize wr.iterAt w.heap.size s (pos + (Utf8.decode s pos).2) = w2 at *
      generalize Utf8.decode s pos = dd at *
      have hc := colI_bd dd.1
      go_wp2_with fail
      refine (columns_any _ _ (H.out.below HI2.out.2)).mono ?_
      rintro e w5 ⟨rfl, hb5⟩
      have HI3 := Lib.hid (HI2.out.on hb5)
      have HP := Lib.hid hI.out.pos
      clear hb5 hnx
      generalize colI dd.1 = c at *
      by_cases hgt : cols < q + c
      · go_wp2
        go_ret2
        refine ⟨?_, HI3.out.2⟩
        have h1 := hQ.out
        rw [HF.out.1 (by omega)] at h1
        simp only [Nat.add_zero, Int.add_zero] at h1
        rw [← h1.1, ← h1.2]
        rfl
      · go_wp2
        go_roundw
        case rel =>
          refine ⟨pos + dd.2, q + c, rfl, d2, by omega, by omega, Lib.hid ?_, HI3⟩
          have h1 := hQ.out
          rw [HF.out.2 (by omega)] at h1
          simp only at h1
          rw [show cols - (q + c) = cols - q - c by omega]
          omega
        case measure => rw [HP.out, HI3.out.pos]; omega
    · obtain rfl : pos = s.size := by omega
      have hnx : ∀ ty, (Instr.next (.pointer (some ⟨w.heap.size, 0, none⟩)) true ty).run Tryd.prog wr = .ok (.tuple #[.bool false]) wr :=
        fun ty => run_next_end_at wr _ s s.size ty hI.out.1 hlt
      go_wp2
      go_ret2
      refine ⟨?_, hI.out.2⟩
      have h1 := hQ.out
      rw [left_nil, fit_nil] at h1
      simp only [Nat.add_zero, Int.add_zero] at h1
      rw [← h1.1, ← h1.2, extract_all]
      rfl
end Go.Proofs.YtegkoncpoghbfaaDoor.Lab
