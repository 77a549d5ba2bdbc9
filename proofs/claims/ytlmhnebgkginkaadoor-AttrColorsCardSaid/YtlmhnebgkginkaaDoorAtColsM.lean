/- A colour told by parameters behind, and by numbers of one parameter: the mathematics of AttrColors; rows of rows as they are written out. -/
import Derived.Test.YtlmhnebgkginkaaDoorAtOneM
import Derived.Test.YtlmhnebgkginkaaDoorMany
namespace Go.Proofs.YtlmhnebgkginkaaDoor.Lab
open Go Go.RowKit

def c3M (p q r : Int) : Option Cl := if p ≤ 255 then (if q ≤ 255 then (if r ≤ 255 then some ⟨2, max 0 p, max 0 q, max 0 r⟩ else none) else none) else none
def c1M (p : Int) : Option Cl := if p ≤ 255 then some ⟨1, max 0 p, 0, 0⟩ else none
theorem val_ge {p : Int} (h : -1 ≤ p) : valM p = max 0 p := by
  unfold valM
  split <;> omega
theorem part_ge {p : Int} (h : -1 ≤ p) : partM p = if p ≤ 255 then some (max 0 p) else none := by
  unfold partM
  rw [val_ge h]
  by_cases h2 : p ≤ 255
  · rw [if_pos h2, if_pos (by omega)]
  · rw [if_neg h2, if_neg (by omega)]
theorem partRow_ge {p : Int} (h : -1 ≤ p) : partRow [p] = if p ≤ 255 then some (max 0 p) else none := by
  show partM (valM p) = _
  rw [val_ge h, part_ge (by omega)]
  by_cases h2 : p ≤ 255
  · rw [if_pos h2, if_pos (by omega), show max 0 (max 0 p) = max 0 p by omega]
  · rw [if_neg h2, if_neg (by omega)]
theorem parts3 {α : Type} (read : α → Option Int) (x y z : α) (p q r : Int) (hx : read x = if p ≤ 255 then some (max 0 p) else none) (hy : read y = if q ≤ 255 then some (max 0 q) else none) (hz : read z = if r ≤ 255 then some (max 0 r) else none) : madeM 2 (partsM read [x, y, z]) = c3M p q r := by
  unfold c3M
  simp only [partsM, hx, hy, hz]
  by_cases h1 : p ≤ 255
  · by_cases h2 : q ≤ 255
    · by_cases h3 : r ≤ 255
      · simp only [if_pos h1, if_pos h2, if_pos h3]
        rfl
      · simp only [if_pos h1, if_pos h2, if_neg h3]
        rfl
    · simp only [if_pos h1, if_neg h2]
      rfl
  · simp only [if_neg h1]
    rfl
theorem parts1 {α : Type} (read : α → Option Int) (x : α) (p : Int) (hx : read x = if p ≤ 255 then some (max 0 p) else none) : madeM 5 (partsM read [x]) = c1M p := by
  unfold c1M
  simp only [partsM, hx]
  by_cases h1 : p ≤ 255
  · simp only [if_pos h1]
    rfl
  · simp only [if_neg h1]
    rfl
theorem color_26 {p q r : Int} (hp : -1 ≤ p) (hq : -1 ≤ q) (hr : -1 ≤ r) (L : Rws) : colorM ([2] :: [p] :: [q] :: [r] :: L) = c3M p q r ∧ leftM ([2] :: [p] :: [q] :: [r] :: L) = L :=
  ⟨parts3 partRow [p] [q] [r] p q r (partRow_ge hp) (partRow_ge hq) (partRow_ge hr), rfl⟩
theorem color_51 {p : Int} (hp : -1 ≤ p) (L : Rws) : colorM ([5] :: [p] :: L) = c1M p ∧ leftM ([5] :: [p] :: L) = L :=
  ⟨parts1 partRow [p] p (partRow_ge hp), rfl⟩
theorem within_5 (x : Int) {p q r : Int} (hp : -1 ≤ p) (hq : -1 ≤ q) (hr : -1 ≤ r) : withinM [x, 2, p, q, r] = c3M p q r := parts3 partM p q r p q r (part_ge hp) (part_ge hq) (part_ge hr)
theorem within_6 (x y : Int) {p q r : Int} (hp : -1 ≤ p) (hq : -1 ≤ q) (hr : -1 ≤ r) : withinM [x, 2, y, p, q, r] = c3M p q r := parts3 partM p q r p q r (part_ge hp) (part_ge hq) (part_ge hr)
theorem within_3 (x : Int) {p : Int} (hp : -1 ≤ p) : withinM [x, 5, p] = c1M p := parts1 partM p p (part_ge hp)
def whI (bg : Bool) : Int := if bg then 48 else 38
theorem loop_wh (a : At) (bg : Bool) (L : Rws) : loopM a ([whI bg] :: L) = loopM (a.setC bg (colorM L)) (leftM L) := by
  cases bg with
  | false => exact loop_fg a L
  | true => exact loop_bg a L
theorem loop_whs (a : At) (bg : Bool) (x : Int) (row : List Int) (L : Rws) : loopM a ((whI bg :: x :: row) :: L) = loopM (a.setC bg (withinM (whI bg :: x :: row))) L := by
  rw [loopM_cons]
  cases bg <;> rfl
theorem loop_last (a : At) (m : Nat) : loopM a [[(m : Int)]] = simpleM a m := by
  have := one_sgr a m
  unfold sgrM at this
  rwa [if_neg (by simp)] at this
theorem cols_1 (a : At) (bg : Bool) {p q r : Int} (m : Nat) (hp : -1 ≤ p) (hq : -1 ≤ q) (hr : -1 ≤ r) : sgrM a [[whI bg], [2], [p], [q], [r], [(m : Int)]] = simpleM (a.setC bg (c3M p q r)) m := by
  unfold sgrM
  rw [if_neg (by simp), loop_wh, (color_26 hp hq hr _).1, (color_26 hp hq hr _).2, loop_last]
theorem cols_2 (a : At) (bg : Bool) {p q r : Int} (m : Nat) (hp : -1 ≤ p) (hq : -1 ≤ q) (hr : -1 ≤ r) : sgrM a [[whI bg, 2, p, q, r], [(m : Int)]] = simpleM (a.setC bg (c3M p q r)) m := by
  unfold sgrM
  rw [if_neg (by simp), loop_whs, within_5 _ hp hq hr, loop_last]
theorem cols_3 (a : At) (bg : Bool) {p q r : Int} (m : Nat) (hp : -1 ≤ p) (hq : -1 ≤ q) (hr : -1 ≤ r) : sgrM a [[whI bg, 2, 7, p, q, r], [(m : Int)]] = simpleM (a.setC bg (c3M p q r)) m := by
  unfold sgrM
  rw [if_neg (by simp), loop_whs, within_6 _ _ hp hq hr, loop_last]
theorem cols_4 (a : At) (bg : Bool) {p : Int} (m : Nat) (hp : -1 ≤ p) : sgrM a [[whI bg], [5], [p], [(m : Int)]] = simpleM (a.setC bg (c1M p)) m := by
  unfold sgrM
  rw [if_neg (by simp), loop_wh, (color_51 hp _).1, (color_51 hp _).2, loop_last]
theorem cols_5 (a : At) (bg : Bool) {p : Int} (m : Nat) (hp : -1 ≤ p) : sgrM a [[whI bg, 5, p], [(m : Int)]] = simpleM (a.setC bg (c1M p)) m := by
  unfold sgrM
  rw [if_neg (by simp), loop_whs, within_3 _ hp, loop_last]
theorem c3_ok {p q r : Int} {x : Cl} (h : c3M p q r = some x) : x.ok := by
  unfold c3M at h
  split at h
  · split at h
    · split at h
      · obtain rfl := Option.some.inj h
        exact ⟨bd2, by constructor <;> (simp only; omega), by constructor <;> (simp only; omega), by constructor <;> (simp only; omega)⟩
      · cases h
    · cases h
  · cases h
theorem c1_ok {p : Int} {x : Cl} (h : c1M p = some x) : x.ok := by
  unfold c1M at h
  split at h
  · obtain rfl := Option.some.inj h
    exact ⟨bd1, by constructor <;> (simp only; omega), bd0, bd0⟩
  · cases h
theorem setC_ok {a : At} (h : a.ok) (bg : Bool) {c : Option Cl} (hc : ∀ x, c = some x → x.ok) : (a.setC bg c).ok := by
  cases bg with
  | false => exact At.setFg_ok h hc
  | true => exact At.setBg_ok h hc

/-! ### rows written out -/
theorem nums_lit (w : World) (r : List Int) (n b : Nat) (hn : n = r.length) (hb : b = w.heap.size) (hm : r.length ≤ 1000) : NumsAt (w.alloc (.cells (intsV r).toArray 3)) (fun _ => True) (.slice (some ⟨b, 0, none⟩) n n) r := by
  subst hn hb
  refine ⟨_, r.length, rfl, Nat.le_refl _, by unfold maxLen; omega, fun h0 => ⟨w.heap.size, 0, rfl, trivial, by simp, fun j hj => ?_⟩⟩
  rw [Nat.zero_add, World.cell?_alloc_at _ _ _ _ rfl, List.getElem?_toArray]
  simp [intsV, List.getD_eq_getElem?_getD, hj]
theorem mat_lit (w : World) (us : List Value) (R : Rws) (n b : Nat) (hn : n = R.length) (hl : us.length = R.length) (hb : b = w.heap.size) (hm : R.length ≤ 1000) (h : ∀ i, i < R.length → NumsAt w (fun _ => True) (us.getD i undef) (R.getD i [])) :
    MatAt (w.alloc (.cells us.toArray 50)) (fun _ => True) (.slice (some ⟨b, 0, none⟩) n n) R := by
  subst hn hb
  have bb : Below w.heap.size w (w.alloc (.cells us.toArray 50)) := (Below.refl _ _).alloc (Nat.le_refl _) _
  refine ⟨_, R.length, rfl, Nat.le_refl _, by unfold maxLen; omega, fun h0 => ⟨w.heap.size, 0, rfl, trivial, by simp, fun j hj => ⟨us.getD j undef, ?_, (h j hj).below bb⟩⟩⟩
  rw [Nat.zero_add, World.cell?_alloc_at _ _ _ _ rfl, List.getElem?_toArray]
  simp [List.getD_eq_getElem?_getD, hl, hj]
/-- Rows of one number each that are made in whatever order. -/
def MInv (rows : List (Nat × Int)) (w0 : World) (f : Nat → Bool) (y : Nat → Value) (w : World) : Prop :=
  (∀ p ∈ rows, f p.1 = true → ∃ b, y p.1 = .slice (some ⟨b, 0, none⟩) 1 1 ∧ NumsAt w (fun _ => True) (.slice (some ⟨b, 0, none⟩) 1 1) [p.2]) ∧ Below w0.heap.size w0 w
theorem MInv.start {rows : List (Nat × Int)} {w0 w : World} {y : Nat → Value} (h : Below w0.heap.size w0 w) : MInv rows w0 (fun _ => false) y w := ⟨fun _ _ h => absurd h (by simp), h⟩
theorem MInv.new {rows : List (Nat × Int)} {w0 w : World} {f : Nat → Bool} {y : Nat → Value} (h : MInv rows w0 f y w) (i : Nat) (x : Int) (hx : ∀ p ∈ rows, p.1 = i → p.2 = x) :
    MInv rows w0 (fun j => f j || j == i) (updM y i (.slice (some ⟨w.heap.size, 0, none⟩) 1 1)) (w.alloc (.cells #[.int .i64 x] 3)) := by
  have bb : Below w.heap.size w (w.alloc (.cells #[.int .i64 x] 3)) := (Below.refl _ _).alloc (Nat.le_refl _) _
  refine ⟨fun p hp hf => ?_, h.2.trans (bb.mono h.2.size)⟩
  by_cases e : p.1 = i
  · refine ⟨w.heap.size, by unfold updM; rw [if_pos e], ?_⟩
    rw [hx p hp e]
    exact nums_lit w [x] 1 w.heap.size rfl rfl (by simp)
  · obtain ⟨b, e1, e2⟩ := h.1 p hp (by simpa [e] using hf)
    exact ⟨b, by unfold updM; rw [if_neg e]; exact e1, e2.below bb⟩
theorem MInv.get {rows : List (Nat × Int)} {w0 w : World} {f : Nat → Bool} {y : Nat → Value} (h : MInv rows w0 f y w) (i : Nat) (x : Int) (hm : (i, x) ∈ rows) (hf : f i = true) :
    ∃ b, y i = .slice (some ⟨b, 0, none⟩) 1 1 ∧ NumsAt w (fun _ => True) (.slice (some ⟨b, 0, none⟩) 1 1) [x] := h.1 (i, x) hm hf
end Go.Proofs.YtlmhnebgkginkaaDoor.Lab
