/- What a token's kind has, and whether it is as it must be: the closures, one by one. -/
import Derived.Test.YtclaopidjfekmaaDoorToPars
import Derived.Deep.RegionHeld3
import Derived.Deep.DeepCutAuto
import Derived.Deep.CutBlock
namespace Go.Proofs.YtclaopidjfekmaaDoor.Lab
open Go Go.RowKit

abbrev tok7 (k r p : Int) (v : Value) (i : ByteArray) (f : Int) (d : ByteArray) : Value := .agg #[.int .i64 k, .int .i32 r, .int .u8 p, v, .string i, .int .u8 f, .string d]

/-- A block's head holds these seven values, and can be written. -/
def T7 (w : World) (b : Nat) (a0 a1 a2 a3 a4 a5 a6 : Value) : Prop :=
  b < w.heap.size ∧ (w.cell? ⟨b, 0, none⟩ = some a0 ∧ w.cell? ⟨b, 1, none⟩ = some a1 ∧ w.cell? ⟨b, 2, none⟩ = some a2 ∧ w.cell? ⟨b, 3, none⟩ = some a3 ∧ w.cell? ⟨b, 4, none⟩ = some a4 ∧ w.cell? ⟨b, 5, none⟩ = some a5 ∧ w.cell? ⟨b, 6, none⟩ = some a6) ∧ ∀ i, w.frozen? ⟨b, i, none⟩ = false
def C7 (w : World) (b : Nat) (a0 a1 a2 a3 a4 a5 a6 : Value) : Prop :=
  w.cell? ⟨b, 0, none⟩ = some a0 ∧ w.cell? ⟨b, 1, none⟩ = some a1 ∧ w.cell? ⟨b, 2, none⟩ = some a2 ∧ w.cell? ⟨b, 3, none⟩ = some a3 ∧ w.cell? ⟨b, 4, none⟩ = some a4 ∧ w.cell? ⟨b, 5, none⟩ = some a5 ∧ w.cell? ⟨b, 6, none⟩ = some a6
theorem T7.same {w w' : World} {b : Nat} {a0 a1 a2 a3 a4 a5 a6 : Value} (h : T7 w b a0 a1 a2 a3 a4 a5 a6) (hs : w.heap.size ≤ w'.heap.size) (e : w'.heap[b]? = w.heap[b]?) : T7 w' b a0 a1 a2 a3 a4 a5 a6 := by
  have c : ∀ i, w'.cell? ⟨b, i, none⟩ = w.cell? ⟨b, i, none⟩ := fun i => World.cell?_of_block e
  have f : ∀ i, w'.frozen? ⟨b, i, none⟩ = w.frozen? ⟨b, i, none⟩ := fun i => World.frozen?_of_block e
  obtain ⟨h0, ⟨h1, h2, h3, h4, h5, h6, h7⟩, h8⟩ := h
  exact ⟨by omega, ⟨(c 0).trans h1, (c 1).trans h2, (c 2).trans h3, (c 3).trans h4, (c 4).trans h5, (c 5).trans h6, (c 6).trans h7⟩, fun i => (f i).trans (h8 i)⟩
theorem T7.below {w w' : World} {b : Nat} {a0 a1 a2 a3 a4 a5 a6 : Value} (h : T7 w b a0 a1 a2 a3 a4 a5 a6) (hb : Below w.heap.size w w') : T7 w' b a0 a1 a2 a3 a4 a5 a6 := h.same hb.size (hb.block b h.1)
theorem T7.drew {w : World} {b : Nat} {a0 a1 a2 a3 a4 a5 a6 : Value} (h : T7 w b a0 a1 a2 a3 a4 a5 a6) : T7 w.drew b a0 a1 a2 a3 a4 a5 a6 := h
theorem T7.past {w : World} {b : Nat} {a0 a1 a2 a3 a4 a5 a6 : Value} (h : T7 w b a0 a1 a2 a3 a4 a5 a6) (o : Obj) : T7 (w.alloc o) b a0 a1 a2 a3 a4 a5 a6 := h.below ((Below.refl _ _).alloc (Nat.le_refl _) _)
theorem T7.newAt (w : World) (n : Nat) (hn : n = w.heap.size) (a0 a1 a2 a3 a4 a5 a6 : Value) (T : TypeId) : T7 (w.alloc (.cells #[a0, a1, a2, a3, a4, a5, a6] T)) n a0 a1 a2 a3 a4 a5 a6 := by
  subst hn
  refine ⟨by simp, ⟨by simp, by simp, by simp, by simp, by simp, by simp, by simp⟩, fun i => by simp⟩
def put7 (w : World) (b : Nat) (a0 a1 a2 a3 a4 a5 a6 : Value) : World :=
  ((((((w.setCell ⟨b, 0, none⟩ a0).setCell ⟨b, 1, none⟩ a1).setCell ⟨b, 2, none⟩ a2).setCell ⟨b, 3, none⟩ a3).setCell ⟨b, 4, none⟩ a4).setCell ⟨b, 5, none⟩ a5).setCell ⟨b, 6, none⟩ a6
theorem put7_size (w : World) (b : Nat) (a0 a1 a2 a3 a4 a5 a6 : Value) : (put7 w b a0 a1 a2 a3 a4 a5 a6).heap.size = w.heap.size := by simp [put7]
theorem put7_heap (w : World) (b b' : Nat) (a0 a1 a2 a3 a4 a5 a6 : Value) (h : b' ≠ b) : (put7 w b a0 a1 a2 a3 a4 a5 a6).heap[b']? = w.heap[b']? := by
  unfold put7
  rw [Below.heap_setCell _ _ _ _ h, Below.heap_setCell _ _ _ _ h, Below.heap_setCell _ _ _ _ h, Below.heap_setCell _ _ _ _ h, Below.heap_setCell _ _ _ _ h, Below.heap_setCell _ _ _ _ h, Below.heap_setCell _ _ _ _ h]
theorem T7.put_other {w : World} {b b' : Nat} {a0 a1 a2 a3 a4 a5 a6 c0 c1 c2 c3 c4 c5 c6 : Value} (h : T7 w b a0 a1 a2 a3 a4 a5 a6) (ne : b ≠ b') : T7 (put7 w b' c0 c1 c2 c3 c4 c5 c6) b a0 a1 a2 a3 a4 a5 a6 :=
  h.same (by rw [put7_size]; exact Nat.le_refl _) (put7_heap w b' b _ _ _ _ _ _ _ ne)
theorem T7.put {w : World} {b : Nat} {a0 a1 a2 a3 a4 a5 a6 : Value} (h : T7 w b a0 a1 a2 a3 a4 a5 a6) (c0 c1 c2 c3 c4 c5 c6 : Value) : T7 (put7 w b c0 c1 c2 c3 c4 c5 c6) b c0 c1 c2 c3 c4 c5 c6 := by
  obtain ⟨h0, ⟨h1, h2, h3, h4, h5, h6, h7⟩, h8⟩ := h
  refine ⟨by rw [put7_size]; exact h0, ?_, fun i => ?_⟩
  · unfold put7
    refine ⟨?_, ?_, ?_, ?_, ?_, ?_, ?_⟩ <;> simp [World.cell?_setCell_other, World.cell?_setCell_same', h1, h2, h3, h4, h5, h6, h7]
  · unfold put7
    simp [h8 i]
theorem put7_below {C : Nat} {a w : World} (h : Below C a w) {b : Nat} (hb : C ≤ b) (c0 c1 c2 c3 c4 c5 c6 : Value) : Below C a (put7 w b c0 c1 c2 c3 c4 c5 c6) := by
  unfold put7
  exact ((((((h.setCell hb _).setCell hb _).setCell hb _).setCell hb _).setCell hb _).setCell hb _).setCell hb _

def opnB (c : Int) : Bool := decide (0 ≤ Lib.indexByte [80, 88, 91, 93, 94, 95] c.toNat.toUInt8)
theorem opn_iff {c : Int} (h0 : 0 ≤ c) (h1 : c ≤ 255) : opnB c = true ↔ opener c := by
  obtain ⟨n, rfl⟩ : ∃ n : Nat, c = n := ⟨c.toNat, by omega⟩
  have key : ∀ m : Fin 256, decide (0 ≤ Lib.indexByte [80, 88, 91, 93, 94, 95] (m.val).toUInt8) = decide (m.val = 80 ∨ m.val = 88 ∨ m.val = 91 ∨ m.val = 93 ∨ m.val = 94 ∨ m.val = 95) := by decide +kernel
  have := key ⟨n, by omega⟩
  unfold opnB
  rw [Int.toNat_natCast]
  simp only at this
  rw [this, decide_eq_true_eq]
  unfold opener
  omega
/-- Of a TokEsc. -/
def escB (i : ByteArray) (f : Int) : Bool := intB i && btw 48 126 f && !(i.toList.isEmpty && opnB f)

set_option maxHeartbeats 2000000 in
set_option maxRecDepth 100000 in
theorem kind1_any (k r p f : Int) (va : Option Addr) (vn vc : Nat) (i d : ByteArray) (w : World) :
    Calls Tryd.prog 39 #[tok7 k r p (.slice va vn vc) i f d] w fun e w' => e = .returned (.tuple #[tok7 0 r 0 (.slice none 0 0) ⟨#[]⟩ 0 ⟨#[]⟩, .bool (prnB r)]) ∧ Below w.heap.size w w' := by
  go_enter Tryd.func39, Tryd.ntmps39
  go_wp2
  refine wp_region_held_drew (S := fun w' => w'.cell? ⟨w.heap.size, 1, none⟩ = some (.int .i32 r)) (by kernel_rfl) ?_ (fun hHeld => ?_)
  · simp
  refine take_at (i := 0) (v := ?_) rfl (by kernel_rfl) (by kernel_rfl) (by kernel_rfl) (fun _ _ _ h => h) (by kernel_rfl) (by assumption) ?_ ?_
  rotate_left
  · (intro w hSw; (try dsimp only at hSw); go_simp; try with_reducible rfl)
  simp only [Act.put, List.setIfInBounds_toArray, List.set_cons_zero, List.set_cons_succ]
  refine take_at (i := 1) (v := ?_) rfl (by kernel_rfl) (by kernel_rfl) (by kernel_rfl) (fun _ _ _ h => h) (by kernel_rfl) (by assumption) ?_ ?_
  rotate_left
  · (intro w hSw; (try dsimp only at hSw); go_simp; try with_reducible rfl)
  simp only [Act.put, List.setIfInBounds_toArray, List.set_cons_zero, List.set_cons_succ]
  refine take_at (i := 2) (v := ?_) rfl (by kernel_rfl) (by kernel_rfl) (by kernel_rfl) (fun _ _ _ h => h) (by kernel_rfl) (by assumption) ?_ ?_
  rotate_left
  · (intro w hSw; (try dsimp only at hSw); go_simp; try with_reducible rfl)
  simp only [Act.put, List.setIfInBounds_toArray, List.set_cons_zero, List.set_cons_succ]
  refine take_at (i := 3) (v := ?_) rfl (by kernel_rfl) (by kernel_rfl) (by kernel_rfl) (fun _ _ _ h => h) (by kernel_rfl) (by assumption) ?_ ?_
  rotate_left
  · (intro w hSw; (try dsimp only at hSw); go_simp; try with_reducible rfl)
  simp only [Act.put, List.setIfInBounds_toArray, List.set_cons_zero, List.set_cons_succ]
  refine take_at (i := 4) (v := ?_) rfl (by kernel_rfl) (by kernel_rfl) (by kernel_rfl) (fun _ _ _ h => h) (by kernel_rfl) (by assumption) ?_ ?_
  rotate_left
  · (intro w hSw; (try dsimp only at hSw); go_simp; try with_reducible rfl)
  simp only [Act.put, List.setIfInBounds_toArray, List.set_cons_zero, List.set_cons_succ]
  refine do_at (i := 5) rfl (by kernel_rfl) (by kernel_rfl) (fun K hK => ?_)
  go_simp
  refine (printed_any r _).mono ?_
  rintro e wx ⟨rfl, rfl⟩
  go_simp
  refine hK.out _ _ ?_ (fun hHeld => ?_)
  · exact hHeld
  clear hK K
  try simp only [Act.put, List.setIfInBounds_toArray, List.set_cons_zero, List.set_cons_succ]
  refine do_at (i := 6) rfl (by kernel_rfl) (by kernel_rfl) (fun K hK => ?_)
  go_simp
  refine hK.out _ _ ?_ (fun hHeld => ?_)
  · simp
  clear hK K
  try simp only [Act.put, List.setIfInBounds_toArray, List.set_cons_zero, List.set_cons_succ]
  refine take_at (i := 7) (v := ?_) rfl (by kernel_rfl) (by kernel_rfl) (by kernel_rfl) (fun _ _ _ h => h) (by kernel_rfl) (by assumption) ?_ ?_
  rotate_left
  · (intro w hSw; (try dsimp only at hSw); go_simp; try with_reducible rfl)
  simp only [Act.put, List.setIfInBounds_toArray, List.set_cons_zero, List.set_cons_succ]
  refine wpAnyH_done (by kernel_rfl) ?_ _
  go_wp2
  exact bodyPost_ret (v := .tuple #[tok7 0 r 0 (.slice none 0 0) ⟨#[]⟩ 0 ⟨#[]⟩, .bool (prnB r)]) (by simp [results, Tryd.results39, go_sem]) rfl ⟨rfl, (((Below.refl _ _).alloc (Nat.le_refl _) _).alloc (by simp) _).drew⟩

set_option maxHeartbeats 2000000 in
set_option maxRecDepth 100000 in
theorem kind2_any (k r p f : Int) (va : Option Addr) (vn vc : Nat) (i d : ByteArray) (w : World) :
    Calls Tryd.prog 41 #[tok7 k r p (.slice va vn vc) i f d] w fun e w' => e = .returned (.tuple #[tok7 0 0 0 (.slice none 0 0) ⟨#[]⟩ f ⟨#[]⟩, .bool (ctlB f)]) ∧ Below w.heap.size w w' := by
  go_enter Tryd.func41, Tryd.ntmps41
  go_wp2
  refine wp_region_held_drew (S := fun w' => w'.cell? ⟨w.heap.size, 5, none⟩ = some (.int .u8 f)) (by kernel_rfl) ?_ (fun hHeld => ?_)
  · simp
  refine take_at (i := 0) (v := ?_) rfl (by kernel_rfl) (by kernel_rfl) (by kernel_rfl) (fun _ _ _ h => h) (by kernel_rfl) (by assumption) ?_ ?_
  rotate_left
  · (intro w hSw; (try dsimp only at hSw); go_simp; try with_reducible rfl)
  simp only [Act.put, List.setIfInBounds_toArray, List.set_cons_zero, List.set_cons_succ]
  refine take_at (i := 1) (v := ?_) rfl (by kernel_rfl) (by kernel_rfl) (by kernel_rfl) (fun _ _ _ h => h) (by kernel_rfl) (by assumption) ?_ ?_
  rotate_left
  · (intro w hSw; (try dsimp only at hSw); go_simp; try with_reducible rfl)
  simp only [Act.put, List.setIfInBounds_toArray, List.set_cons_zero, List.set_cons_succ]
  refine take_at (i := 2) (v := ?_) rfl (by kernel_rfl) (by kernel_rfl) (by kernel_rfl) (fun _ _ _ h => h) (by kernel_rfl) (by assumption) ?_ ?_
  rotate_left
  · (intro w hSw; (try dsimp only at hSw); go_simp; try with_reducible rfl)
  simp only [Act.put, List.setIfInBounds_toArray, List.set_cons_zero, List.set_cons_succ]
  refine take_at (i := 3) (v := ?_) rfl (by kernel_rfl) (by kernel_rfl) (by kernel_rfl) (fun _ _ _ h => h) (by kernel_rfl) (by assumption) ?_ ?_
  rotate_left
  · (intro w hSw; (try dsimp only at hSw); go_simp; try with_reducible rfl)
  simp only [Act.put, List.setIfInBounds_toArray, List.set_cons_zero, List.set_cons_succ]
  refine take_at (i := 4) (v := ?_) rfl (by kernel_rfl) (by kernel_rfl) (by kernel_rfl) (fun _ _ _ h => h) (by kernel_rfl) (by assumption) ?_ ?_
  rotate_left
  · (intro w hSw; (try dsimp only at hSw); go_simp; try with_reducible rfl)
  simp only [Act.put, List.setIfInBounds_toArray, List.set_cons_zero, List.set_cons_succ]
  refine do_at (i := 5) rfl (by kernel_rfl) (by kernel_rfl) (fun K hK => ?_)
  go_simp
  refine (control_any f _).mono ?_
  rintro e wx ⟨rfl, rfl⟩
  go_simp
  refine hK.out _ _ ?_ (fun hHeld => ?_)
  · exact hHeld
  clear hK K
  try simp only [Act.put, List.setIfInBounds_toArray, List.set_cons_zero, List.set_cons_succ]
  refine do_at (i := 6) rfl (by kernel_rfl) (by kernel_rfl) (fun K hK => ?_)
  go_simp
  refine hK.out _ _ ?_ (fun hHeld => ?_)
  · simp
  clear hK K
  try simp only [Act.put, List.setIfInBounds_toArray, List.set_cons_zero, List.set_cons_succ]
  refine take_at (i := 7) (v := ?_) rfl (by kernel_rfl) (by kernel_rfl) (by kernel_rfl) (fun _ _ _ h => h) (by kernel_rfl) (by assumption) ?_ ?_
  rotate_left
  · (intro w hSw; (try dsimp only at hSw); go_simp; try with_reducible rfl)
  simp only [Act.put, List.setIfInBounds_toArray, List.set_cons_zero, List.set_cons_succ]
  refine wpAnyH_done (by kernel_rfl) ?_ _
  go_wp2
  exact bodyPost_ret (v := .tuple #[tok7 0 0 0 (.slice none 0 0) ⟨#[]⟩ f ⟨#[]⟩, .bool (ctlB f)]) (by simp [results, Tryd.results41, go_sem]) rfl ⟨rfl, (((Below.refl _ _).alloc (Nat.le_refl _) _).alloc (by simp) _).drew⟩

set_option maxHeartbeats 2000000 in
set_option maxRecDepth 100000 in
theorem kind5_any (k r p f : Int) (va : Option Addr) (vn vc : Nat) (i d : ByteArray) (hd : d.size ≤ maxLen) (w : World) :
    Calls Tryd.prog 49 #[tok7 k r p (.slice va vn vc) i f d] w fun e w' => e = .returned (.tuple #[tok7 0 0 0 (.slice none 0 0) ⟨#[]⟩ 0 d, .bool (datB d)]) ∧ Below w.heap.size w w' := by
  have HD := Lib.hid hd
  clear hd
  go_enter Tryd.func49, Tryd.ntmps49
  go_wp2
  have B0 : Below w.heap.size w ((w.alloc (.cells #[.int .i64 k, .int .i32 r, .int .u8 p, .slice va vn vc, .string i, .int .u8 f, .string d] 27)).alloc (.cells #[.int .i64 0, .int .i32 0, .int .u8 0, .slice none 0 0, .string ⟨#[]⟩, .int .u8 0, .string ⟨#[]⟩] 27)).drew := (((Below.refl _ _).alloc (Nat.le_refl _) _).alloc (by simp) _).drew
  have H1 := ((T7.newAt w w.heap.size rfl (.int .i64 k) (.int .i32 r) (.int .u8 p) (.slice va vn vc) (.string i) (.int .u8 f) (.string d) 27).past (.cells #[.int .i64 0, .int .i32 0, .int .u8 0, .slice none 0 0, .string ⟨#[]⟩, .int .u8 0, .string ⟨#[]⟩] 27)).drew
  have H2 := (T7.newAt (w.alloc (.cells #[.int .i64 k, .int .i32 r, .int .u8 p, .slice va vn vc, .string i, .int .u8 f, .string d] 27)) (w.heap.size + 1) (by simp) (.int .i64 0) (.int .i32 0) (.int .u8 0) (.slice none 0 0) (.string ⟨#[]⟩) (.int .u8 0) (.string ⟨#[]⟩) 27).drew
  refine wp_region_held_drew (S := fun w' => w'.cell? ⟨w.heap.size, 0, none⟩ = some (.int .i64 k) ∧ w'.cell? ⟨w.heap.size, 1, none⟩ = some (.int .i32 r) ∧ w'.cell? ⟨w.heap.size, 2, none⟩ = some (.int .u8 p) ∧ w'.cell? ⟨w.heap.size, 3, none⟩ = some (.slice va vn vc) ∧ w'.cell? ⟨w.heap.size, 4, none⟩ = some (.string i) ∧ w'.cell? ⟨w.heap.size, 5, none⟩ = some (.int .u8 f) ∧ w'.cell? ⟨w.heap.size, 6, none⟩ = some (.string d)) (by kernel_rfl) ?_ (fun hHeld => ?_)
  · exact H1.2.1
  refine take_at (i := 0) (v := ?_) rfl (by kernel_rfl) (by kernel_rfl) (by kernel_rfl) (fun _ _ _ h => h) (by kernel_rfl) (by assumption) ?_ ?_
  rotate_left
  · (intro w hSw; (try dsimp only at hSw); go_simp; try with_reducible rfl)
  simp only [Act.put, List.setIfInBounds_toArray, List.set_cons_zero, List.set_cons_succ]
  refine take_at (i := 1) (v := ?_) rfl (by kernel_rfl) (by kernel_rfl) (by kernel_rfl) (fun _ _ _ h => h) (by kernel_rfl) (by assumption) ?_ ?_
  rotate_left
  · (intro w hSw; (try dsimp only at hSw); go_simp; try with_reducible rfl)
  simp only [Act.put, List.setIfInBounds_toArray, List.set_cons_zero, List.set_cons_succ]
  refine take_at (i := 2) (v := ?_) rfl (by kernel_rfl) (by kernel_rfl) (by kernel_rfl) (fun _ _ _ h => h) (by kernel_rfl) (by assumption) ?_ ?_
  rotate_left
  · (intro w hSw; (try dsimp only at hSw); go_simp; try with_reducible rfl)
  simp only [Act.put, List.setIfInBounds_toArray, List.set_cons_zero, List.set_cons_succ]
  refine take_at (i := 3) (v := ?_) rfl (by kernel_rfl) (by kernel_rfl) (by kernel_rfl) (fun _ _ _ h => h) (by kernel_rfl) (by assumption) ?_ ?_
  rotate_left
  · (intro w hSw; (try dsimp only at hSw); go_simp; try with_reducible rfl)
  simp only [Act.put, List.setIfInBounds_toArray, List.set_cons_zero, List.set_cons_succ]
  refine take_at (i := 4) (v := ?_) rfl (by kernel_rfl) (by kernel_rfl) (by kernel_rfl) (fun _ _ _ h => h) (by kernel_rfl) (by assumption) ?_ ?_
  rotate_left
  · (intro w hSw; (try dsimp only at hSw); go_simp; try with_reducible rfl)
  simp only [Act.put, List.setIfInBounds_toArray, List.set_cons_zero, List.set_cons_succ]
  refine do_at (i := 5) rfl (by kernel_rfl) (by kernel_rfl) (fun K hK => ?_)
  go_simp
  refine (data_any d HD.out _).mono ?_
  rintro e wx ⟨rfl, bx⟩
  have H1' := H1.below bx
  have H2' := H2.below bx
  have B1' := B0.trans (bx.mono B0.size)
  clear H1 H2 bx B0 hHeld
  have H1 := H1'
  have H2 := H2'
  have B1 := B1'
  clear H1' H2' B1'
  go_simp
  refine hK.out _ _ ?_ (fun hHeld => ?_)
  · exact H1.2.1
  clear hK K
  try simp only [Act.put, List.setIfInBounds_toArray, List.set_cons_zero, List.set_cons_succ]
  refine do_at (i := 6) rfl (by kernel_rfl) (by kernel_rfl) (fun K hK => ?_)
  have P2 := H2.put (.int .i64 0) (.int .i32 0) (.int .u8 0) (.slice none 0 0) (.string ⟨#[]⟩) (.int .u8 0) (.string d)
  have BP := put7_below B1 (b := w.heap.size + 1) (by omega) (.int .i64 0) (.int .i32 0) (.int .u8 0) (.slice none 0 0) (.string ⟨#[]⟩) (.int .u8 0) (.string d)
  have PH := H1.put_other (b' := w.heap.size + 1) (c0 := (.int .i64 0)) (c1 := (.int .i32 0)) (c2 := (.int .u8 0)) (c3 := (.slice none 0 0)) (c4 := (.string ⟨#[]⟩)) (c5 := (.int .u8 0)) (c6 := (.string d)) (by omega)
  obtain ⟨_, ⟨z0, z1, z2, z3, z4, z5, z6⟩, zf⟩ := H2
  have g0 := zf 0
  have g1 := zf 1
  have g2 := zf 2
  have g3 := zf 3
  have g4 := zf 4
  have g5 := zf 5
  have g6 := zf 6
  go_simp
  refine hK.out _ _ ?_ (fun hHeld => ?_)
  · exact PH.2.1
  clear hK K
  try simp only [Act.put, List.setIfInBounds_toArray, List.set_cons_zero, List.set_cons_succ]
  refine take_at (i := 7) (v := ?_) rfl (by kernel_rfl) (by kernel_rfl) (by kernel_rfl) (fun _ _ _ h => h) (by kernel_rfl) (by assumption) ?_ ?_
  rotate_left
  · (intro w hSw; (try dsimp only at hSw); go_simp; try with_reducible rfl)
  simp only [Act.put, List.setIfInBounds_toArray, List.set_cons_zero, List.set_cons_succ]
  refine wpAnyH_done (by kernel_rfl) ?_ _
  go_wp2
  change bodyPost _ _ _ _ _ (put7 wx (w.heap.size + 1) (.int .i64 0) (.int .i32 0) (.int .u8 0) (.slice none 0 0) (.string ⟨#[]⟩) (.int .u8 0) (.string d))
  generalize put7 wx (w.heap.size + 1) (.int .i64 0) (.int .i32 0) (.int .u8 0) (.slice none 0 0) (.string ⟨#[]⟩) (.int .u8 0) (.string d) = wz at P2 BP ⊢
  obtain ⟨_, ⟨r0, r1, r2, r3, r4, r5, r6⟩, _⟩ := P2
  exact bodyPost_ret (v := .tuple #[tok7 0 0 0 (.slice none 0 0) ⟨#[]⟩ 0 d, .bool (datB d)]) (by simp [results, Tryd.results49, go_sem, r0, r1, r2, r3, r4, r5, r6]) rfl ⟨rfl, BP⟩

set_option maxHeartbeats 2000000 in
set_option maxRecDepth 100000 in
theorem kind4_any (k r p f : Int) (va : Option Addr) (vn vc : Nat) (P : Rws) (i d : ByteArray) (w : World) (hM : MatAt w (.slice va vn vc) P) (hi : i.size ≤ maxLen) :
    Calls Tryd.prog 47 #[tok7 k r p (.slice va vn vc) i f d] w fun e w' => e = .returned (.tuple #[tok7 0 0 p (.slice va vn vc) i f ⟨#[]⟩, .bool (hdB p P i f)]) ∧ Below w.heap.size w w' := by
  have HI := Lib.hid hi
  have HM := Lib.hid hM
  clear hi hM
  go_enter Tryd.func47, Tryd.ntmps47
  go_wp2
  have B0 : Below w.heap.size w ((w.alloc (.cells #[.int .i64 k, .int .i32 r, .int .u8 p, .slice va vn vc, .string i, .int .u8 f, .string d] 27)).alloc (.cells #[.int .i64 0, .int .i32 0, .int .u8 0, .slice none 0 0, .string ⟨#[]⟩, .int .u8 0, .string ⟨#[]⟩] 27)).drew := (((Below.refl _ _).alloc (Nat.le_refl _) _).alloc (by simp) _).drew
  have H1 := ((T7.newAt w w.heap.size rfl (.int .i64 k) (.int .i32 r) (.int .u8 p) (.slice va vn vc) (.string i) (.int .u8 f) (.string d) 27).past (.cells #[.int .i64 0, .int .i32 0, .int .u8 0, .slice none 0 0, .string ⟨#[]⟩, .int .u8 0, .string ⟨#[]⟩] 27)).drew
  have H2 := (T7.newAt (w.alloc (.cells #[.int .i64 k, .int .i32 r, .int .u8 p, .slice va vn vc, .string i, .int .u8 f, .string d] 27)) (w.heap.size + 1) (by simp) (.int .i64 0) (.int .i32 0) (.int .u8 0) (.slice none 0 0) (.string ⟨#[]⟩) (.int .u8 0) (.string ⟨#[]⟩) 27).drew
  refine wp_region_held_drew (S := fun w' => w'.cell? ⟨w.heap.size, 0, none⟩ = some (.int .i64 k) ∧ w'.cell? ⟨w.heap.size, 1, none⟩ = some (.int .i32 r) ∧ w'.cell? ⟨w.heap.size, 2, none⟩ = some (.int .u8 p) ∧ w'.cell? ⟨w.heap.size, 3, none⟩ = some (.slice va vn vc) ∧ w'.cell? ⟨w.heap.size, 4, none⟩ = some (.string i) ∧ w'.cell? ⟨w.heap.size, 5, none⟩ = some (.int .u8 f) ∧ w'.cell? ⟨w.heap.size, 6, none⟩ = some (.string d)) (by kernel_rfl) ?_ (fun hHeld => ?_)
  · exact H1.2.1
  refine take_at (i := 0) (v := ?_) rfl (by kernel_rfl) (by kernel_rfl) (by kernel_rfl) (fun _ _ _ h => h) (by kernel_rfl) (by assumption) ?_ ?_
  rotate_left
  · (intro w hSw; (try dsimp only at hSw); go_simp; try with_reducible rfl)
  simp only [Act.put, List.setIfInBounds_toArray, List.set_cons_zero, List.set_cons_succ]
  refine take_at (i := 1) (v := ?_) rfl (by kernel_rfl) (by kernel_rfl) (by kernel_rfl) (fun _ _ _ h => h) (by kernel_rfl) (by assumption) ?_ ?_
  rotate_left
  · (intro w hSw; (try dsimp only at hSw); go_simp; try with_reducible rfl)
  simp only [Act.put, List.setIfInBounds_toArray, List.set_cons_zero, List.set_cons_succ]
  refine take_at (i := 2) (v := ?_) rfl (by kernel_rfl) (by kernel_rfl) (by kernel_rfl) (fun _ _ _ h => h) (by kernel_rfl) (by assumption) ?_ ?_
  rotate_left
  · (intro w hSw; (try dsimp only at hSw); go_simp; try with_reducible rfl)
  simp only [Act.put, List.setIfInBounds_toArray, List.set_cons_zero, List.set_cons_succ]
  refine take_at (i := 3) (v := ?_) rfl (by kernel_rfl) (by kernel_rfl) (by kernel_rfl) (fun _ _ _ h => h) (by kernel_rfl) (by assumption) ?_ ?_
  rotate_left
  · (intro w hSw; (try dsimp only at hSw); go_simp; try with_reducible rfl)
  simp only [Act.put, List.setIfInBounds_toArray, List.set_cons_zero, List.set_cons_succ]
  refine take_at (i := 4) (v := ?_) rfl (by kernel_rfl) (by kernel_rfl) (by kernel_rfl) (fun _ _ _ h => h) (by kernel_rfl) (by assumption) ?_ ?_
  rotate_left
  · (intro w hSw; (try dsimp only at hSw); go_simp; try with_reducible rfl)
  simp only [Act.put, List.setIfInBounds_toArray, List.set_cons_zero, List.set_cons_succ]
  refine take_at (i := 5) (v := ?_) rfl (by kernel_rfl) (by kernel_rfl) (by kernel_rfl) (fun _ _ _ h => h) (by kernel_rfl) (by assumption) ?_ ?_
  rotate_left
  · (intro w hSw; (try dsimp only at hSw); go_simp; try with_reducible rfl)
  simp only [Act.put, List.setIfInBounds_toArray, List.set_cons_zero, List.set_cons_succ]
  refine take_at (i := 6) (v := ?_) rfl (by kernel_rfl) (by kernel_rfl) (by kernel_rfl) (fun _ _ _ h => h) (by kernel_rfl) (by assumption) ?_ ?_
  rotate_left
  · (intro w hSw; (try dsimp only at hSw); go_simp; try with_reducible rfl)
  simp only [Act.put, List.setIfInBounds_toArray, List.set_cons_zero, List.set_cons_succ]
  refine take_at (i := 7) (v := ?_) rfl (by kernel_rfl) (by kernel_rfl) (by kernel_rfl) (fun _ _ _ h => h) (by kernel_rfl) (by assumption) ?_ ?_
  rotate_left
  · (intro w hSw; (try dsimp only at hSw); go_simp; try with_reducible rfl)
  simp only [Act.put, List.setIfInBounds_toArray, List.set_cons_zero, List.set_cons_succ]
  refine take_at (i := 8) (v := ?_) rfl (by kernel_rfl) (by kernel_rfl) (by kernel_rfl) (fun _ _ _ h => h) (by kernel_rfl) (by assumption) ?_ ?_
  rotate_left
  · (intro w hSw; (try dsimp only at hSw); go_simp; try with_reducible rfl)
  simp only [Act.put, List.setIfInBounds_toArray, List.set_cons_zero, List.set_cons_succ]
  refine take_at (i := 9) (v := ?_) rfl (by kernel_rfl) (by kernel_rfl) (by kernel_rfl) (fun _ _ _ h => h) (by kernel_rfl) (by assumption) ?_ ?_
  rotate_left
  · (intro w hSw; (try dsimp only at hSw); go_simp; try with_reducible rfl)
  simp only [Act.put, List.setIfInBounds_toArray, List.set_cons_zero, List.set_cons_succ]
  refine do_at (i := 10) rfl (by kernel_rfl) (by kernel_rfl) (fun K hK => ?_)
  go_simp
  refine (heads_any k r p f _ P i d _ (HM.out.below B0) HI.out).mono ?_
  rintro e wx ⟨rfl, bx⟩
  have H1' := H1.below bx
  have H2' := H2.below bx
  have B1' := B0.trans (bx.mono B0.size)
  clear H1 H2 bx B0 hHeld
  have H1 := H1'
  have H2 := H2'
  have B1 := B1'
  clear H1' H2' B1'
  go_simp
  refine hK.out _ _ ?_ (fun hHeld => ?_)
  · exact H1.2.1
  clear hK K
  try simp only [Act.put, List.setIfInBounds_toArray, List.set_cons_zero, List.set_cons_succ]
  refine do_at (i := 11) rfl (by kernel_rfl) (by kernel_rfl) (fun K hK => ?_)
  have P2 := H2.put (.int .i64 0) (.int .i32 0) (.int .u8 p) (.slice va vn vc) (.string i) (.int .u8 f) (.string ⟨#[]⟩)
  have BP := put7_below B1 (b := w.heap.size + 1) (by omega) (.int .i64 0) (.int .i32 0) (.int .u8 p) (.slice va vn vc) (.string i) (.int .u8 f) (.string ⟨#[]⟩)
  have PH := H1.put_other (b' := w.heap.size + 1) (c0 := (.int .i64 0)) (c1 := (.int .i32 0)) (c2 := (.int .u8 p)) (c3 := (.slice va vn vc)) (c4 := (.string i)) (c5 := (.int .u8 f)) (c6 := (.string ⟨#[]⟩)) (by omega)
  obtain ⟨_, ⟨z0, z1, z2, z3, z4, z5, z6⟩, zf⟩ := H2
  have g0 := zf 0
  have g1 := zf 1
  have g2 := zf 2
  have g3 := zf 3
  have g4 := zf 4
  have g5 := zf 5
  have g6 := zf 6
  go_simp
  refine hK.out _ _ ?_ (fun hHeld => ?_)
  · exact PH.2.1
  clear hK K
  try simp only [Act.put, List.setIfInBounds_toArray, List.set_cons_zero, List.set_cons_succ]
  refine take_at (i := 12) (v := ?_) rfl (by kernel_rfl) (by kernel_rfl) (by kernel_rfl) (fun _ _ _ h => h) (by kernel_rfl) (by assumption) ?_ ?_
  rotate_left
  · (intro w hSw; (try dsimp only at hSw); go_simp; try with_reducible rfl)
  simp only [Act.put, List.setIfInBounds_toArray, List.set_cons_zero, List.set_cons_succ]
  refine wpAnyH_done (by kernel_rfl) ?_ _
  go_wp2
  change bodyPost _ _ _ _ _ (put7 wx (w.heap.size + 1) (.int .i64 0) (.int .i32 0) (.int .u8 p) (.slice va vn vc) (.string i) (.int .u8 f) (.string ⟨#[]⟩))
  generalize put7 wx (w.heap.size + 1) (.int .i64 0) (.int .i32 0) (.int .u8 p) (.slice va vn vc) (.string i) (.int .u8 f) (.string ⟨#[]⟩) = wz at P2 BP ⊢
  obtain ⟨_, ⟨r0, r1, r2, r3, r4, r5, r6⟩, _⟩ := P2
  exact bodyPost_ret (v := .tuple #[tok7 0 0 p (.slice va vn vc) i f ⟨#[]⟩, .bool (hdB p P i f)]) (by simp [results, Tryd.results47, go_sem, r0, r1, r2, r3, r4, r5, r6]) rfl ⟨rfl, BP⟩

set_option maxHeartbeats 2000000 in
set_option maxRecDepth 100000 in
theorem kind6_any (k r p f : Int) (va : Option Addr) (vn vc : Nat) (P : Rws) (i d : ByteArray) (w : World) (hM : MatAt w (.slice va vn vc) P) (hi : i.size ≤ maxLen) (hd : d.size ≤ maxLen) :
    Calls Tryd.prog 51 #[tok7 k r p (.slice va vn vc) i f d] w fun e w' => e = .returned (.tuple #[tok7 k 0 p (.slice va vn vc) i f d, .bool (hdB p P i f && datB d)]) ∧ Below w.heap.size w w' := by
  have HI := Lib.hid hi
  have HD := Lib.hid hd
  have HM := Lib.hid hM
  clear hi hM hd
  obtain ⟨q, hq⟩ : ∃ q, hdB p P i f = q := ⟨_, rfl⟩
  have HQ := Lib.hid hq
  rw [hq]
  clear hq
  cases q
  · go_enter Tryd.func51, Tryd.ntmps51
    go_wp2
    have B0 : Below w.heap.size w ((w.alloc (.cells #[.int .i64 k, .int .i32 0, .int .u8 p, .slice va vn vc, .string i, .int .u8 f, .string d] 27)).alloc (.cells #[.int .i64 0, .int .i32 0, .int .u8 0, .slice none 0 0, .string ⟨#[]⟩, .int .u8 0, .string ⟨#[]⟩] 27)).drew := (((Below.refl _ _).alloc (Nat.le_refl _) _).alloc (by simp) _).drew
    have H1 := ((T7.newAt w w.heap.size rfl (.int .i64 k) (.int .i32 0) (.int .u8 p) (.slice va vn vc) (.string i) (.int .u8 f) (.string d) 27).past (.cells #[.int .i64 0, .int .i32 0, .int .u8 0, .slice none 0 0, .string ⟨#[]⟩, .int .u8 0, .string ⟨#[]⟩] 27)).drew
    have H2 := (T7.newAt (w.alloc (.cells #[.int .i64 k, .int .i32 0, .int .u8 p, .slice va vn vc, .string i, .int .u8 f, .string d] 27)) (w.heap.size + 1) (by simp) (.int .i64 0) (.int .i32 0) (.int .u8 0) (.slice none 0 0) (.string ⟨#[]⟩) (.int .u8 0) (.string ⟨#[]⟩) 27).drew
    refine wp_region_held_drew (S := fun w' => w'.cell? ⟨w.heap.size, 0, none⟩ = some (.int .i64 k) ∧ w'.cell? ⟨w.heap.size, 1, none⟩ = some (.int .i32 0) ∧ w'.cell? ⟨w.heap.size, 2, none⟩ = some (.int .u8 p) ∧ w'.cell? ⟨w.heap.size, 3, none⟩ = some (.slice va vn vc) ∧ w'.cell? ⟨w.heap.size, 4, none⟩ = some (.string i) ∧ w'.cell? ⟨w.heap.size, 5, none⟩ = some (.int .u8 f) ∧ w'.cell? ⟨w.heap.size, 6, none⟩ = some (.string d)) (by kernel_rfl) ?_ (fun hHeld => ?_)
    · exact H1.2.1
    refine take_at (i := 0) (v := ?_) rfl (by kernel_rfl) (by kernel_rfl) (by kernel_rfl) (fun _ _ _ h => h) (by kernel_rfl) (by assumption) ?_ ?_
    rotate_left
    · (intro w hSw; (try dsimp only at hSw); go_simp; try with_reducible rfl)
    simp only [Act.put, List.setIfInBounds_toArray, List.set_cons_zero, List.set_cons_succ]
    refine take_at (i := 1) (v := ?_) rfl (by kernel_rfl) (by kernel_rfl) (by kernel_rfl) (fun _ _ _ h => h) (by kernel_rfl) (by assumption) ?_ ?_
    rotate_left
    · (intro w hSw; (try dsimp only at hSw); go_simp; try with_reducible rfl)
    simp only [Act.put, List.setIfInBounds_toArray, List.set_cons_zero, List.set_cons_succ]
    refine do_at (i := 2) rfl (by kernel_rfl) (by kernel_rfl) (fun K hK => ?_)
    go_simp
    refine (heads_any k 0 p f _ P i d _ (HM.out.below B0) HI.out).mono ?_
    rintro e wx ⟨rfl, bx⟩
    rw [HQ.out]
    have H1' := H1.below bx
    have H2' := H2.below bx
    have B1' := B0.trans (bx.mono B0.size)
    clear H1 H2 bx B0 hHeld
    have H1 := H1'
    have H2 := H2'
    have B1 := B1'
    clear H1' H2' B1'
    go_simp
    refine hK.out _ _ ?_ (fun hHeld => ?_)
    · exact H1.2.1
    clear hK K
    try simp only [Act.put, List.setIfInBounds_toArray, List.set_cons_zero, List.set_cons_succ]
    refine take_at (i := 3) (v := ?_) rfl (by kernel_rfl) (by kernel_rfl) (by kernel_rfl) (fun _ _ _ h => h) (by kernel_rfl) (by assumption) ?_ ?_
    rotate_left
    · (intro w hSw; (try dsimp only at hSw); go_simp; try with_reducible rfl)
    simp only [Act.put, List.setIfInBounds_toArray, List.set_cons_zero, List.set_cons_succ]
    refine skip_at (i := 4) rfl (by kernel_rfl) (by kernel_rfl) (by kernel_rfl) (fun _ _ _ h => h) (by kernel_rfl) (by assumption) ?_
    simp only [Act.put, List.setIfInBounds_toArray, List.set_cons_zero, List.set_cons_succ]
    refine skip_at (i := 5) rfl (by kernel_rfl) (by kernel_rfl) (by kernel_rfl) (fun _ _ _ h => h) (by kernel_rfl) (by assumption) ?_
    simp only [Act.put, List.setIfInBounds_toArray, List.set_cons_zero, List.set_cons_succ]
    refine skip_at (i := 6) rfl (by kernel_rfl) (by kernel_rfl) (by kernel_rfl) (fun _ _ _ h => h) (by kernel_rfl) (by assumption) ?_
    simp only [Act.put, List.setIfInBounds_toArray, List.set_cons_zero, List.set_cons_succ]
    refine take_at (i := 7) (v := ?_) rfl (by kernel_rfl) (by kernel_rfl) (by kernel_rfl) (fun _ _ _ h => h) (by kernel_rfl) (by assumption) ?_ ?_
    rotate_left
    · (intro w hSw; (try dsimp only at hSw); go_simp; try with_reducible rfl)
    simp only [Act.put, List.setIfInBounds_toArray, List.set_cons_zero, List.set_cons_succ]
    refine do_at (i := 8) rfl (by kernel_rfl) (by kernel_rfl) (fun K hK => ?_)
    have P2 := H2.put (.int .i64 k) (.int .i32 0) (.int .u8 p) (.slice va vn vc) (.string i) (.int .u8 f) (.string d)
    have BP := put7_below B1 (b := w.heap.size + 1) (by omega) (.int .i64 k) (.int .i32 0) (.int .u8 p) (.slice va vn vc) (.string i) (.int .u8 f) (.string d)
    have PH := H1.put_other (b' := w.heap.size + 1) (c0 := (.int .i64 k)) (c1 := (.int .i32 0)) (c2 := (.int .u8 p)) (c3 := (.slice va vn vc)) (c4 := (.string i)) (c5 := (.int .u8 f)) (c6 := (.string d)) (by omega)
    obtain ⟨_, ⟨z0, z1, z2, z3, z4, z5, z6⟩, zf⟩ := H2
    have g0 := zf 0
    have g1 := zf 1
    have g2 := zf 2
    have g3 := zf 3
    have g4 := zf 4
    have g5 := zf 5
    have g6 := zf 6
    go_simp
    refine hK.out _ _ ?_ (fun hHeld => ?_)
    · exact PH.2.1
    clear hK K
    try simp only [Act.put, List.setIfInBounds_toArray, List.set_cons_zero, List.set_cons_succ]
    refine take_at (i := 9) (v := ?_) rfl (by kernel_rfl) (by kernel_rfl) (by kernel_rfl) (fun _ _ _ h => h) (by kernel_rfl) (by assumption) ?_ ?_
    rotate_left
    · (intro w hSw; (try dsimp only at hSw); go_simp; try with_reducible rfl)
    simp only [Act.put, List.setIfInBounds_toArray, List.set_cons_zero, List.set_cons_succ]
    refine wpAnyH_done (by kernel_rfl) ?_ _
    go_wp2
    change bodyPost _ _ _ _ _ (put7 wx (w.heap.size + 1) (.int .i64 k) (.int .i32 0) (.int .u8 p) (.slice va vn vc) (.string i) (.int .u8 f) (.string d))
    generalize put7 wx (w.heap.size + 1) (.int .i64 k) (.int .i32 0) (.int .u8 p) (.slice va vn vc) (.string i) (.int .u8 f) (.string d) = wz at P2 BP ⊢
    obtain ⟨_, ⟨r0, r1, r2, r3, r4, r5, r6⟩, _⟩ := P2
    exact bodyPost_ret (v := .tuple #[tok7 k 0 p (.slice va vn vc) i f d, .bool (false && datB d)]) (by simp [results, Tryd.results51, go_sem, r0, r1, r2, r3, r4, r5, r6]) rfl ⟨rfl, BP⟩
  · go_enter Tryd.func51, Tryd.ntmps51
    go_wp2
    have B0 : Below w.heap.size w ((w.alloc (.cells #[.int .i64 k, .int .i32 0, .int .u8 p, .slice va vn vc, .string i, .int .u8 f, .string d] 27)).alloc (.cells #[.int .i64 0, .int .i32 0, .int .u8 0, .slice none 0 0, .string ⟨#[]⟩, .int .u8 0, .string ⟨#[]⟩] 27)).drew := (((Below.refl _ _).alloc (Nat.le_refl _) _).alloc (by simp) _).drew
    have H1 := ((T7.newAt w w.heap.size rfl (.int .i64 k) (.int .i32 0) (.int .u8 p) (.slice va vn vc) (.string i) (.int .u8 f) (.string d) 27).past (.cells #[.int .i64 0, .int .i32 0, .int .u8 0, .slice none 0 0, .string ⟨#[]⟩, .int .u8 0, .string ⟨#[]⟩] 27)).drew
    have H2 := (T7.newAt (w.alloc (.cells #[.int .i64 k, .int .i32 0, .int .u8 p, .slice va vn vc, .string i, .int .u8 f, .string d] 27)) (w.heap.size + 1) (by simp) (.int .i64 0) (.int .i32 0) (.int .u8 0) (.slice none 0 0) (.string ⟨#[]⟩) (.int .u8 0) (.string ⟨#[]⟩) 27).drew
    refine wp_region_held_drew (S := fun w' => w'.cell? ⟨w.heap.size, 0, none⟩ = some (.int .i64 k) ∧ w'.cell? ⟨w.heap.size, 1, none⟩ = some (.int .i32 0) ∧ w'.cell? ⟨w.heap.size, 2, none⟩ = some (.int .u8 p) ∧ w'.cell? ⟨w.heap.size, 3, none⟩ = some (.slice va vn vc) ∧ w'.cell? ⟨w.heap.size, 4, none⟩ = some (.string i) ∧ w'.cell? ⟨w.heap.size, 5, none⟩ = some (.int .u8 f) ∧ w'.cell? ⟨w.heap.size, 6, none⟩ = some (.string d)) (by kernel_rfl) ?_ (fun hHeld => ?_)
    · exact H1.2.1
    refine take_at (i := 0) (v := ?_) rfl (by kernel_rfl) (by kernel_rfl) (by kernel_rfl) (fun _ _ _ h => h) (by kernel_rfl) (by assumption) ?_ ?_
    rotate_left
    · (intro w hSw; (try dsimp only at hSw); go_simp; try with_reducible rfl)
    simp only [Act.put, List.setIfInBounds_toArray, List.set_cons_zero, List.set_cons_succ]
    refine take_at (i := 1) (v := ?_) rfl (by kernel_rfl) (by kernel_rfl) (by kernel_rfl) (fun _ _ _ h => h) (by kernel_rfl) (by assumption) ?_ ?_
    rotate_left
    · (intro w hSw; (try dsimp only at hSw); go_simp; try with_reducible rfl)
    simp only [Act.put, List.setIfInBounds_toArray, List.set_cons_zero, List.set_cons_succ]
    refine do_at (i := 2) rfl (by kernel_rfl) (by kernel_rfl) (fun K hK => ?_)
    go_simp
    refine (heads_any k 0 p f _ P i d _ (HM.out.below B0) HI.out).mono ?_
    rintro e wx ⟨rfl, bx⟩
    rw [HQ.out]
    have H1' := H1.below bx
    have H2' := H2.below bx
    have B1' := B0.trans (bx.mono B0.size)
    clear H1 H2 bx B0 hHeld
    have H1 := H1'
    have H2 := H2'
    have B1 := B1'
    clear H1' H2' B1'
    go_simp
    refine hK.out _ _ ?_ (fun hHeld => ?_)
    · exact H1.2.1
    clear hK K
    try simp only [Act.put, List.setIfInBounds_toArray, List.set_cons_zero, List.set_cons_succ]
    refine take_at (i := 3) (v := ?_) rfl (by kernel_rfl) (by kernel_rfl) (by kernel_rfl) (fun _ _ _ h => h) (by kernel_rfl) (by assumption) ?_ ?_
    rotate_left
    · (intro w hSw; (try dsimp only at hSw); go_simp; try with_reducible rfl)
    simp only [Act.put, List.setIfInBounds_toArray, List.set_cons_zero, List.set_cons_succ]
    refine take_at (i := 4) (v := ?_) rfl (by kernel_rfl) (by kernel_rfl) (by kernel_rfl) (fun _ _ _ h => h) (by kernel_rfl) (by assumption) ?_ ?_
    rotate_left
    · (intro w hSw; (try dsimp only at hSw); go_simp; try with_reducible rfl)
    simp only [Act.put, List.setIfInBounds_toArray, List.set_cons_zero, List.set_cons_succ]
    refine take_at (i := 5) (v := ?_) rfl (by kernel_rfl) (by kernel_rfl) (by kernel_rfl) (fun _ _ _ h => h) (by kernel_rfl) (by assumption) ?_ ?_
    rotate_left
    · (intro w hSw; (try dsimp only at hSw); go_simp; try with_reducible rfl)
    simp only [Act.put, List.setIfInBounds_toArray, List.set_cons_zero, List.set_cons_succ]
    refine do_at (i := 6) rfl (by kernel_rfl) (by kernel_rfl) (fun K hK => ?_)
    go_simp
    refine (data_any d HD.out _).mono ?_
    rintro e wx ⟨rfl, bx⟩
    have H1' := H1.below bx
    have H2' := H2.below bx
    have B1' := B1.trans (bx.mono B1.size)
    clear H1 H2 bx B1 hHeld
    have H1 := H1'
    have H2 := H2'
    have B1 := B1'
    clear H1' H2' B1'
    go_simp
    refine hK.out _ _ ?_ (fun hHeld => ?_)
    · exact H1.2.1
    clear hK K
    try simp only [Act.put, List.setIfInBounds_toArray, List.set_cons_zero, List.set_cons_succ]
    refine take_at (i := 7) (v := ?_) rfl (by kernel_rfl) (by kernel_rfl) (by kernel_rfl) (fun _ _ _ h => h) (by kernel_rfl) (by assumption) ?_ ?_
    rotate_left
    · (intro w hSw; (try dsimp only at hSw); go_simp; try with_reducible rfl)
    simp only [Act.put, List.setIfInBounds_toArray, List.set_cons_zero, List.set_cons_succ]
    refine do_at (i := 8) rfl (by kernel_rfl) (by kernel_rfl) (fun K hK => ?_)
    have P2 := H2.put (.int .i64 k) (.int .i32 0) (.int .u8 p) (.slice va vn vc) (.string i) (.int .u8 f) (.string d)
    have BP := put7_below B1 (b := w.heap.size + 1) (by omega) (.int .i64 k) (.int .i32 0) (.int .u8 p) (.slice va vn vc) (.string i) (.int .u8 f) (.string d)
    have PH := H1.put_other (b' := w.heap.size + 1) (c0 := (.int .i64 k)) (c1 := (.int .i32 0)) (c2 := (.int .u8 p)) (c3 := (.slice va vn vc)) (c4 := (.string i)) (c5 := (.int .u8 f)) (c6 := (.string d)) (by omega)
    obtain ⟨_, ⟨z0, z1, z2, z3, z4, z5, z6⟩, zf⟩ := H2
    have g0 := zf 0
    have g1 := zf 1
    have g2 := zf 2
    have g3 := zf 3
    have g4 := zf 4
    have g5 := zf 5
    have g6 := zf 6
    go_simp
    refine hK.out _ _ ?_ (fun hHeld => ?_)
    · exact PH.2.1
    clear hK K
    try simp only [Act.put, List.setIfInBounds_toArray, List.set_cons_zero, List.set_cons_succ]
    refine take_at (i := 9) (v := ?_) rfl (by kernel_rfl) (by kernel_rfl) (by kernel_rfl) (fun _ _ _ h => h) (by kernel_rfl) (by assumption) ?_ ?_
    rotate_left
    · (intro w hSw; (try dsimp only at hSw); go_simp; try with_reducible rfl)
    simp only [Act.put, List.setIfInBounds_toArray, List.set_cons_zero, List.set_cons_succ]
    refine wpAnyH_done (by kernel_rfl) ?_ _
    go_wp2
    change bodyPost _ _ _ _ _ (put7 wx (w.heap.size + 1) (.int .i64 k) (.int .i32 0) (.int .u8 p) (.slice va vn vc) (.string i) (.int .u8 f) (.string d))
    generalize put7 wx (w.heap.size + 1) (.int .i64 k) (.int .i32 0) (.int .u8 p) (.slice va vn vc) (.string i) (.int .u8 f) (.string d) = wz at P2 BP ⊢
    obtain ⟨_, ⟨r0, r1, r2, r3, r4, r5, r6⟩, _⟩ := P2
    exact bodyPost_ret (v := .tuple #[tok7 k 0 p (.slice va vn vc) i f d, .bool (true && datB d)]) (by simp [results, Tryd.results51, go_sem, r0, r1, r2, r3, r4, r5, r6]) rfl ⟨rfl, BP⟩

set_option maxHeartbeats 4000000 in
set_option maxRecDepth 100000 in
theorem kind3_any (k r p f : Int) (va : Option Addr) (vn vc : Nat) (i d : ByteArray) (w : World) (hi : i.size ≤ maxLen) :
    Calls Tryd.prog 43 #[tok7 k r p (.slice va vn vc) i f d] w fun e w' => e = .returned (.tuple #[tok7 0 0 0 (.slice none 0 0) i f ⟨#[]⟩, .bool (escB i f)]) ∧ Below w.heap.size w w' := by
  have HI := Lib.hid hi
  clear hi
  obtain ⟨q, hq⟩ : ∃ q, intB i = q := ⟨_, rfl⟩
  have HQ := Lib.hid hq
  obtain ⟨s, hs⟩ : ∃ s, btw 48 126 f = s := ⟨_, rfl⟩
  have HS := Lib.hid hs
  obtain ⟨o, ho⟩ : ∃ o, (i.toList.isEmpty && opnB f) = o := ⟨_, rfl⟩
  have HO := Lib.hid ho
  have HE := Lib.hid (show escB i f = (q && s && !o) by rw [escB, hq, hs, ho])
  rw [HE.out]
  clear hq hs ho
  go_enter Tryd.func43, Tryd.ntmps43
  go_upto_region 1 with (fail)
  go_cut [4] (fun v4 wc => v4 = .bool o ∧ wc = (w.alloc (.cells #[.int .i64 k, .int .i32 r, .int .u8 p, .slice va vn vc, .string i, .int .u8 f, .string d] 27)).alloc (.cells #[.int .i64 0, .int .i32 0, .int .u8 0, .slice none 0 0, .string ⟨#[]⟩, .int .u8 0, .string ⟨#[]⟩] 27))
  case first =>
    as_aux_lemma =>
    cases he : i.toList.isEmpty
    · go_wp2
      go_meet
      case rel => exact ⟨by rw [← HO.out, he]; rfl, rfl⟩
    · obtain ⟨x, hx⟩ : ∃ x, Lib.indexByte [80, 88, 91, 93, 94, 95] f.toNat.toUInt8 = x := ⟨_, rfl⟩
      have HX := Lib.hid (show opnB f = decide (0 ≤ x) by rw [opnB, hx])
      have HI2 := Lib.hid hx
      clear hx
      go_wp2_with fail
      refine (Tryd.strings_IndexByte _ _ _).mono ?_
      rintro e w' ⟨rfl, rfl⟩
      rw [show (⟨#[80, 88, 91, 93, 94, 95]⟩ : ByteArray).data.toList = [80, 88, 91, 93, 94, 95] from rfl, HI2.out]
      go_wp2
      go_meet
      case rel => exact ⟨by rw [← HO.out, he, HX.out]; rfl, rfl⟩
  case rest =>
    obtain ⟨rfl, rfl⟩ := hcut
    cases q
    · go_wp2
      have B0 : Below w.heap.size w ((w.alloc (.cells #[.int .i64 k, .int .i32 r, .int .u8 p, .slice va vn vc, .string i, .int .u8 f, .string d] 27)).alloc (.cells #[.int .i64 0, .int .i32 0, .int .u8 0, .slice none 0 0, .string ⟨#[]⟩, .int .u8 0, .string ⟨#[]⟩] 27)).drew := (((Below.refl _ _).alloc (Nat.le_refl _) _).alloc (by simp) _).drew
      have H1 := ((T7.newAt w w.heap.size rfl (.int .i64 k) (.int .i32 r) (.int .u8 p) (.slice va vn vc) (.string i) (.int .u8 f) (.string d) 27).past (.cells #[.int .i64 0, .int .i32 0, .int .u8 0, .slice none 0 0, .string ⟨#[]⟩, .int .u8 0, .string ⟨#[]⟩] 27)).drew
      have H2 := (T7.newAt (w.alloc (.cells #[.int .i64 k, .int .i32 r, .int .u8 p, .slice va vn vc, .string i, .int .u8 f, .string d] 27)) (w.heap.size + 1) (by simp) (.int .i64 0) (.int .i32 0) (.int .u8 0) (.slice none 0 0) (.string ⟨#[]⟩) (.int .u8 0) (.string ⟨#[]⟩) 27).drew
      refine wp_region_held_drew (S := fun w' => w'.cell? ⟨w.heap.size, 0, none⟩ = some (.int .i64 k) ∧ w'.cell? ⟨w.heap.size, 1, none⟩ = some (.int .i32 r) ∧ w'.cell? ⟨w.heap.size, 2, none⟩ = some (.int .u8 p) ∧ w'.cell? ⟨w.heap.size, 3, none⟩ = some (.slice va vn vc) ∧ w'.cell? ⟨w.heap.size, 4, none⟩ = some (.string i) ∧ w'.cell? ⟨w.heap.size, 5, none⟩ = some (.int .u8 f) ∧ w'.cell? ⟨w.heap.size, 6, none⟩ = some (.string d)) (by kernel_rfl) ?_ (fun hHeld => ?_)
      · exact H1.2.1
      refine take_at (i := 0) (v := ?_) rfl (by kernel_rfl) (by kernel_rfl) (by kernel_rfl) (fun _ _ _ h => h) (by kernel_rfl) (by assumption) ?_ ?_
      rotate_left
      · (intro w hSw; (try dsimp only at hSw); go_simp; try with_reducible rfl)
      simp only [Act.put, List.setIfInBounds_toArray, List.set_cons_zero, List.set_cons_succ]
      refine take_at (i := 1) (v := ?_) rfl (by kernel_rfl) (by kernel_rfl) (by kernel_rfl) (fun _ _ _ h => h) (by kernel_rfl) (by assumption) ?_ ?_
      rotate_left
      · (intro w hSw; (try dsimp only at hSw); go_simp; try with_reducible rfl)
      simp only [Act.put, List.setIfInBounds_toArray, List.set_cons_zero, List.set_cons_succ]
      refine take_at (i := 2) (v := ?_) rfl (by kernel_rfl) (by kernel_rfl) (by kernel_rfl) (fun _ _ _ h => h) (by kernel_rfl) (by assumption) ?_ ?_
      rotate_left
      · (intro w hSw; (try dsimp only at hSw); go_simp; try with_reducible rfl)
      simp only [Act.put, List.setIfInBounds_toArray, List.set_cons_zero, List.set_cons_succ]
      refine take_at (i := 3) (v := ?_) rfl (by kernel_rfl) (by kernel_rfl) (by kernel_rfl) (fun _ _ _ h => h) (by kernel_rfl) (by assumption) ?_ ?_
      rotate_left
      · (intro w hSw; (try dsimp only at hSw); go_simp; try with_reducible rfl)
      simp only [Act.put, List.setIfInBounds_toArray, List.set_cons_zero, List.set_cons_succ]
      refine take_at (i := 4) (v := ?_) rfl (by kernel_rfl) (by kernel_rfl) (by kernel_rfl) (fun _ _ _ h => h) (by kernel_rfl) (by assumption) ?_ ?_
      rotate_left
      · (intro w hSw; (try dsimp only at hSw); go_simp; try with_reducible rfl)
      simp only [Act.put, List.setIfInBounds_toArray, List.set_cons_zero, List.set_cons_succ]
      refine take_at (i := 5) (v := ?_) rfl (by kernel_rfl) (by kernel_rfl) (by kernel_rfl) (fun _ _ _ h => h) (by kernel_rfl) (by assumption) ?_ ?_
      rotate_left
      · (intro w hSw; (try dsimp only at hSw); go_simp; try with_reducible rfl)
      simp only [Act.put, List.setIfInBounds_toArray, List.set_cons_zero, List.set_cons_succ]
      refine take_at (i := 6) (v := ?_) rfl (by kernel_rfl) (by kernel_rfl) (by kernel_rfl) (fun _ _ _ h => h) (by kernel_rfl) (by assumption) ?_ ?_
      rotate_left
      · (intro w hSw; (try dsimp only at hSw); go_simp; try with_reducible rfl)
      simp only [Act.put, List.setIfInBounds_toArray, List.set_cons_zero, List.set_cons_succ]
      refine do_at (i := 7) rfl (by kernel_rfl) (by kernel_rfl) (fun K hK => ?_)
      go_simp
      refine (between_any i HI.out _).mono ?_
      rintro e wx ⟨rfl, bx⟩
      rw [HQ.out]
      have H1' := H1.below bx
      have H2' := H2.below bx
      have B1' := B0.trans (bx.mono B0.size)
      clear H1 H2 bx B0 hHeld
      have H1 := H1'
      have H2 := H2'
      have B1 := B1'
      clear H1' H2' B1'
      go_simp
      refine hK.out _ _ ?_ (fun hHeld => ?_)
      · exact H1.2.1
      clear hK K
      try simp only [Act.put, List.setIfInBounds_toArray, List.set_cons_zero, List.set_cons_succ]
      refine take_at (i := 8) (v := ?_) rfl (by kernel_rfl) (by kernel_rfl) (by kernel_rfl) (fun _ _ _ h => h) (by kernel_rfl) (by assumption) ?_ ?_
      rotate_left
      · (intro w hSw; (try dsimp only at hSw); go_simp; try with_reducible rfl)
      simp only [Act.put, List.setIfInBounds_toArray, List.set_cons_zero, List.set_cons_succ]
      refine skip_at (i := 9) rfl (by kernel_rfl) (by kernel_rfl) (by kernel_rfl) (fun _ _ _ h => h) (by kernel_rfl) (by assumption) ?_
      simp only [Act.put, List.setIfInBounds_toArray, List.set_cons_zero, List.set_cons_succ]
      refine skip_at (i := 10) rfl (by kernel_rfl) (by kernel_rfl) (by kernel_rfl) (fun _ _ _ h => h) (by kernel_rfl) (by assumption) ?_
      simp only [Act.put, List.setIfInBounds_toArray, List.set_cons_zero, List.set_cons_succ]
      refine skip_at (i := 11) rfl (by kernel_rfl) (by kernel_rfl) (by kernel_rfl) (fun _ _ _ h => h) (by kernel_rfl) (by assumption) ?_
      simp only [Act.put, List.setIfInBounds_toArray, List.set_cons_zero, List.set_cons_succ]
      refine take_at (i := 12) (v := ?_) rfl (by kernel_rfl) (by kernel_rfl) (by kernel_rfl) (fun _ _ _ h => h) (by kernel_rfl) (by assumption) ?_ ?_
      rotate_left
      · (intro w hSw; (try dsimp only at hSw); go_simp; try with_reducible rfl)
      simp only [Act.put, List.setIfInBounds_toArray, List.set_cons_zero, List.set_cons_succ]
      refine take_at (i := 13) (v := ?_) rfl (by kernel_rfl) (by kernel_rfl) (by kernel_rfl) (fun _ _ _ h => h) (by kernel_rfl) (by assumption) ?_ ?_
      rotate_left
      · (intro w hSw; (try dsimp only at hSw); go_simp; try with_reducible rfl)
      simp only [Act.put, List.setIfInBounds_toArray, List.set_cons_zero, List.set_cons_succ]
      refine skip_at (i := 14) rfl (by kernel_rfl) (by kernel_rfl) (by kernel_rfl) (fun _ _ _ h => h) (by kernel_rfl) (by assumption) ?_
      simp only [Act.put, List.setIfInBounds_toArray, List.set_cons_zero, List.set_cons_succ]
      refine skip_at (i := 15) rfl (by kernel_rfl) (by kernel_rfl) (by kernel_rfl) (fun _ _ _ h => h) (by kernel_rfl) (by assumption) ?_
      simp only [Act.put, List.setIfInBounds_toArray, List.set_cons_zero, List.set_cons_succ]
      refine take_at (i := 16) (v := ?_) rfl (by kernel_rfl) (by kernel_rfl) (by kernel_rfl) (fun _ _ _ h => h) (by kernel_rfl) (by assumption) ?_ ?_
      rotate_left
      · (intro w hSw; (try dsimp only at hSw); go_simp; try with_reducible rfl)
      simp only [Act.put, List.setIfInBounds_toArray, List.set_cons_zero, List.set_cons_succ]
      refine do_at (i := 17) rfl (by kernel_rfl) (by kernel_rfl) (fun K hK => ?_)
      have P2 := H2.put (.int .i64 0) (.int .i32 0) (.int .u8 0) (.slice none 0 0) (.string i) (.int .u8 f) (.string ⟨#[]⟩)
      have BP := put7_below B1 (b := w.heap.size + 1) (by omega) (.int .i64 0) (.int .i32 0) (.int .u8 0) (.slice none 0 0) (.string i) (.int .u8 f) (.string ⟨#[]⟩)
      have PH := H1.put_other (b' := w.heap.size + 1) (c0 := (.int .i64 0)) (c1 := (.int .i32 0)) (c2 := (.int .u8 0)) (c3 := (.slice none 0 0)) (c4 := (.string i)) (c5 := (.int .u8 f)) (c6 := (.string ⟨#[]⟩)) (by omega)
      obtain ⟨_, ⟨z0, z1, z2, z3, z4, z5, z6⟩, zf⟩ := H2
      have g0 := zf 0
      have g1 := zf 1
      have g2 := zf 2
      have g3 := zf 3
      have g4 := zf 4
      have g5 := zf 5
      have g6 := zf 6
      go_simp
      refine hK.out _ _ ?_ (fun hHeld => ?_)
      · exact PH.2.1
      clear hK K
      try simp only [Act.put, List.setIfInBounds_toArray, List.set_cons_zero, List.set_cons_succ]
      refine take_at (i := 18) (v := ?_) rfl (by kernel_rfl) (by kernel_rfl) (by kernel_rfl) (fun _ _ _ h => h) (by kernel_rfl) (by assumption) ?_ ?_
      rotate_left
      · (intro w hSw; (try dsimp only at hSw); go_simp; try with_reducible rfl)
      simp only [Act.put, List.setIfInBounds_toArray, List.set_cons_zero, List.set_cons_succ]
      refine wpAnyH_done (by kernel_rfl) ?_ _
      go_wp2
      change bodyPost _ _ _ _ _ (put7 wx (w.heap.size + 1) (.int .i64 0) (.int .i32 0) (.int .u8 0) (.slice none 0 0) (.string i) (.int .u8 f) (.string ⟨#[]⟩))
      generalize put7 wx (w.heap.size + 1) (.int .i64 0) (.int .i32 0) (.int .u8 0) (.slice none 0 0) (.string i) (.int .u8 f) (.string ⟨#[]⟩) = wz at P2 BP ⊢
      obtain ⟨_, ⟨r0, r1, r2, r3, r4, r5, r6⟩, _⟩ := P2
      exact bodyPost_ret (v := .tuple #[tok7 0 0 0 (.slice none 0 0) i f ⟨#[]⟩, .bool (false && s && !o)]) (by simp [results, Tryd.results43, go_sem, r0, r1, r2, r3, r4, r5, r6]) rfl ⟨rfl, BP⟩
    · cases s
      · go_wp2
        have B0 : Below w.heap.size w ((w.alloc (.cells #[.int .i64 k, .int .i32 r, .int .u8 p, .slice va vn vc, .string i, .int .u8 f, .string d] 27)).alloc (.cells #[.int .i64 0, .int .i32 0, .int .u8 0, .slice none 0 0, .string ⟨#[]⟩, .int .u8 0, .string ⟨#[]⟩] 27)).drew := (((Below.refl _ _).alloc (Nat.le_refl _) _).alloc (by simp) _).drew
        have H1 := ((T7.newAt w w.heap.size rfl (.int .i64 k) (.int .i32 r) (.int .u8 p) (.slice va vn vc) (.string i) (.int .u8 f) (.string d) 27).past (.cells #[.int .i64 0, .int .i32 0, .int .u8 0, .slice none 0 0, .string ⟨#[]⟩, .int .u8 0, .string ⟨#[]⟩] 27)).drew
        have H2 := (T7.newAt (w.alloc (.cells #[.int .i64 k, .int .i32 r, .int .u8 p, .slice va vn vc, .string i, .int .u8 f, .string d] 27)) (w.heap.size + 1) (by simp) (.int .i64 0) (.int .i32 0) (.int .u8 0) (.slice none 0 0) (.string ⟨#[]⟩) (.int .u8 0) (.string ⟨#[]⟩) 27).drew
        refine wp_region_held_drew (S := fun w' => w'.cell? ⟨w.heap.size, 0, none⟩ = some (.int .i64 k) ∧ w'.cell? ⟨w.heap.size, 1, none⟩ = some (.int .i32 r) ∧ w'.cell? ⟨w.heap.size, 2, none⟩ = some (.int .u8 p) ∧ w'.cell? ⟨w.heap.size, 3, none⟩ = some (.slice va vn vc) ∧ w'.cell? ⟨w.heap.size, 4, none⟩ = some (.string i) ∧ w'.cell? ⟨w.heap.size, 5, none⟩ = some (.int .u8 f) ∧ w'.cell? ⟨w.heap.size, 6, none⟩ = some (.string d)) (by kernel_rfl) ?_ (fun hHeld => ?_)
        · exact H1.2.1
        refine take_at (i := 0) (v := ?_) rfl (by kernel_rfl) (by kernel_rfl) (by kernel_rfl) (fun _ _ _ h => h) (by kernel_rfl) (by assumption) ?_ ?_
        rotate_left
        · (intro w hSw; (try dsimp only at hSw); go_simp; try with_reducible rfl)
        simp only [Act.put, List.setIfInBounds_toArray, List.set_cons_zero, List.set_cons_succ]
        refine take_at (i := 1) (v := ?_) rfl (by kernel_rfl) (by kernel_rfl) (by kernel_rfl) (fun _ _ _ h => h) (by kernel_rfl) (by assumption) ?_ ?_
        rotate_left
        · (intro w hSw; (try dsimp only at hSw); go_simp; try with_reducible rfl)
        simp only [Act.put, List.setIfInBounds_toArray, List.set_cons_zero, List.set_cons_succ]
        refine take_at (i := 2) (v := ?_) rfl (by kernel_rfl) (by kernel_rfl) (by kernel_rfl) (fun _ _ _ h => h) (by kernel_rfl) (by assumption) ?_ ?_
        rotate_left
        · (intro w hSw; (try dsimp only at hSw); go_simp; try with_reducible rfl)
        simp only [Act.put, List.setIfInBounds_toArray, List.set_cons_zero, List.set_cons_succ]
        refine take_at (i := 3) (v := ?_) rfl (by kernel_rfl) (by kernel_rfl) (by kernel_rfl) (fun _ _ _ h => h) (by kernel_rfl) (by assumption) ?_ ?_
        rotate_left
        · (intro w hSw; (try dsimp only at hSw); go_simp; try with_reducible rfl)
        simp only [Act.put, List.setIfInBounds_toArray, List.set_cons_zero, List.set_cons_succ]
        refine take_at (i := 4) (v := ?_) rfl (by kernel_rfl) (by kernel_rfl) (by kernel_rfl) (fun _ _ _ h => h) (by kernel_rfl) (by assumption) ?_ ?_
        rotate_left
        · (intro w hSw; (try dsimp only at hSw); go_simp; try with_reducible rfl)
        simp only [Act.put, List.setIfInBounds_toArray, List.set_cons_zero, List.set_cons_succ]
        refine take_at (i := 5) (v := ?_) rfl (by kernel_rfl) (by kernel_rfl) (by kernel_rfl) (fun _ _ _ h => h) (by kernel_rfl) (by assumption) ?_ ?_
        rotate_left
        · (intro w hSw; (try dsimp only at hSw); go_simp; try with_reducible rfl)
        simp only [Act.put, List.setIfInBounds_toArray, List.set_cons_zero, List.set_cons_succ]
        refine take_at (i := 6) (v := ?_) rfl (by kernel_rfl) (by kernel_rfl) (by kernel_rfl) (fun _ _ _ h => h) (by kernel_rfl) (by assumption) ?_ ?_
        rotate_left
        · (intro w hSw; (try dsimp only at hSw); go_simp; try with_reducible rfl)
        simp only [Act.put, List.setIfInBounds_toArray, List.set_cons_zero, List.set_cons_succ]
        refine do_at (i := 7) rfl (by kernel_rfl) (by kernel_rfl) (fun K hK => ?_)
        go_simp
        refine (between_any i HI.out _).mono ?_
        rintro e wx ⟨rfl, bx⟩
        rw [HQ.out]
        have H1' := H1.below bx
        have H2' := H2.below bx
        have B1' := B0.trans (bx.mono B0.size)
        clear H1 H2 bx B0 hHeld
        have H1 := H1'
        have H2 := H2'
        have B1 := B1'
        clear H1' H2' B1'
        go_simp
        refine hK.out _ _ ?_ (fun hHeld => ?_)
        · exact H1.2.1
        clear hK K
        try simp only [Act.put, List.setIfInBounds_toArray, List.set_cons_zero, List.set_cons_succ]
        refine take_at (i := 8) (v := ?_) rfl (by kernel_rfl) (by kernel_rfl) (by kernel_rfl) (fun _ _ _ h => h) (by kernel_rfl) (by assumption) ?_ ?_
        rotate_left
        · (intro w hSw; (try dsimp only at hSw); go_simp; try with_reducible rfl)
        simp only [Act.put, List.setIfInBounds_toArray, List.set_cons_zero, List.set_cons_succ]
        refine take_at (i := 9) (v := ?_) rfl (by kernel_rfl) (by kernel_rfl) (by kernel_rfl) (fun _ _ _ h => h) (by kernel_rfl) (by assumption) ?_ ?_
        rotate_left
        · (intro w hSw; (try dsimp only at hSw); go_simp; try with_reducible rfl)
        simp only [Act.put, List.setIfInBounds_toArray, List.set_cons_zero, List.set_cons_succ]
        refine take_at (i := 10) (v := ?_) rfl (by kernel_rfl) (by kernel_rfl) (by kernel_rfl) (fun _ _ _ h => h) (by kernel_rfl) (by assumption) ?_ ?_
        rotate_left
        · (intro w hSw; (try dsimp only at hSw); go_simp; try with_reducible rfl)
        simp only [Act.put, List.setIfInBounds_toArray, List.set_cons_zero, List.set_cons_succ]
        refine do_at (i := 11) rfl (by kernel_rfl) (by kernel_rfl) (fun K hK => ?_)
        go_simp
        refine (within_u8 _ _ _ _).mono ?_
        rintro e wy ⟨rfl, rfl⟩
        rw [HS.out]
        go_simp
        refine hK.out _ _ ?_ (fun hHeld => ?_)
        · exact H1.2.1
        clear hK K
        try simp only [Act.put, List.setIfInBounds_toArray, List.set_cons_zero, List.set_cons_succ]
        refine take_at (i := 12) (v := ?_) rfl (by kernel_rfl) (by kernel_rfl) (by kernel_rfl) (fun _ _ _ h => h) (by kernel_rfl) (by assumption) ?_ ?_
        rotate_left
        · (intro w hSw; (try dsimp only at hSw); go_simp; try with_reducible rfl)
        simp only [Act.put, List.setIfInBounds_toArray, List.set_cons_zero, List.set_cons_succ]
        refine take_at (i := 13) (v := ?_) rfl (by kernel_rfl) (by kernel_rfl) (by kernel_rfl) (fun _ _ _ h => h) (by kernel_rfl) (by assumption) ?_ ?_
        rotate_left
        · (intro w hSw; (try dsimp only at hSw); go_simp; try with_reducible rfl)
        simp only [Act.put, List.setIfInBounds_toArray, List.set_cons_zero, List.set_cons_succ]
        refine skip_at (i := 14) rfl (by kernel_rfl) (by kernel_rfl) (by kernel_rfl) (fun _ _ _ h => h) (by kernel_rfl) (by assumption) ?_
        simp only [Act.put, List.setIfInBounds_toArray, List.set_cons_zero, List.set_cons_succ]
        refine skip_at (i := 15) rfl (by kernel_rfl) (by kernel_rfl) (by kernel_rfl) (fun _ _ _ h => h) (by kernel_rfl) (by assumption) ?_
        simp only [Act.put, List.setIfInBounds_toArray, List.set_cons_zero, List.set_cons_succ]
        refine take_at (i := 16) (v := ?_) rfl (by kernel_rfl) (by kernel_rfl) (by kernel_rfl) (fun _ _ _ h => h) (by kernel_rfl) (by assumption) ?_ ?_
        rotate_left
        · (intro w hSw; (try dsimp only at hSw); go_simp; try with_reducible rfl)
        simp only [Act.put, List.setIfInBounds_toArray, List.set_cons_zero, List.set_cons_succ]
        refine do_at (i := 17) rfl (by kernel_rfl) (by kernel_rfl) (fun K hK => ?_)
        have P2 := H2.put (.int .i64 0) (.int .i32 0) (.int .u8 0) (.slice none 0 0) (.string i) (.int .u8 f) (.string ⟨#[]⟩)
        have BP := put7_below B1 (b := w.heap.size + 1) (by omega) (.int .i64 0) (.int .i32 0) (.int .u8 0) (.slice none 0 0) (.string i) (.int .u8 f) (.string ⟨#[]⟩)
        have PH := H1.put_other (b' := w.heap.size + 1) (c0 := (.int .i64 0)) (c1 := (.int .i32 0)) (c2 := (.int .u8 0)) (c3 := (.slice none 0 0)) (c4 := (.string i)) (c5 := (.int .u8 f)) (c6 := (.string ⟨#[]⟩)) (by omega)
        obtain ⟨_, ⟨z0, z1, z2, z3, z4, z5, z6⟩, zf⟩ := H2
        have g0 := zf 0
        have g1 := zf 1
        have g2 := zf 2
        have g3 := zf 3
        have g4 := zf 4
        have g5 := zf 5
        have g6 := zf 6
        go_simp
        refine hK.out _ _ ?_ (fun hHeld => ?_)
        · exact PH.2.1
        clear hK K
        try simp only [Act.put, List.setIfInBounds_toArray, List.set_cons_zero, List.set_cons_succ]
        refine take_at (i := 18) (v := ?_) rfl (by kernel_rfl) (by kernel_rfl) (by kernel_rfl) (fun _ _ _ h => h) (by kernel_rfl) (by assumption) ?_ ?_
        rotate_left
        · (intro w hSw; (try dsimp only at hSw); go_simp; try with_reducible rfl)
        simp only [Act.put, List.setIfInBounds_toArray, List.set_cons_zero, List.set_cons_succ]
        refine wpAnyH_done (by kernel_rfl) ?_ _
        go_wp2
        change bodyPost _ _ _ _ _ (put7 wx (w.heap.size + 1) (.int .i64 0) (.int .i32 0) (.int .u8 0) (.slice none 0 0) (.string i) (.int .u8 f) (.string ⟨#[]⟩))
        generalize put7 wx (w.heap.size + 1) (.int .i64 0) (.int .i32 0) (.int .u8 0) (.slice none 0 0) (.string i) (.int .u8 f) (.string ⟨#[]⟩) = wz at P2 BP ⊢
        obtain ⟨_, ⟨r0, r1, r2, r3, r4, r5, r6⟩, _⟩ := P2
        exact bodyPost_ret (v := .tuple #[tok7 0 0 0 (.slice none 0 0) i f ⟨#[]⟩, .bool (true && false && !o)]) (by simp [results, Tryd.results43, go_sem, r0, r1, r2, r3, r4, r5, r6]) rfl ⟨rfl, BP⟩
      · go_wp2
        have B0 : Below w.heap.size w ((w.alloc (.cells #[.int .i64 k, .int .i32 r, .int .u8 p, .slice va vn vc, .string i, .int .u8 f, .string d] 27)).alloc (.cells #[.int .i64 0, .int .i32 0, .int .u8 0, .slice none 0 0, .string ⟨#[]⟩, .int .u8 0, .string ⟨#[]⟩] 27)).drew := (((Below.refl _ _).alloc (Nat.le_refl _) _).alloc (by simp) _).drew
        have H1 := ((T7.newAt w w.heap.size rfl (.int .i64 k) (.int .i32 r) (.int .u8 p) (.slice va vn vc) (.string i) (.int .u8 f) (.string d) 27).past (.cells #[.int .i64 0, .int .i32 0, .int .u8 0, .slice none 0 0, .string ⟨#[]⟩, .int .u8 0, .string ⟨#[]⟩] 27)).drew
        have H2 := (T7.newAt (w.alloc (.cells #[.int .i64 k, .int .i32 r, .int .u8 p, .slice va vn vc, .string i, .int .u8 f, .string d] 27)) (w.heap.size + 1) (by simp) (.int .i64 0) (.int .i32 0) (.int .u8 0) (.slice none 0 0) (.string ⟨#[]⟩) (.int .u8 0) (.string ⟨#[]⟩) 27).drew
        refine wp_region_held_drew (S := fun w' => w'.cell? ⟨w.heap.size, 0, none⟩ = some (.int .i64 k) ∧ w'.cell? ⟨w.heap.size, 1, none⟩ = some (.int .i32 r) ∧ w'.cell? ⟨w.heap.size, 2, none⟩ = some (.int .u8 p) ∧ w'.cell? ⟨w.heap.size, 3, none⟩ = some (.slice va vn vc) ∧ w'.cell? ⟨w.heap.size, 4, none⟩ = some (.string i) ∧ w'.cell? ⟨w.heap.size, 5, none⟩ = some (.int .u8 f) ∧ w'.cell? ⟨w.heap.size, 6, none⟩ = some (.string d)) (by kernel_rfl) ?_ (fun hHeld => ?_)
        · exact H1.2.1
        refine take_at (i := 0) (v := ?_) rfl (by kernel_rfl) (by kernel_rfl) (by kernel_rfl) (fun _ _ _ h => h) (by kernel_rfl) (by assumption) ?_ ?_
        rotate_left
        · (intro w hSw; (try dsimp only at hSw); go_simp; try with_reducible rfl)
        simp only [Act.put, List.setIfInBounds_toArray, List.set_cons_zero, List.set_cons_succ]
        refine take_at (i := 1) (v := ?_) rfl (by kernel_rfl) (by kernel_rfl) (by kernel_rfl) (fun _ _ _ h => h) (by kernel_rfl) (by assumption) ?_ ?_
        rotate_left
        · (intro w hSw; (try dsimp only at hSw); go_simp; try with_reducible rfl)
        simp only [Act.put, List.setIfInBounds_toArray, List.set_cons_zero, List.set_cons_succ]
        refine take_at (i := 2) (v := ?_) rfl (by kernel_rfl) (by kernel_rfl) (by kernel_rfl) (fun _ _ _ h => h) (by kernel_rfl) (by assumption) ?_ ?_
        rotate_left
        · (intro w hSw; (try dsimp only at hSw); go_simp; try with_reducible rfl)
        simp only [Act.put, List.setIfInBounds_toArray, List.set_cons_zero, List.set_cons_succ]
        refine take_at (i := 3) (v := ?_) rfl (by kernel_rfl) (by kernel_rfl) (by kernel_rfl) (fun _ _ _ h => h) (by kernel_rfl) (by assumption) ?_ ?_
        rotate_left
        · (intro w hSw; (try dsimp only at hSw); go_simp; try with_reducible rfl)
        simp only [Act.put, List.setIfInBounds_toArray, List.set_cons_zero, List.set_cons_succ]
        refine take_at (i := 4) (v := ?_) rfl (by kernel_rfl) (by kernel_rfl) (by kernel_rfl) (fun _ _ _ h => h) (by kernel_rfl) (by assumption) ?_ ?_
        rotate_left
        · (intro w hSw; (try dsimp only at hSw); go_simp; try with_reducible rfl)
        simp only [Act.put, List.setIfInBounds_toArray, List.set_cons_zero, List.set_cons_succ]
        refine take_at (i := 5) (v := ?_) rfl (by kernel_rfl) (by kernel_rfl) (by kernel_rfl) (fun _ _ _ h => h) (by kernel_rfl) (by assumption) ?_ ?_
        rotate_left
        · (intro w hSw; (try dsimp only at hSw); go_simp; try with_reducible rfl)
        simp only [Act.put, List.setIfInBounds_toArray, List.set_cons_zero, List.set_cons_succ]
        refine take_at (i := 6) (v := ?_) rfl (by kernel_rfl) (by kernel_rfl) (by kernel_rfl) (fun _ _ _ h => h) (by kernel_rfl) (by assumption) ?_ ?_
        rotate_left
        · (intro w hSw; (try dsimp only at hSw); go_simp; try with_reducible rfl)
        simp only [Act.put, List.setIfInBounds_toArray, List.set_cons_zero, List.set_cons_succ]
        refine do_at (i := 7) rfl (by kernel_rfl) (by kernel_rfl) (fun K hK => ?_)
        go_simp
        refine (between_any i HI.out _).mono ?_
        rintro e wx ⟨rfl, bx⟩
        rw [HQ.out]
        have H1' := H1.below bx
        have H2' := H2.below bx
        have B1' := B0.trans (bx.mono B0.size)
        clear H1 H2 bx B0 hHeld
        have H1 := H1'
        have H2 := H2'
        have B1 := B1'
        clear H1' H2' B1'
        go_simp
        refine hK.out _ _ ?_ (fun hHeld => ?_)
        · exact H1.2.1
        clear hK K
        try simp only [Act.put, List.setIfInBounds_toArray, List.set_cons_zero, List.set_cons_succ]
        refine take_at (i := 8) (v := ?_) rfl (by kernel_rfl) (by kernel_rfl) (by kernel_rfl) (fun _ _ _ h => h) (by kernel_rfl) (by assumption) ?_ ?_
        rotate_left
        · (intro w hSw; (try dsimp only at hSw); go_simp; try with_reducible rfl)
        simp only [Act.put, List.setIfInBounds_toArray, List.set_cons_zero, List.set_cons_succ]
        refine take_at (i := 9) (v := ?_) rfl (by kernel_rfl) (by kernel_rfl) (by kernel_rfl) (fun _ _ _ h => h) (by kernel_rfl) (by assumption) ?_ ?_
        rotate_left
        · (intro w hSw; (try dsimp only at hSw); go_simp; try with_reducible rfl)
        simp only [Act.put, List.setIfInBounds_toArray, List.set_cons_zero, List.set_cons_succ]
        refine take_at (i := 10) (v := ?_) rfl (by kernel_rfl) (by kernel_rfl) (by kernel_rfl) (fun _ _ _ h => h) (by kernel_rfl) (by assumption) ?_ ?_
        rotate_left
        · (intro w hSw; (try dsimp only at hSw); go_simp; try with_reducible rfl)
        simp only [Act.put, List.setIfInBounds_toArray, List.set_cons_zero, List.set_cons_succ]
        refine do_at (i := 11) rfl (by kernel_rfl) (by kernel_rfl) (fun K hK => ?_)
        go_simp
        refine (within_u8 _ _ _ _).mono ?_
        rintro e wy ⟨rfl, rfl⟩
        rw [HS.out]
        go_simp
        refine hK.out _ _ ?_ (fun hHeld => ?_)
        · exact H1.2.1
        clear hK K
        try simp only [Act.put, List.setIfInBounds_toArray, List.set_cons_zero, List.set_cons_succ]
        refine take_at (i := 12) (v := ?_) rfl (by kernel_rfl) (by kernel_rfl) (by kernel_rfl) (fun _ _ _ h => h) (by kernel_rfl) (by assumption) ?_ ?_
        rotate_left
        · (intro w hSw; (try dsimp only at hSw); go_simp; try with_reducible rfl)
        simp only [Act.put, List.setIfInBounds_toArray, List.set_cons_zero, List.set_cons_succ]
        refine take_at (i := 13) (v := ?_) rfl (by kernel_rfl) (by kernel_rfl) (by kernel_rfl) (fun _ _ _ h => h) (by kernel_rfl) (by assumption) ?_ ?_
        rotate_left
        · (intro w hSw; (try dsimp only at hSw); go_simp; try with_reducible rfl)
        simp only [Act.put, List.setIfInBounds_toArray, List.set_cons_zero, List.set_cons_succ]
        refine take_at (i := 14) (v := ?_) rfl (by kernel_rfl) (by kernel_rfl) (by kernel_rfl) (fun _ _ _ h => h) (by kernel_rfl) (by assumption) ?_ ?_
        rotate_left
        · (intro w hSw; (try dsimp only at hSw); go_simp; try with_reducible rfl)
        simp only [Act.put, List.setIfInBounds_toArray, List.set_cons_zero, List.set_cons_succ]
        refine take_at (i := 15) (v := ?_) rfl (by kernel_rfl) (by kernel_rfl) (by kernel_rfl) (fun _ _ _ h => h) (by kernel_rfl) (by assumption) ?_ ?_
        rotate_left
        · (intro w hSw; (try dsimp only at hSw); go_simp; try with_reducible rfl)
        simp only [Act.put, List.setIfInBounds_toArray, List.set_cons_zero, List.set_cons_succ]
        refine take_at (i := 16) (v := ?_) rfl (by kernel_rfl) (by kernel_rfl) (by kernel_rfl) (fun _ _ _ h => h) (by kernel_rfl) (by assumption) ?_ ?_
        rotate_left
        · (intro w hSw; (try dsimp only at hSw); go_simp; try with_reducible rfl)
        simp only [Act.put, List.setIfInBounds_toArray, List.set_cons_zero, List.set_cons_succ]
        refine do_at (i := 17) rfl (by kernel_rfl) (by kernel_rfl) (fun K hK => ?_)
        have P2 := H2.put (.int .i64 0) (.int .i32 0) (.int .u8 0) (.slice none 0 0) (.string i) (.int .u8 f) (.string ⟨#[]⟩)
        have BP := put7_below B1 (b := w.heap.size + 1) (by omega) (.int .i64 0) (.int .i32 0) (.int .u8 0) (.slice none 0 0) (.string i) (.int .u8 f) (.string ⟨#[]⟩)
        have PH := H1.put_other (b' := w.heap.size + 1) (c0 := (.int .i64 0)) (c1 := (.int .i32 0)) (c2 := (.int .u8 0)) (c3 := (.slice none 0 0)) (c4 := (.string i)) (c5 := (.int .u8 f)) (c6 := (.string ⟨#[]⟩)) (by omega)
        obtain ⟨_, ⟨z0, z1, z2, z3, z4, z5, z6⟩, zf⟩ := H2
        have g0 := zf 0
        have g1 := zf 1
        have g2 := zf 2
        have g3 := zf 3
        have g4 := zf 4
        have g5 := zf 5
        have g6 := zf 6
        go_simp
        refine hK.out _ _ ?_ (fun hHeld => ?_)
        · exact PH.2.1
        clear hK K
        try simp only [Act.put, List.setIfInBounds_toArray, List.set_cons_zero, List.set_cons_succ]
        refine take_at (i := 18) (v := ?_) rfl (by kernel_rfl) (by kernel_rfl) (by kernel_rfl) (fun _ _ _ h => h) (by kernel_rfl) (by assumption) ?_ ?_
        rotate_left
        · (intro w hSw; (try dsimp only at hSw); go_simp; try with_reducible rfl)
        simp only [Act.put, List.setIfInBounds_toArray, List.set_cons_zero, List.set_cons_succ]
        refine wpAnyH_done (by kernel_rfl) ?_ _
        go_wp2
        change bodyPost _ _ _ _ _ (put7 wx (w.heap.size + 1) (.int .i64 0) (.int .i32 0) (.int .u8 0) (.slice none 0 0) (.string i) (.int .u8 f) (.string ⟨#[]⟩))
        generalize put7 wx (w.heap.size + 1) (.int .i64 0) (.int .i32 0) (.int .u8 0) (.slice none 0 0) (.string i) (.int .u8 f) (.string ⟨#[]⟩) = wz at P2 BP ⊢
        obtain ⟨_, ⟨r0, r1, r2, r3, r4, r5, r6⟩, _⟩ := P2
        exact bodyPost_ret (v := .tuple #[tok7 0 0 0 (.slice none 0 0) i f ⟨#[]⟩, .bool (true && true && !o)]) (by simp [results, Tryd.results43, go_sem, r0, r1, r2, r3, r4, r5, r6]) rfl ⟨rfl, BP⟩
end Go.Proofs.YtclaopidjfekmaaDoor.Lab
