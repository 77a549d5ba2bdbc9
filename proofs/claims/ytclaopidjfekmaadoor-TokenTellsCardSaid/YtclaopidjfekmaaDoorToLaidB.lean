/- A right token's bytes: laid. -/
import Derived.Test.YtclaopidjfekmaaDoorToLaid
namespace Go.Proofs.YtclaopidjfekmaaDoor.Lab
open Go Go.RowKit


set_option maxHeartbeats 4000000 in
set_option maxRecDepth 100000 in
theorem laid0_any (r p f : Int) (va : Option Addr) (vn vc : Nat) (P : Rws) (i d : ByteArray) (w : World)  :
    Calls Tryd.prog 24 #[tok7 0 r p (.slice va vn vc) i f d] w fun e w' => e = .returned (.string (tokS ⟨0, r, p, P, i, f, d⟩)) ∧ Below w.heap.size w w' := by
  have HB0 := Lib.hid (show Below w.heap.size w (w.alloc (.cells #[.int .i64 0, .int .i32 r, .int .u8 p, .slice va vn vc, .string i, .int .u8 f, .string d] 27)) from (Below.refl _ _).alloc (Nat.le_refl _) _)
  have HT := Lib.hid (T7.newAt w w.heap.size rfl (.int .i64 0) (.int .i32 r) (.int .u8 p) (.slice va vn vc) (.string i) (.int .u8 f) (.string d) 27)
  go_enter Tryd.func24, Tryd.ntmps24
  go_wp2_with fail
  refine (encode_any _ 1 r _ ?hc).mono ?_
  case hc => simp
  rintro e w2 ⟨rfl, rfl⟩
  go_wp2
  go_ret
  exact ⟨ret_str (by simp [tokS, tokL, encR, bl]), HB0.out.alloc HB0.out.size _⟩

set_option maxHeartbeats 4000000 in
set_option maxRecDepth 100000 in
theorem laid1_any (r p f : Int) (va : Option Addr) (vn vc : Nat) (P : Rws) (i d : ByteArray) (w : World) (hf : 0 ≤ f ∧ f ≤ 255) :
    Calls Tryd.prog 24 #[tok7 1 r p (.slice va vn vc) i f d] w fun e w' => e = .returned (.string (tokS ⟨1, r, p, P, i, f, d⟩)) ∧ Below w.heap.size w w' := by
  have HB0 := Lib.hid (show Below w.heap.size w (w.alloc (.cells #[.int .i64 1, .int .i32 r, .int .u8 p, .slice va vn vc, .string i, .int .u8 f, .string d] 27)) from (Below.refl _ _).alloc (Nat.le_refl _) _)
  have HT := Lib.hid (T7.newAt w w.heap.size rfl (.int .i64 1) (.int .i32 r) (.int .u8 p) (.slice va vn vc) (.string i) (.int .u8 f) (.string d) 27)
  have HF := Lib.hid hf
  clear hf
  go_enter Tryd.func24, Tryd.ntmps24
  go_wp2_with fail
  refine (letter_any f HF.out.1 HF.out.2 _).mono ?_
  rintro e w2 ⟨rfl, b2⟩
  have HB2 := Lib.hid (HB0.out.trans (b2.mono HB0.out.size))
  clear b2
  go_wp2
  go_ret
  exact ⟨ret_str (by simp [tokS, tokL, bl]), HB2.out⟩

set_option maxHeartbeats 4000000 in
set_option maxRecDepth 100000 in
theorem laid2_any (r p f : Int) (va : Option Addr) (vn vc : Nat) (P : Rws) (i d : ByteArray) (w : World) (hf : 0 ≤ f ∧ f ≤ 255) (hi : i.size ≤ 2) :
    Calls Tryd.prog 24 #[tok7 2 r p (.slice va vn vc) i f d] w fun e w' => e = .returned (.string (tokS ⟨2, r, p, P, i, f, d⟩)) ∧ Below w.heap.size w w' := by
  have HB0 := Lib.hid (show Below w.heap.size w (w.alloc (.cells #[.int .i64 2, .int .i32 r, .int .u8 p, .slice va vn vc, .string i, .int .u8 f, .string d] 27)) from (Below.refl _ _).alloc (Nat.le_refl _) _)
  have HT := Lib.hid (T7.newAt w w.heap.size rfl (.int .i64 2) (.int .i32 r) (.int .u8 p) (.slice va vn vc) (.string i) (.int .u8 f) (.string d) 27)
  have HF := Lib.hid hf
  clear hf
  have n1 : ¬ 9223372036854775807 < 1 + i.size := by omega
  go_enter Tryd.func24, Tryd.ntmps24
  go_wp2_with fail
  have H1 := HT.out.drew
  have B1 := HB0.out.drew
  refine wp_region_held_drew (S := fun w' => w'.cell? ⟨w.heap.size, 0, none⟩ = some (.int .i64 2) ∧ w'.cell? ⟨w.heap.size, 1, none⟩ = some (.int .i32 r) ∧ w'.cell? ⟨w.heap.size, 2, none⟩ = some (.int .u8 p) ∧ w'.cell? ⟨w.heap.size, 3, none⟩ = some (.slice va vn vc) ∧ w'.cell? ⟨w.heap.size, 4, none⟩ = some (.string i) ∧ w'.cell? ⟨w.heap.size, 5, none⟩ = some (.int .u8 f) ∧ w'.cell? ⟨w.heap.size, 6, none⟩ = some (.string d)) (by kernel_rfl) ?_ (fun hHeld => ?_)
  · exact H1.2.1
  refine take_at (i := 0) (v := ?_) rfl (by kernel_rfl) (by kernel_rfl) (by kernel_rfl) (fun _ _ _ h => h) (by kernel_rfl) (by assumption) ?_ ?_
  rotate_left
  · (intro w hSw; (try dsimp only at hSw); go_simp; try with_reducible rfl)
  simp only [Act.put, List.setIfInBounds_toArray, List.set_cons_zero, List.set_cons_succ]
  refine take_at (i := 1) (v := ?_) rfl (by kernel_rfl) (by kernel_rfl) (by kernel_rfl) (fun _ _ _ h => h) (by kernel_rfl) (by assumption) ?_ ?_
  rotate_left
  · (intro w hSw; (try dsimp only at hSw); go_simp; try with_reducible rfl)
  simp only [Act.put, List.setIfInBounds_toArray, List.set_cons_zero, List.set_cons_succ]
  refine take_at (i := 2) (v := ?_) rfl (by kernel_rfl) (by kernel_rfl) (by kernel_rfl) (fun _ _ _ h => h) (by kernel_rfl) (by assumption) ?_ ?_
  rotate_left
  · (intro w hSw; (try dsimp only at hSw); go_simp; try with_reducible rfl)
  simp only [Act.put, List.setIfInBounds_toArray, List.set_cons_zero, List.set_cons_succ]
  refine take_at (i := 3) (v := ?_) rfl (by kernel_rfl) (by kernel_rfl) (by kernel_rfl) (fun _ _ _ h => h) (by kernel_rfl) (by assumption) ?_ ?_
  rotate_left
  · (intro w hSw; (try dsimp only at hSw); go_simp; try with_reducible rfl)
  simp only [Act.put, List.setIfInBounds_toArray, List.set_cons_zero, List.set_cons_succ]
  refine take_at (i := 4) (v := ?_) rfl (by kernel_rfl) (by kernel_rfl) (by kernel_rfl) (fun _ _ _ h => h) (by kernel_rfl) (by assumption) ?_ ?_
  rotate_left
  · (intro w hSw; (try dsimp only at hSw); go_simp; try with_reducible rfl)
  simp only [Act.put, List.setIfInBounds_toArray, List.set_cons_zero, List.set_cons_succ]
  refine do_at (i := 5) rfl (by kernel_rfl) (by kernel_rfl) (fun K hK => ?_)
  go_simp
  refine (letter_any f HF.out.1 HF.out.2 _).mono ?_
  rintro e wx ⟨rfl, bx⟩
  obtain ⟨Z, hZ⟩ : ∃ Z : ByteArray, Z = ⟨(oneL f).toArray⟩ := ⟨_, rfl⟩
  rw [← hZ]
  have hsZ : Z.size ≤ 1 := by rw [hZ]; exact Nat.le_refl _
  have HZZ := Lib.hid hZ
  clear hZ
  have n2 : ¬ 9223372036854775807 < 1 + i.size + Z.size := by omega
  have H1' := H1.below bx
  have B1' := B1.trans (bx.mono B1.size)
  clear H1 bx B1 hHeld
  have H1 := H1'
  have B1 := B1'
  clear H1' B1'
  go_simp
  refine hK.out _ _ ?_ (fun hHeld => ?_)
  · exact H1.2.1
  clear hK K
  try simp only [Act.put, List.setIfInBounds_toArray, List.set_cons_zero, List.set_cons_succ]
  refine take_at (i := 6) (v := ?_) rfl (by kernel_rfl) (by kernel_rfl) (by kernel_rfl) (fun _ _ _ h => h) (by kernel_rfl) (by assumption) ?_ ?_
  rotate_left
  · (intro w hSw; (try dsimp only at hSw); go_simp; try with_reducible rfl)
  simp only [Act.put, List.setIfInBounds_toArray, List.set_cons_zero, List.set_cons_succ]
  refine take_at (i := 7) (v := ?_) rfl (by kernel_rfl) (by kernel_rfl) (by kernel_rfl) (fun _ _ _ h => h) (by kernel_rfl) (by assumption) ?_ ?_
  rotate_left
  · (intro w hSw; (try dsimp only at hSw); go_simp; try with_reducible rfl)
  simp only [Act.put, List.setIfInBounds_toArray, List.set_cons_zero, List.set_cons_succ]
  refine wpAnyH_done (by kernel_rfl) ?_ _
  go_wp2
  go_ret
  exact ⟨ret_str (by rw [bl_cat, bl_cat, HZZ.out]; simp [tokS, tokL, bl]), B1⟩

set_option maxHeartbeats 4000000 in
set_option maxRecDepth 100000 in
theorem laid3_any (r p f : Int) (va : Option Addr) (vn vc : Nat) (P : Rws) (i d : ByteArray) (w : World) (hM : MatAt w (.slice va vn vc) P) (hp : p = 0 ∨ 60 ≤ p ∧ p ≤ 63) (hP : parOk P) (hi : i.size ≤ 2) (hf : 0 ≤ f ∧ f ≤ 255) (hw : Pow w) (hl : (headL ⟨3, r, p, P, i, f, d⟩).length ≤ 1572) :
    Calls Tryd.prog 24 #[tok7 3 r p (.slice va vn vc) i f d] w fun e w' => e = .returned (.string (tokS ⟨3, r, p, P, i, f, d⟩)) ∧ Below w.heap.size w w' := by
  have HB0 := Lib.hid (show Below w.heap.size w (w.alloc (.cells #[.int .i64 3, .int .i32 r, .int .u8 p, .slice va vn vc, .string i, .int .u8 f, .string d] 27)) from (Below.refl _ _).alloc (Nat.le_refl _) _)
  have HT := Lib.hid (T7.newAt w w.heap.size rfl (.int .i64 3) (.int .i32 r) (.int .u8 p) (.slice va vn vc) (.string i) (.int .u8 f) (.string d) 27)
  have HH := Lib.hid (head_any 3 r p f va vn vc P i d _ (hM.below HB0.out) hp hP hi hf (hw.on HB0.out))
  have HL := Lib.hid hl
  clear hM hp hP hi hf hw hl
  go_enter Tryd.func24, Tryd.ntmps24
  go_wp2_with fail
  refine HH.out.mono ?_
  rintro e w2 ⟨rfl, b2⟩
  obtain ⟨X, hX⟩ : ∃ X : ByteArray, X = headS ⟨3, r, p, P, i, f, d⟩ := ⟨_, rfl⟩
  rw [← hX]
  have hsX : X.size ≤ 1572 := by rw [hX]; exact HL.out
  have HX := Lib.hid hX
  clear hX
  have n1 : ¬ 9223372036854775807 < 2 + X.size := by omega
  have HB2 := Lib.hid (HB0.out.trans (b2.mono HB0.out.size))
  clear b2
  go_wp2
  go_ret
  exact ⟨ret_str (by rw [bl_cat, HX.out]; simp [headS, tokS, tokL, bl]), HB2.out⟩

set_option maxHeartbeats 4000000 in
set_option maxRecDepth 100000 in
theorem laid4_any (r p f : Int) (va : Option Addr) (vn vc : Nat) (P : Rws) (i d : ByteArray) (w : World) (hd : d.size ≤ 1024) :
    Calls Tryd.prog 24 #[tok7 4 r p (.slice va vn vc) i f d] w fun e w' => e = .returned (.string (tokS ⟨4, r, p, P, i, f, d⟩)) ∧ Below w.heap.size w w' := by
  have HB0 := Lib.hid (show Below w.heap.size w (w.alloc (.cells #[.int .i64 4, .int .i32 r, .int .u8 p, .slice va vn vc, .string i, .int .u8 f, .string d] 27)) from (Below.refl _ _).alloc (Nat.le_refl _) _)
  have HT := Lib.hid (T7.newAt w w.heap.size rfl (.int .i64 4) (.int .i32 r) (.int .u8 p) (.slice va vn vc) (.string i) (.int .u8 f) (.string d) 27)
  have n1 : ¬ 9223372036854775807 < 2 + d.size := by omega
  have n2 : ¬ 9223372036854775807 < 2 + d.size + 1 := by omega
  have n3 : ¬ 9223372036854775807 < 1 + (2 + d.size) := by omega
  go_enter Tryd.func24, Tryd.ntmps24
  go_wp2
  go_ret
  exact ⟨ret_str (by rw [bl_cat, bl_cat]; simp [tokS, tokL, bl]), HB0.out⟩

set_option maxHeartbeats 4000000 in
set_option maxRecDepth 100000 in
theorem laid5_any (r p f : Int) (va : Option Addr) (vn vc : Nat) (P : Rws) (i d : ByteArray) (w : World) (hM : MatAt w (.slice va vn vc) P) (hp : p = 0 ∨ 60 ≤ p ∧ p ≤ 63) (hP : parOk P) (hi : i.size ≤ 2) (hf : 0 ≤ f ∧ f ≤ 255) (hw : Pow w) (hl : (headL ⟨5, r, p, P, i, f, d⟩).length ≤ 1572) (hd : d.size ≤ 1024) :
    Calls Tryd.prog 24 #[tok7 5 r p (.slice va vn vc) i f d] w fun e w' => e = .returned (.string (tokS ⟨5, r, p, P, i, f, d⟩)) ∧ Below w.heap.size w w' := by
  have HB0 := Lib.hid (show Below w.heap.size w (w.alloc (.cells #[.int .i64 5, .int .i32 r, .int .u8 p, .slice va vn vc, .string i, .int .u8 f, .string d] 27)) from (Below.refl _ _).alloc (Nat.le_refl _) _)
  have HT := Lib.hid (T7.newAt w w.heap.size rfl (.int .i64 5) (.int .i32 r) (.int .u8 p) (.slice va vn vc) (.string i) (.int .u8 f) (.string d) 27)
  have HH := Lib.hid (head_any 5 r p f va vn vc P i d _ (hM.below HB0.out.drew) hp hP hi hf (hw.on HB0.out.drew))
  have HL := Lib.hid hl
  clear hM hp hP hi hf hw hl
  go_enter Tryd.func24, Tryd.ntmps24
  go_wp2_with fail
  have H1 := HT.out.drew
  have B1 := HB0.out.drew
  refine wp_region_held_drew (S := fun w' => w'.cell? ⟨w.heap.size, 0, none⟩ = some (.int .i64 5) ∧ w'.cell? ⟨w.heap.size, 1, none⟩ = some (.int .i32 r) ∧ w'.cell? ⟨w.heap.size, 2, none⟩ = some (.int .u8 p) ∧ w'.cell? ⟨w.heap.size, 3, none⟩ = some (.slice va vn vc) ∧ w'.cell? ⟨w.heap.size, 4, none⟩ = some (.string i) ∧ w'.cell? ⟨w.heap.size, 5, none⟩ = some (.int .u8 f) ∧ w'.cell? ⟨w.heap.size, 6, none⟩ = some (.string d)) (by kernel_rfl) ?_ (fun hHeld => ?_)
  · exact H1.2.1
  refine take_at (i := 0) (v := ?_) rfl (by kernel_rfl) (by kernel_rfl) (by kernel_rfl) (fun _ _ _ h => h) (by kernel_rfl) (by assumption) ?_ ?_
  rotate_left
  · (intro w hSw; (try dsimp only at hSw); go_simp; try with_reducible rfl)
  simp only [Act.put, List.setIfInBounds_toArray, List.set_cons_zero, List.set_cons_succ]
  refine take_at (i := 3) (v := ?_) rfl (by kernel_rfl) (by kernel_rfl) (by kernel_rfl) (fun _ _ _ h => h) (by kernel_rfl) (by assumption) ?_ ?_
  rotate_left
  · (intro w hSw; (try dsimp only at hSw); go_simp; try with_reducible rfl)
  simp only [Act.put, List.setIfInBounds_toArray, List.set_cons_zero, List.set_cons_succ]
  refine take_at (i := 4) (v := ?_) rfl (by kernel_rfl) (by kernel_rfl) (by kernel_rfl) (fun _ _ _ h => h) (by kernel_rfl) (by assumption) ?_ ?_
  rotate_left
  · (intro w hSw; (try dsimp only at hSw); go_simp; try with_reducible rfl)
  simp only [Act.put, List.setIfInBounds_toArray, List.set_cons_zero, List.set_cons_succ]
  refine do_at (i := 1) rfl (by kernel_rfl) (by kernel_rfl) (fun K hK => ?_)
  go_simp
  refine (HH.out).mono ?_
  rintro e wx ⟨rfl, bx⟩
  obtain ⟨X, hX⟩ : ∃ X : ByteArray, X = headS ⟨5, r, p, P, i, f, d⟩ := ⟨_, rfl⟩
  rw [← hX]
  have hsX : X.size ≤ 1572 := by rw [hX]; exact HL.out
  have HX := Lib.hid hX
  clear hX
  have n1 : ¬ 9223372036854775807 < 2 + X.size := by omega
  have n2 : ¬ 9223372036854775807 < 2 + X.size + d.size := by omega
  have n3 : ¬ 9223372036854775807 < 2 + X.size + d.size + 2 := by omega
  have H1' := H1.below bx
  have B1' := B1.trans (bx.mono B1.size)
  clear H1 bx B1 hHeld
  have H1 := H1'
  have B1 := B1'
  clear H1' B1'
  go_simp
  refine hK.out _ _ ?_ (fun hHeld => ?_)
  · exact H1.2.1
  clear hK K
  try simp only [Act.put, List.setIfInBounds_toArray, List.set_cons_zero, List.set_cons_succ]
  refine take_at (i := 2) (v := ?_) rfl (by kernel_rfl) (by kernel_rfl) (by kernel_rfl) (fun _ _ _ h => h) (by kernel_rfl) (by assumption) ?_ ?_
  rotate_left
  · (intro w hSw; (try dsimp only at hSw); go_simp; try with_reducible rfl)
  simp only [Act.put, List.setIfInBounds_toArray, List.set_cons_zero, List.set_cons_succ]
  refine take_at (i := 5) (v := ?_) rfl (by kernel_rfl) (by kernel_rfl) (by kernel_rfl) (fun _ _ _ h => h) (by kernel_rfl) (by assumption) ?_ ?_
  rotate_left
  · (intro w hSw; (try dsimp only at hSw); go_simp; try with_reducible rfl)
  simp only [Act.put, List.setIfInBounds_toArray, List.set_cons_zero, List.set_cons_succ]
  refine take_at (i := 6) (v := ?_) rfl (by kernel_rfl) (by kernel_rfl) (by kernel_rfl) (fun _ _ _ h => h) (by kernel_rfl) (by assumption) ?_ ?_
  rotate_left
  · (intro w hSw; (try dsimp only at hSw); go_simp; try with_reducible rfl)
  simp only [Act.put, List.setIfInBounds_toArray, List.set_cons_zero, List.set_cons_succ]
  refine take_at (i := 7) (v := ?_) rfl (by kernel_rfl) (by kernel_rfl) (by kernel_rfl) (fun _ _ _ h => h) (by kernel_rfl) (by assumption) ?_ ?_
  rotate_left
  · (intro w hSw; (try dsimp only at hSw); go_simp; try with_reducible rfl)
  simp only [Act.put, List.setIfInBounds_toArray, List.set_cons_zero, List.set_cons_succ]
  refine wpAnyH_done (by kernel_rfl) ?_ _
  go_wp2
  go_ret
  exact ⟨ret_str (by rw [bl_cat, bl_cat, bl_cat, HX.out]; simp [headS, tokS, tokL, bl]), B1⟩

theorem laid_any (t : Tok) (va : Option Addr) (vn vc : Nat) (w : World) (hR : Right t) (hwf : t.wf) (hM : MatAt w (.slice va vn vc) t.P) (hw : Pow w) :
    Calls Tryd.prog 24 #[tokV t (.slice va vn vc)] w fun e w' => e = .returned (.string (tokS t)) ∧ Below w.heap.size w w' := by
  obtain ⟨k, r, p, P, i, f, d⟩ := t
  obtain ⟨w0, w1, w2, w3⟩ := hwf
  simp only at w0 w1 w2 w3 hM
  rcases hR with h | h | h | h | h | h
  · obtain ⟨hk, _⟩ := h
    simp only at hk
    subst hk
    exact laid0_any r p f va vn vc P i d w
  · obtain ⟨hk, _⟩ := h
    simp only at hk
    subst hk
    exact laid1_any r p f va vn vc P i d w ⟨w2, w3⟩
  · obtain ⟨hk, _, _, _, _, hi, _⟩ := h
    simp only at hk
    subst hk
    exact laid2_any r p f va vn vc P i d w ⟨w2, w3⟩ hi.1
  · obtain ⟨hk, _, _, hh⟩ := h
    simp only at hk
    subst hk
    exact laid3_any r p f va vn vc P i d w hM hh.1 hh.2.1 hh.2.2.1.1 ⟨w2, w3⟩ hw (head_len hh)
  · obtain ⟨hk, _, _, _, _, _, hd⟩ := h
    simp only at hk
    subst hk
    exact laid4_any r p f va vn vc P i d w hd.1
  · obtain ⟨hk, _, hh, hd⟩ := h
    simp only at hk
    subst hk
    exact laid5_any r p f va vn vc P i d w hM hh.1 hh.2.1 hh.2.2.1.1 ⟨w2, w3⟩ hw (head_len hh) hd.1
end Go.Proofs.YtclaopidjfekmaaDoor.Lab
