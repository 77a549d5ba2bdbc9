/- A token's bytes: head, Encode, laid. -/
import Derived.Test.YtclaopidjfekmaaDoorToHead
import Derived.Laws.Cover4
namespace Go.Proofs.YtclaopidjfekmaaDoor.Lab
open Go Go.RowKit

def headS (t : Tok) : ByteArray := ⟨(headL t).toArray⟩
def tokS (t : Tok) : ByteArray := ⟨(tokL t).toArray⟩
theorem bl_cat (a b : ByteArray) : bl (a ++ b) = bl a ++ bl b := by simp [bl]
theorem ret_str {a b : ByteArray} (h : bl a = bl b) : Ending.returned (.string a) = .returned (.string b) := by rw [bl_inj h]
theorem tok_kept {w w' : World} {b : Nat} {a0 a1 a2 a3 a4 a5 a6 : Value} (h : T7 w b a0 a1 a2 a3 a4 a5 a6) (hb : Below w.heap.size w w') : T7 w' b a0 a1 a2 a3 a4 a5 a6 := h.below hb

set_option maxHeartbeats 4000000 in
set_option maxRecDepth 100000 in
theorem head_any (k r p f : Int) (va : Option Addr) (vn vc : Nat) (P : Rws) (i d : ByteArray) (w : World) (hM : MatAt w (.slice va vn vc) P) (hp : p = 0 ∨ 60 ≤ p ∧ p ≤ 63) (hP : parOk P) (hi : i.size ≤ 2) (hf : 0 ≤ f ∧ f ≤ 255) (hw : Pow w) :
    Calls Tryd.prog 55 #[tok7 k r p (.slice va vn vc) i f d] w fun e w' => e = .returned (.string (headS ⟨k, r, p, P, i, f, d⟩)) ∧ Below w.heap.size w w' := by
  have HM := Lib.hid hM
  have HP := Lib.hid hP
  have HF := Lib.hid hf
  have HW := Lib.hid hw
  have HLEN := Lib.hid (show (joinT 59 rowT P).toArray.size ≤ 1568 by have := all_len hP.1 hP.2.1; simpa [allT] using this)
  have HB0 := Lib.hid (show Below w.heap.size w (w.alloc (.cells #[.int .i64 k, .int .i32 r, .int .u8 p, .slice va vn vc, .string i, .int .u8 f, .string d] 27)) from (Below.refl _ _).alloc (Nat.le_refl _) _)
  have HT := Lib.hid (T7.newAt w w.heap.size rfl (.int .i64 k) (.int .i32 r) (.int .u8 p) (.slice va vn vc) (.string i) (.int .u8 f) (.string d) 27)
  clear hM hP hf hw
  by_cases hp0 : p = 0
  · subst hp0
    clear hp
    go_enter Tryd.func55, Tryd.ntmps55
    go_wp2_with fail
    refine (joined_mat _ P _ (HM.out.below HB0.out) HP.out.1 HP.out.2.1 (HW.out.on HB0.out)).mono ?_
    rintro e w2 ⟨rfl, b2⟩
    have B1 := HB0.out.trans (b2.mono HB0.out.size)
    have H1 := HT.out.below b2
    obtain ⟨X, hX⟩ : ∃ X : ByteArray, X = ⟨(joinT 59 rowT P).toArray⟩ := ⟨_, rfl⟩
    rw [← hX]
    have hsX : X.size ≤ 1568 := by rw [hX]; exact HLEN.out
    have HX := Lib.hid hX
    clear hX b2
    have n1 : ¬ 9223372036854775807 < X.size := by omega
    have n2 : ¬ 9223372036854775807 < X.size + i.size := by omega
    go_wp2_with fail
    have H1 := H1.drew
    have B1 := B1.drew
    refine wp_region_held_drew (S := fun w' => w'.cell? ⟨w.heap.size, 0, none⟩ = some (.int .i64 k) ∧ w'.cell? ⟨w.heap.size, 1, none⟩ = some (.int .i32 r) ∧ w'.cell? ⟨w.heap.size, 2, none⟩ = some (.int .u8 0) ∧ w'.cell? ⟨w.heap.size, 3, none⟩ = some (.slice va vn vc) ∧ w'.cell? ⟨w.heap.size, 4, none⟩ = some (.string i) ∧ w'.cell? ⟨w.heap.size, 5, none⟩ = some (.int .u8 f) ∧ w'.cell? ⟨w.heap.size, 6, none⟩ = some (.string d)) (by kernel_rfl) ?_ (fun hHeld => ?_)
    · exact H1.2.1
    refine take_at (i := 0) (v := ?_) rfl (by kernel_rfl) (by kernel_rfl) (by kernel_rfl) (fun _ _ _ h => h) (by kernel_rfl) (by assumption) ?_ ?_
    rotate_left
    · (intro w hSw; (try dsimp only at hSw); go_simp; try with_reducible rfl)
    simp only [Act.put, List.setIfInBounds_toArray, List.set_cons_zero, List.set_cons_succ]
    refine take_at (i := 1) (v := ?_) rfl (by kernel_rfl) (by kernel_rfl) (by kernel_rfl) (fun _ _ _ h => h) (by kernel_rfl) (by assumption) ?_ ?_
    rotate_left
    · (intro w hSw; (try dsimp only at hSw); go_simp; try with_reducible rfl)
    simp only [Act.put, List.setIfInBounds_toArray, List.set_cons_zero, List.set_cons_succ]
    refine take_at (i := 2) (v := ?_) rfl (by kernel_rfl) (by kernel_rfl) (by kernel_rfl) (fun _ _ _ h => h) (by kernel_rfl) (by assumption) ?_ ?_
    rotate_left
    · (intro w hSw; (try dsimp only at hSw); go_simp; try with_reducible rfl)
    simp only [Act.put, List.setIfInBounds_toArray, List.set_cons_zero, List.set_cons_succ]
    refine take_at (i := 3) (v := ?_) rfl (by kernel_rfl) (by kernel_rfl) (by kernel_rfl) (fun _ _ _ h => h) (by kernel_rfl) (by assumption) ?_ ?_
    rotate_left
    · (intro w hSw; (try dsimp only at hSw); go_simp; try with_reducible rfl)
    simp only [Act.put, List.setIfInBounds_toArray, List.set_cons_zero, List.set_cons_succ]
    refine take_at (i := 4) (v := ?_) rfl (by kernel_rfl) (by kernel_rfl) (by kernel_rfl) (fun _ _ _ h => h) (by kernel_rfl) (by assumption) ?_ ?_
    rotate_left
    · (intro w hSw; (try dsimp only at hSw); go_simp; try with_reducible rfl)
    simp only [Act.put, List.setIfInBounds_toArray, List.set_cons_zero, List.set_cons_succ]
    refine take_at (i := 5) (v := ?_) rfl (by kernel_rfl) (by kernel_rfl) (by kernel_rfl) (fun _ _ _ h => h) (by kernel_rfl) (by assumption) ?_ ?_
    rotate_left
    · (intro w hSw; (try dsimp only at hSw); go_simp; try with_reducible rfl)
    simp only [Act.put, List.setIfInBounds_toArray, List.set_cons_zero, List.set_cons_succ]
    refine take_at (i := 6) (v := ?_) rfl (by kernel_rfl) (by kernel_rfl) (by kernel_rfl) (fun _ _ _ h => h) (by kernel_rfl) (by assumption) ?_ ?_
    rotate_left
    · (intro w hSw; (try dsimp only at hSw); go_simp; try with_reducible rfl)
    simp only [Act.put, List.setIfInBounds_toArray, List.set_cons_zero, List.set_cons_succ]
    refine take_at (i := 7) (v := ?_) rfl (by kernel_rfl) (by kernel_rfl) (by kernel_rfl) (fun _ _ _ h => h) (by kernel_rfl) (by assumption) ?_ ?_
    rotate_left
    · (intro w hSw; (try dsimp only at hSw); go_simp; try with_reducible rfl)
    simp only [Act.put, List.setIfInBounds_toArray, List.set_cons_zero, List.set_cons_succ]
    refine do_at (i := 8) rfl (by kernel_rfl) (by kernel_rfl) (fun K hK => ?_)
    go_simp
    refine (letter_any f HF.out.1 HF.out.2 _).mono ?_
    rintro e wx ⟨rfl, bx⟩
    obtain ⟨Z, hZ⟩ : ∃ Z : ByteArray, Z = ⟨(oneL f).toArray⟩ := ⟨_, rfl⟩
    rw [← hZ]
    have hsZ : Z.size ≤ 1 := by rw [hZ]; exact Nat.le_refl _
    have HZZ := Lib.hid hZ
    clear hZ
    have n3 : ¬ 9223372036854775807 < X.size + i.size + Z.size := by omega
    have H1' := H1.below bx
    have B1' := B1.trans (bx.mono B1.size)
    clear H1 bx B1 hHeld
    have H1 := H1'
    have B1 := B1'
    clear H1' B1'
    go_simp
    refine hK.out _ _ ?_ (fun hHeld => ?_)
    · exact H1.2.1
    clear hK K
    try simp only [Act.put, List.setIfInBounds_toArray, List.set_cons_zero, List.set_cons_succ]
    refine take_at (i := 9) (v := ?_) rfl (by kernel_rfl) (by kernel_rfl) (by kernel_rfl) (fun _ _ _ h => h) (by kernel_rfl) (by assumption) ?_ ?_
    rotate_left
    · (intro w hSw; (try dsimp only at hSw); go_simp; try with_reducible rfl)
    simp only [Act.put, List.setIfInBounds_toArray, List.set_cons_zero, List.set_cons_succ]
    refine take_at (i := 10) (v := ?_) rfl (by kernel_rfl) (by kernel_rfl) (by kernel_rfl) (fun _ _ _ h => h) (by kernel_rfl) (by assumption) ?_ ?_
    rotate_left
    · (intro w hSw; (try dsimp only at hSw); go_simp; try with_reducible rfl)
    simp only [Act.put, List.setIfInBounds_toArray, List.set_cons_zero, List.set_cons_succ]
    refine wpAnyH_done (by kernel_rfl) ?_ _
    go_wp2
    go_ret
    exact ⟨ret_str (by rw [bl_cat, bl_cat, bl_cat, HX.out, HZZ.out]; simp [headS, headL, allT, bl]), B1⟩
  · have HPV := Lib.hid (show 0 ≤ p ∧ p ≤ 255 by omega)
    have e1 : (p == 0) = false := by simpa using hp0
    have e2 : (p != 0) = true := by simpa using hp0
    have HPN := Lib.hid hp0
    clear hp hp0
    go_enter Tryd.func55, Tryd.ntmps55
    go_wp2_with fail
    refine (letter_any p HPV.out.1 HPV.out.2 _).mono ?_
    rintro e w1 ⟨rfl, b1⟩
    obtain ⟨Y, hY⟩ : ∃ Y : ByteArray, Y = ⟨(oneL p).toArray⟩ := ⟨_, rfl⟩
    rw [← hY]
    have hsY : Y.size ≤ 1 := by rw [hY]; exact Nat.le_refl _
    have HY := Lib.hid hY
    clear hY
    have HB1 := Lib.hid (HB0.out.trans (b1.mono HB0.out.size))
    have HT1 := Lib.hid (HT.out.below b1)
    obtain ⟨hlt1, ⟨q0, q1, q2, q3, q4, q5, q6⟩, _⟩ := HT.out.below b1
    clear b1
    go_wp2_with fail
    refine (joined_mat _ P _ (HM.out.below HB1.out) HP.out.1 HP.out.2.1 (HW.out.on HB1.out)).mono ?_
    rintro e w2 ⟨rfl, b2⟩
    have B1 := HB1.out.trans (b2.mono HB1.out.size)
    have H1 := HT1.out.below b2
    clear q0 q1 q2 q3 q4 q5 q6
    obtain ⟨X, hX⟩ : ∃ X : ByteArray, X = ⟨(joinT 59 rowT P).toArray⟩ := ⟨_, rfl⟩
    rw [← hX]
    have hsX : X.size ≤ 1568 := by rw [hX]; exact HLEN.out
    have HX := Lib.hid hX
    clear hX b2
    have n1 : ¬ 9223372036854775807 < Y.size + X.size := by omega
    have n2 : ¬ 9223372036854775807 < Y.size + X.size + i.size := by omega
    go_wp2_with fail
    have H1 := H1.drew
    have B1 := B1.drew
    refine wp_region_held_drew (S := fun w' => w'.cell? ⟨w.heap.size, 0, none⟩ = some (.int .i64 k) ∧ w'.cell? ⟨w.heap.size, 1, none⟩ = some (.int .i32 r) ∧ w'.cell? ⟨w.heap.size, 2, none⟩ = some (.int .u8 p) ∧ w'.cell? ⟨w.heap.size, 3, none⟩ = some (.slice va vn vc) ∧ w'.cell? ⟨w.heap.size, 4, none⟩ = some (.string i) ∧ w'.cell? ⟨w.heap.size, 5, none⟩ = some (.int .u8 f) ∧ w'.cell? ⟨w.heap.size, 6, none⟩ = some (.string d)) (by kernel_rfl) ?_ (fun hHeld => ?_)
    · exact H1.2.1
    refine take_at (i := 0) (v := ?_) rfl (by kernel_rfl) (by kernel_rfl) (by kernel_rfl) (fun _ _ _ h => h) (by kernel_rfl) (by assumption) ?_ ?_
    rotate_left
    · (intro w hSw; (try dsimp only at hSw); go_simp; try with_reducible rfl)
    simp only [Act.put, List.setIfInBounds_toArray, List.set_cons_zero, List.set_cons_succ]
    refine take_at (i := 1) (v := ?_) rfl (by kernel_rfl) (by kernel_rfl) (by kernel_rfl) (fun _ _ _ h => h) (by kernel_rfl) (by assumption) ?_ ?_
    rotate_left
    · (intro w hSw; (try dsimp only at hSw); go_simp; try with_reducible rfl)
    simp only [Act.put, List.setIfInBounds_toArray, List.set_cons_zero, List.set_cons_succ]
    refine take_at (i := 2) (v := ?_) rfl (by kernel_rfl) (by kernel_rfl) (by kernel_rfl) (fun _ _ _ h => h) (by kernel_rfl) (by assumption) ?_ ?_
    rotate_left
    · (intro w hSw; (try dsimp only at hSw); go_simp; try with_reducible rfl)
    simp only [Act.put, List.setIfInBounds_toArray, List.set_cons_zero, List.set_cons_succ]
    refine take_at (i := 3) (v := ?_) rfl (by kernel_rfl) (by kernel_rfl) (by kernel_rfl) (fun _ _ _ h => h) (by kernel_rfl) (by assumption) ?_ ?_
    rotate_left
    · (intro w hSw; (try dsimp only at hSw); go_simp; try with_reducible rfl)
    simp only [Act.put, List.setIfInBounds_toArray, List.set_cons_zero, List.set_cons_succ]
    refine take_at (i := 4) (v := ?_) rfl (by kernel_rfl) (by kernel_rfl) (by kernel_rfl) (fun _ _ _ h => h) (by kernel_rfl) (by assumption) ?_ ?_
    rotate_left
    · (intro w hSw; (try dsimp only at hSw); go_simp; try with_reducible rfl)
    simp only [Act.put, List.setIfInBounds_toArray, List.set_cons_zero, List.set_cons_succ]
    refine take_at (i := 5) (v := ?_) rfl (by kernel_rfl) (by kernel_rfl) (by kernel_rfl) (fun _ _ _ h => h) (by kernel_rfl) (by assumption) ?_ ?_
    rotate_left
    · (intro w hSw; (try dsimp only at hSw); go_simp; try with_reducible rfl)
    simp only [Act.put, List.setIfInBounds_toArray, List.set_cons_zero, List.set_cons_succ]
    refine take_at (i := 6) (v := ?_) rfl (by kernel_rfl) (by kernel_rfl) (by kernel_rfl) (fun _ _ _ h => h) (by kernel_rfl) (by assumption) ?_ ?_
    rotate_left
    · (intro w hSw; (try dsimp only at hSw); go_simp; try with_reducible rfl)
    simp only [Act.put, List.setIfInBounds_toArray, List.set_cons_zero, List.set_cons_succ]
    refine take_at (i := 7) (v := ?_) rfl (by kernel_rfl) (by kernel_rfl) (by kernel_rfl) (fun _ _ _ h => h) (by kernel_rfl) (by assumption) ?_ ?_
    rotate_left
    · (intro w hSw; (try dsimp only at hSw); go_simp; try with_reducible rfl)
    simp only [Act.put, List.setIfInBounds_toArray, List.set_cons_zero, List.set_cons_succ]
    refine do_at (i := 8) rfl (by kernel_rfl) (by kernel_rfl) (fun K hK => ?_)
    go_simp
    refine (letter_any f HF.out.1 HF.out.2 _).mono ?_
    rintro e wx ⟨rfl, bx⟩
    obtain ⟨Z, hZ⟩ : ∃ Z : ByteArray, Z = ⟨(oneL f).toArray⟩ := ⟨_, rfl⟩
    rw [← hZ]
    have hsZ : Z.size ≤ 1 := by rw [hZ]; exact Nat.le_refl _
    have HZZ := Lib.hid hZ
    clear hZ
    have n3 : ¬ 9223372036854775807 < Y.size + X.size + i.size + Z.size := by omega
    have H1' := H1.below bx
    have B1' := B1.trans (bx.mono B1.size)
    clear H1 bx B1 hHeld
    have H1 := H1'
    have B1 := B1'
    clear H1' B1'
    go_simp
    refine hK.out _ _ ?_ (fun hHeld => ?_)
    · exact H1.2.1
    clear hK K
    try simp only [Act.put, List.setIfInBounds_toArray, List.set_cons_zero, List.set_cons_succ]
    refine take_at (i := 9) (v := ?_) rfl (by kernel_rfl) (by kernel_rfl) (by kernel_rfl) (fun _ _ _ h => h) (by kernel_rfl) (by assumption) ?_ ?_
    rotate_left
    · (intro w hSw; (try dsimp only at hSw); go_simp; try with_reducible rfl)
    simp only [Act.put, List.setIfInBounds_toArray, List.set_cons_zero, List.set_cons_succ]
    refine take_at (i := 10) (v := ?_) rfl (by kernel_rfl) (by kernel_rfl) (by kernel_rfl) (fun _ _ _ h => h) (by kernel_rfl) (by assumption) ?_ ?_
    rotate_left
    · (intro w hSw; (try dsimp only at hSw); go_simp; try with_reducible rfl)
    simp only [Act.put, List.setIfInBounds_toArray, List.set_cons_zero, List.set_cons_succ]
    refine wpAnyH_done (by kernel_rfl) ?_ _
    go_wp2
    go_ret
    exact ⟨ret_str (by rw [bl_cat, bl_cat, bl_cat, HX.out, HY.out, HZZ.out]; simp [headS, headL, allT, bl, HPN.out]), B1⟩

set_option maxHeartbeats 1000000 in
theorem encode_any (g c : Nat) (r : Int) (w : World) (h : w.cell? ⟨g, 0, none⟩ = some (.int .i32 r)) : Calls Tryd.prog 53 #[.slice (some ⟨g, 0, none⟩) 1 c] w fun e w' => e = .returned (.string (Utf8.encode r)) ∧ w = w' := by
  have hcv := run_convert_runes (P := Tryd.prog) w 82 9 21 ⟨g, 0, none⟩ 1 c [r] (by simp) Tryd.underlying82 Tryd.underlying21 Tryd.underlying9 (by
    intro j hj
    have hj' : j < 1 := hj
    obtain rfl : j = 0 := by omega
    exact h)
  have e : runesBytes (List.take 1 [r]) = Utf8.encode r := by
    show ByteArray.empty ++ Utf8.encode r = _
    apply bl_inj
    simp [bl]
  rw [e] at hcv
  clear e
  go_enter Tryd.func53, Tryd.ntmps53
  go_wp2
  go_ret
  exact ⟨rfl, rfl⟩
end Go.Proofs.YtclaopidjfekmaaDoor.Lab
