/- Right: whether a token is right. -/
import Derived.Test.YtclaopidjfekmaaDoorToRight
namespace Go.Proofs.YtclaopidjfekmaaDoor.Lab
open Go Go.RowKit

theorem kinds_ex (w : World) : Calls Tryd.prog 21 #[] w fun e w' => ∃ B, e = .returned (.map (some B)) ∧ w'.heap[B]? = some (.map M6 6) ∧ Below w.heap.size w w' :=
  (kinds_any w).mono fun _ _ ⟨h1, h2, h3⟩ => ⟨_, h1, h2, h3⟩
theorem holds_tok (k r p f : Int) (va : Option Addr) (vn vc : Nat) (P : Rws) (i d : ByteArray) (w : World) (B : Nat) (hm : w.heap[B]? = some (.map M6 6)) (hk : i64 k) (hM : MatAt w (.slice va vn vc) P) (hi : i.size ≤ maxLen) (hd : d.size ≤ maxLen) :
    Calls Tryd.prog 22 #[.map (some B), tok7 k r p (.slice va vn vc) i f d] w fun e w' => e = .returned (.bool (rightB ⟨k, r, p, P, i, f, d⟩)) ∧ Below w.heap.size w w' :=
  holds_any ⟨k, r, p, P, i, f, d⟩ va vn vc w B hm hk hM hi hd

set_option maxHeartbeats 2000000 in
set_option maxRecDepth 100000 in
theorem right_any (k r p f : Int) (va : Option Addr) (vn vc : Nat) (P : Rws) (i d : ByteArray) (w : World) (hk : i64 k) (hM : MatAt w (.slice va vn vc) P) (hi : i.size ≤ maxLen) (hd : d.size ≤ maxLen) :
    Calls Tryd.prog 11 #[tok7 k r p (.slice va vn vc) i f d] w fun e w' => e = .returned (.bool (rightB ⟨k, r, p, P, i, f, d⟩)) ∧ Below w.heap.size w w' := by
  have HM := Lib.hid hM
  have HI := Lib.hid hi
  have HD := Lib.hid hd
  have HK := Lib.hid hk
  clear hM hi hd hk
  go_enter Tryd.func11, Tryd.ntmps11
  go_wp2
  have B0 : Below w.heap.size w (w.alloc (.cells #[.int .i64 k, .int .i32 r, .int .u8 p, .slice va vn vc, .string i, .int .u8 f, .string d] 27)).drew := ((Below.refl _ _).alloc (Nat.le_refl _) _).drew
  have H1 := (T7.newAt w w.heap.size rfl (.int .i64 k) (.int .i32 r) (.int .u8 p) (.slice va vn vc) (.string i) (.int .u8 f) (.string d) 27).drew
  refine wp_region_held_drew (S := fun w' => w'.cell? ⟨w.heap.size, 0, none⟩ = some (.int .i64 k) ∧ w'.cell? ⟨w.heap.size, 1, none⟩ = some (.int .i32 r) ∧ w'.cell? ⟨w.heap.size, 2, none⟩ = some (.int .u8 p) ∧ w'.cell? ⟨w.heap.size, 3, none⟩ = some (.slice va vn vc) ∧ w'.cell? ⟨w.heap.size, 4, none⟩ = some (.string i) ∧ w'.cell? ⟨w.heap.size, 5, none⟩ = some (.int .u8 f) ∧ w'.cell? ⟨w.heap.size, 6, none⟩ = some (.string d)) (by kernel_rfl) ?_ (fun hHeld => ?_)
  · exact H1.2.1
  refine take_at (i := 1) (v := ?_) rfl (by kernel_rfl) (by kernel_rfl) (by kernel_rfl) (fun _ _ _ h => h) (by kernel_rfl) (by assumption) ?_ ?_
  rotate_left
  · (intro w hSw; (try dsimp only at hSw); go_simp; try with_reducible rfl)
  simp only [Act.put, List.setIfInBounds_toArray, List.set_cons_zero, List.set_cons_succ]
  refine do_at (i := 0) rfl (by kernel_rfl) (by kernel_rfl) (fun K hK => ?_)
  go_simp
  refine (kinds_ex _).mono ?_
  rintro e w1 ⟨B, rfl, hm, bx⟩
  have H1' := H1.below bx
  have B1 := B0.trans (bx.mono B0.size)
  have HM6 := Lib.hid hm
  clear H1 bx B0 hHeld hm
  have H1 := H1'
  clear H1'
  go_simp
  refine hK.out _ _ ?_ (fun hHeld => ?_)
  · exact H1.2.1
  clear hK K
  try simp only [Act.put, List.setIfInBounds_toArray, List.set_cons_zero, List.set_cons_succ]
  refine do_at (i := 2) rfl (by kernel_rfl) (by kernel_rfl) (fun K hK => ?_)
  go_simp
  refine (holds_tok k r p f va vn vc P i d w1 _ HM6.out HK.out (HM.out.below B1) HI.out HD.out).mono ?_
  rintro e w2 ⟨rfl, bx⟩
  have B2 := B1.trans (bx.mono B1.size)
  have H1' := H1.below bx
  clear bx H1 B1 hHeld
  go_simp
  refine hK.out _ _ ?_ (fun hHeld => ?_)
  · exact H1'.2.1
  clear hK K
  try simp only [Act.put, List.setIfInBounds_toArray, List.set_cons_zero, List.set_cons_succ]
  refine take_at (i := 3) (v := ?_) rfl (by kernel_rfl) (by kernel_rfl) (by kernel_rfl) (fun _ _ _ h => h) (by kernel_rfl) (by assumption) ?_ ?_
  rotate_left
  · (intro w hSw; (try dsimp only at hSw); go_simp; try with_reducible rfl)
  simp only [Act.put, List.setIfInBounds_toArray, List.set_cons_zero, List.set_cons_succ]
  refine wpAnyH_done (by kernel_rfl) ?_ _
  go_wp2
  go_ret
  exact ⟨rfl, B2⟩
end Go.Proofs.YtclaopidjfekmaaDoor.Lab
