/- What the reference makes of a rune by a set. -/
import Derived.Test.YtdphccjeikiciaaChOf
namespace Go.Proofs.Ytdphccjeikiciaa.Lab
open Go.RowKit

set_option maxHeartbeats 1000000 in
theorem ref_any (s r : Int) (w : World) : Calls Try.prog 22 #[.int .i64 s, .int .i32 r] w fun e w' => e = .returned (.int .i32 (ofM s r)) ∧ Below w.heap.size w w' := by
  by_cases h1 : s = 2 ∧ r = 35
  · obtain ⟨rfl, rfl⟩ := h1
    go_enter Try.func22, Try.ntmps22
    go_wp2
    go_ret
    exact ⟨rfl, Below.refl _ _⟩
  · by_cases h2 : s = 1 ∧ 95 ≤ r ∧ r ≤ 126
    · obtain ⟨rfl, h3, h4⟩ := h2
      obtain ⟨k, hk, rfl⟩ : ∃ k : Nat, k < 32 ∧ r = 95 + (k : Int) := ⟨(r - 95).toNat, by omega, by omega⟩
      have hv := Lib.hid (grA_at k hk)
      have HE := Lib.hid (ofM_gr (95 + (k : Int)) h3 h4)
      rw [show (95 + (k : Int) - 95).toNat = k by omega] at HE
      clear h1
      generalize grL.getD k 0 = x at *
      go_enter Try.func22, Try.ntmps22
      go_upto_region 6 with (fail)
      have hc : (w.alloc (.cells #[.int .i32 32, .int .i32 9670, .int .i32 9618, .int .i32 9225, .int .i32 9228, .int .i32 9229, .int .i32 9226, .int .i32 176, .int .i32 177, .int .i32 9252, .int .i32 9227, .int .i32 9496, .int .i32 9488, .int .i32 9484, .int .i32 9492, .int .i32 9532, .int .i32 9146, .int .i32 9147, .int .i32 9472, .int .i32 9148, .int .i32 9149, .int .i32 9500, .int .i32 9508, .int .i32 9524, .int .i32 9516, .int .i32 9474, .int .i32 8804, .int .i32 8805, .int .i32 960, .int .i32 8800, .int .i32 163, .int .i32 183] 21)).cell? ⟨w.heap.size, k, none⟩ = some (.int .i32 x) := by
        rw [World.cell?_alloc_at _ _ _ _ rfl]
        exact hv.out
      have hb : Below w.heap.size w (w.alloc (.cells #[.int .i32 32, .int .i32 9670, .int .i32 9618, .int .i32 9225, .int .i32 9228, .int .i32 9229, .int .i32 9226, .int .i32 176, .int .i32 177, .int .i32 9252, .int .i32 9227, .int .i32 9496, .int .i32 9488, .int .i32 9484, .int .i32 9492, .int .i32 9532, .int .i32 9146, .int .i32 9147, .int .i32 9472, .int .i32 9148, .int .i32 9149, .int .i32 9500, .int .i32 9508, .int .i32 9524, .int .i32 9516, .int .i32 9474, .int .i32 8804, .int .i32 8805, .int .i32 960, .int .i32 8800, .int .i32 163, .int .i32 183] 21)) := (Below.refl _ _).alloc (Nat.le_refl _) _
      clear hv
      generalize w.alloc (.cells #[.int .i32 32, .int .i32 9670, .int .i32 9618, .int .i32 9225, .int .i32 9228, .int .i32 9229, .int .i32 9226, .int .i32 176, .int .i32 177, .int .i32 9252, .int .i32 9227, .int .i32 9496, .int .i32 9488, .int .i32 9484, .int .i32 9492, .int .i32 9532, .int .i32 9146, .int .i32 9147, .int .i32 9472, .int .i32 9148, .int .i32 9149, .int .i32 9500, .int .i32 9508, .int .i32 9524, .int .i32 9516, .int .i32 9474, .int .i32 8804, .int .i32 8805, .int .i32 960, .int .i32 8800, .int .i32 163, .int .i32 183] 21) = w2 at *
      have HB := Lib.hid hb
      clear hb
      go_wp2
      go_ret
      exact ⟨ret_int HE.out.symm, HB.out⟩
    · have HE := Lib.hid (ofM_same s r h1 h2)
      go_enter Try.func22, Try.ntmps22
      by_cases a1 : s = 2
      · subst a1
        have a2 : ¬ r = 35 := fun h => h1 ⟨rfl, h⟩
        clear h1 h2
        go_wp2
        go_ret
        exact ⟨ret_int HE.out.symm, Below.refl _ _⟩
      · by_cases a3 : s = 1
        · subst a3
          by_cases a4 : 95 ≤ r
          · have a5 : ¬ r ≤ 126 := fun h => h2 ⟨rfl, a4, h⟩
            clear h1 h2
            go_wp2
            go_ret
            exact ⟨ret_int HE.out.symm, Below.refl _ _⟩
          · clear h1 h2
            go_wp2
            go_ret
            exact ⟨ret_int HE.out.symm, Below.refl _ _⟩
        · clear h1 h2
          go_wp2
          go_ret
          exact ⟨ret_int HE.out.symm, Below.refl _ _⟩
end Go.Proofs.Ytdphccjeikiciaa.Lab
