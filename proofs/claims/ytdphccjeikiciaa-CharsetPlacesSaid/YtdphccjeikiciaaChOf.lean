/- What a character set makes of a rune: the program's and the reference's, each for every number, rune and memory. -/
import Derived.Test.YtdphccjeikiciaaChecked
import Derived.WalkKit
import Derived.Deep.QuietTactic
import Derived.BigQuiet
import Derived.LoopTactic
import Derived.Outline
import Derived.Lib.Hide
import Derived.WalkSpells
import Derived.WalkLawsBesides
import Derived.Below
import Derived.Deep.WholeRow
import Derived.Deep.DeepCutAuto
import Derived.Deep.CutBlock
namespace Go.Proofs.Ytdphccjeikiciaa.Lab
open Go.RowKit

theorem ret_bool {a b : Bool} (h : a = b) : Ending.returned (.bool a) = .returned (.bool b) := by rw [h]
theorem ret_int {k : IntKind} {a b : Int} (h : a = b) : Ending.returned (.int k a) = .returned (.int k b) := by rw [h]

/-- What Graphics makes of 5F to 7E. -/
def grL : List Int := [32, 9670, 9618, 9225, 9228, 9229, 9226, 176, 177, 9252, 9227, 9496, 9488, 9484, 9492, 9532, 9146, 9147, 9472, 9148, 9149, 9500, 9508, 9524, 9516, 9474, 8804, 8805, 960, 8800, 163, 183]
abbrev grA : Array Value := #[.int .i32 32, .int .i32 9670, .int .i32 9618, .int .i32 9225, .int .i32 9228, .int .i32 9229, .int .i32 9226, .int .i32 176, .int .i32 177, .int .i32 9252, .int .i32 9227, .int .i32 9496, .int .i32 9488, .int .i32 9484, .int .i32 9492, .int .i32 9532, .int .i32 9146, .int .i32 9147, .int .i32 9472, .int .i32 9148, .int .i32 9149, .int .i32 9500, .int .i32 9508, .int .i32 9524, .int .i32 9516, .int .i32 9474, .int .i32 8804, .int .i32 8805, .int .i32 960, .int .i32 8800, .int .i32 163, .int .i32 183]
abbrev zrA : Array Value := #[.int .i32 0, .int .i32 0, .int .i32 0, .int .i32 0, .int .i32 0, .int .i32 0, .int .i32 0, .int .i32 0, .int .i32 0, .int .i32 0, .int .i32 0, .int .i32 0, .int .i32 0, .int .i32 0, .int .i32 0, .int .i32 0, .int .i32 0, .int .i32 0, .int .i32 0, .int .i32 0, .int .i32 0, .int .i32 0, .int .i32 0, .int .i32 0, .int .i32 0, .int .i32 0, .int .i32 0, .int .i32 0, .int .i32 0, .int .i32 0, .int .i32 0, .int .i32 0]
/-- What a set makes of a rune. -/
def ofM (set r : Int) : Int := if set = 2 ∧ r = 35 then 163 else if set = 1 ∧ 95 ≤ r ∧ r ≤ 126 then grL.getD (r - 95).toNat 0 else r

theorem ofM_uk : ofM 2 35 = 163 := rfl
theorem ofM_gr (r : Int) (h1 : 95 ≤ r) (h2 : r ≤ 126) : ofM 1 r = grL.getD (r - 95).toNat 0 := by
  unfold ofM
  rw [if_neg (by omega), if_pos ⟨rfl, h1, h2⟩]
theorem ofM_same (s r : Int) (h1 : ¬ (s = 2 ∧ r = 35)) (h2 : ¬ (s = 1 ∧ 95 ≤ r ∧ r ≤ 126)) : ofM s r = r := by
  unfold ofM
  rw [if_neg h1, if_neg h2]

set_option maxHeartbeats 1000000 in
theorem graphics_any (w : World) : Calls Try.prog 25 #[] w fun e w' => e = .returned (.agg grA) ∧ Below w.heap.size w w' := by
  have hi : (Try.prog.info? 60).map (·.size) = some grA.size := by kernel_rfl
  have hld := run_loadVar_new (P := Try.prog) w 60 grA 32 21 Try.underlying60 hi
  have hsc := (run_storeCells_new (P := Try.prog) w 60 zrA grA hi rfl (by simp [Value.oneCell']))
  have hz : grA.size = 32 := rfl
  clear hi
  obtain ⟨g, hg⟩ : ∃ g : Array Value, g = grA := ⟨_, rfl⟩
  rw [← hg] at hld hsc hz
  have HL := Lib.hid hld
  clear hld
  have HG := Lib.hid hg
  clear hg
  go_enter Try.func25, Try.ntmps25
  go_upto_region 1 with (fail)
  apply wp_region_lit
  refine wpList_plain rfl ?_
  intro K hK
  go_simp
  refine hK _ _ ?_
  have hg : g = #[.int .i32 32, .int .i32 9670, .int .i32 9618, .int .i32 9225, .int .i32 9228, .int .i32 9229, .int .i32 9226, .int .i32 176, .int .i32 177, .int .i32 9252, .int .i32 9227, .int .i32 9496, .int .i32 9488, .int .i32 9484, .int .i32 9492, .int .i32 9532, .int .i32 9146, .int .i32 9147, .int .i32 9472, .int .i32 9148, .int .i32 9149, .int .i32 9500, .int .i32 9508, .int .i32 9524, .int .i32 9516, .int .i32 9474, .int .i32 8804, .int .i32 8805, .int .i32 960, .int .i32 8800, .int .i32 163, .int .i32 183] := HG.out
  rw [← hg]
  clear hK hg
  go_wp2
  refine bodyPost_ret (v := .agg g) ?_ rfl ⟨by rw [HG.out], (Below.refl _ _).alloc (Nat.le_refl _) _⟩
  simp [results, Try.results25, asAddr, HL.out]

theorem grA_at (k : Nat) (h : k < 32) : grA[k]? = some (.int .i32 (grL.getD k 0)) := by
  obtain rfl | rfl | rfl | rfl | rfl | rfl | rfl | rfl | rfl | rfl | rfl | rfl | rfl | rfl | rfl | rfl | rfl | rfl | rfl | rfl | rfl | rfl | rfl | rfl | rfl | rfl | rfl | rfl | rfl | rfl | rfl | rfl : k = 0 ∨ k = 1 ∨ k = 2 ∨ k = 3 ∨ k = 4 ∨ k = 5 ∨ k = 6 ∨ k = 7 ∨ k = 8 ∨ k = 9 ∨ k = 10 ∨ k = 11 ∨ k = 12 ∨ k = 13 ∨ k = 14 ∨ k = 15 ∨ k = 16 ∨ k = 17 ∨ k = 18 ∨ k = 19 ∨ k = 20 ∨ k = 21 ∨ k = 22 ∨ k = 23 ∨ k = 24 ∨ k = 25 ∨ k = 26 ∨ k = 27 ∨ k = 28 ∨ k = 29 ∨ k = 30 ∨ k = 31 := by omega
  all_goals rfl

theorem idx_arr (T E : TypeId) (n : Nat) (hT : Try.prog.underlying T = some (.array n E)) (ha : ∀ w, (isAgg E).run Try.prog w = .ok false w) (hz : ∀ w, (sizeOf E).run Try.prog w = .ok 1 w) (cs : Array Value) (k : Nat) (hk : k < n) (v : Value) (hv : cs[k]? = some v) (K : IntKind) (i : Int) (hi : i = k) (w : World) :
    (Instr.index T (.agg cs) (.int K i)).run Try.prog w = .ok v w := by
  subst hi
  have h : 0 ≤ (k : Int) ∧ (k : Int) < (n : Int) := by omega
  simp [Instr.index, run_underlying hT, asIntOf, part, ha, hz, hv, hk, go_sem]

set_option maxHeartbeats 1000000 in
theorem of_any (s r : Int) (w : World) : Calls Try.prog 21 #[.int .i64 s, .int .i32 r] w fun e w' => e = .returned (.int .i32 (ofM s r)) ∧ Below w.heap.size w w' := by
  have C := graphics_any w
  obtain ⟨g, hg⟩ : ∃ g : Array Value, g = grA := ⟨_, rfl⟩
  have G := grA_at
  have hz : grA.size = 32 := rfl
  rw [← hg] at C G hz
  clear hg
  by_cases h1 : s = 2 ∧ r = 35
  · obtain ⟨rfl, rfl⟩ := h1
    clear C G hz
    go_enter Try.func21, Try.ntmps21
    go_wp2
    go_ret
    exact ⟨rfl, Below.refl _ _⟩
  · by_cases h2 : s = 1 ∧ 95 ≤ r ∧ r ≤ 126
    · obtain ⟨rfl, h3, h4⟩ := h2
      obtain ⟨k, hk, rfl⟩ : ∃ k : Nat, k < 32 ∧ r = 95 + (k : Int) := ⟨(r - 95).toNat, by omega, by omega⟩
      have hv := G k hk
      have HE := Lib.hid (ofM_gr (95 + (k : Int)) h3 h4)
      rw [show (95 + (k : Int) - 95).toNat = k by omega] at HE
      clear G h1
      generalize grL.getD k 0 = x at *
      have HX := fun w => idx_arr 60 21 32 Try.underlying60 Try.isAgg21 Try.sizeOf21 g k hk _ hv .i32 (95 + (k : Int) - 95) (by omega) w
      clear hv
      go_enter Try.func21, Try.ntmps21
      go_wp2_with fail
      refine C.mono ?_
      rintro e w5 ⟨rfl, hb⟩
      go_wp2
      go_ret
      exact ⟨ret_int HE.out.symm, hb⟩
    · have HE := Lib.hid (ofM_same s r h1 h2)
      clear C G hz
      go_enter Try.func21, Try.ntmps21
      by_cases a1 : s = 2
      · subst a1
        have a2 : ¬ r = 35 := fun h => h1 ⟨rfl, h⟩
        clear h1 h2
        go_wp2
        go_ret
        exact ⟨ret_int HE.out.symm, Below.refl _ _⟩
      · by_cases a3 : s = 1
        · subst a3
          by_cases a4 : 95 ≤ r
          · have a5 : ¬ r ≤ 126 := fun h => h2 ⟨rfl, a4, h⟩
            clear h1 h2
            go_wp2
            go_ret
            exact ⟨ret_int HE.out.symm, Below.refl _ _⟩
          · clear h1 h2
            go_wp2
            go_ret
            exact ⟨ret_int HE.out.symm, Below.refl _ _⟩
        · clear h1 h2
          go_wp2
          go_ret
          exact ⟨ret_int HE.out.symm, Below.refl _ _⟩
end Go.Proofs.Ytdphccjeikiciaa.Lab
