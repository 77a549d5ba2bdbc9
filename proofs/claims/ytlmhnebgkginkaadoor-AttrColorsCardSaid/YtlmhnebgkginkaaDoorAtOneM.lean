/- A number alone: the mathematics of AttrOne; maps from bytes to flags. -/
import Derived.Test.YtlmhnebgkginkaaDoorAtBackA
import Derived.Test.YtlmhnebgkginkaaDoorPaTake
namespace Go.Proofs.YtlmhnebgkginkaaDoor.Lab
open Go Go.RowKit

def setsN (n : Nat) : Nat := if n = 1 then 1 else if n = 2 then 2 else if n = 3 then 4 else if n = 4 then 8 else if n = 5 then 16 else if n = 7 then 32 else if n = 8 then 64 else if n = 9 then 128 else if n = 21 then 256 else 0
def clrsN (n : Nat) : Nat := if n = 4 then 256 else if n = 21 then 8 else if n = 22 then 3 else if n = 23 then 4 else if n = 24 then 264 else if n = 25 then 16 else if n = 27 then 32 else if n = 28 then 64 else if n = 29 then 128 else 0
theorem flags_twice (a : At) (s c : Nat) : (a.flags s c).flags s c = a.flags s c := by
  unfold At.flags flagsM
  simp only [At.mk.injEq, true_and]
  refine Nat.eq_of_testBit_eq fun i => ?_
  simp only [Nat.testBit_or, Nat.testBit_and]
  cases (a.fl.testBit i) <;> cases ((65535 - c).testBit i) <;> cases (s.testBit i) <;> rfl
theorem flags_none (a : At) (h : a.fl < 65536) : a.flags 0 0 = a := by
  have e : flagsM a.fl 0 0 = a.fl := by
    unfold flagsM
    rw [Nat.or_zero, Nat.sub_zero, show (65535 : Nat) = 2 ^ 16 - 1 from rfl, Nat.and_two_pow_sub_one_eq_mod]
    exact Nat.mod_eq_of_lt h
  unfold At.flags
  rw [e]
theorem one_sgr (a : At) (n : Nat) : sgrM a [[(n : Int)]] = simpleM a n := by
  unfold sgrM
  rw [if_neg (by simp), loopM_cons]
  have h0 : onlyM [(n : Int)] = some (n : Int) := by simp only [onlyM, valM]; rw [if_neg (by omega)]
  unfold stepM
  rw [h0]
  simp only
  by_cases h1 : (n : Int) = 38
  · rw [if_pos h1]
    simp only [loopM, leftM, List.drop_nil, List.length_nil, runM]
    rw [h1]
    rfl
  · by_cases h2 : (n : Int) = 48
    · rw [if_neg h1, if_pos h2]
      simp only [loopM, leftM, List.drop_nil, List.length_nil, runM]
      rw [h2]
      rfl
    · rw [if_neg h1, if_neg h2]
      rfl
/-- What no number is named for. -/
theorem simple_other (a : At) (n : Nat) (h : ¬ (n = 0 ∨ n = 1 ∨ n = 2 ∨ n = 3 ∨ n = 4 ∨ n = 5 ∨ n = 7 ∨ n = 8 ∨ n = 9 ∨ n = 21 ∨ n = 22 ∨ n = 23 ∨ n = 24 ∨ n = 25 ∨ n = 27 ∨ n = 28 ∨ n = 29 ∨ (30 ≤ n ∧ n ≤ 37) ∨ n = 39 ∨ (40 ≤ n ∧ n ≤ 47) ∨ n = 49 ∨ (90 ≤ n ∧ n ≤ 97) ∨ (100 ≤ n ∧ n ≤ 107))) : simpleM a n = a := by
  unfold simpleM
  iterate 23 rw [if_neg (by omega)]
theorem simple_flags (a : At) (ha : a.fl < 65536) (n : Nat) (h : ¬ (n = 0 ∨ (30 ≤ n ∧ n ≤ 37) ∨ n = 39 ∨ (40 ≤ n ∧ n ≤ 47) ∨ n = 49 ∨ (90 ≤ n ∧ n ≤ 97) ∨ (100 ≤ n ∧ n ≤ 107))) : simpleM a n = a.flags (setsN n) (clrsN n) := by
  by_cases k : n = 1 ∨ n = 2 ∨ n = 3 ∨ n = 4 ∨ n = 5 ∨ n = 7 ∨ n = 8 ∨ n = 9 ∨ n = 21 ∨ n = 22 ∨ n = 23 ∨ n = 24 ∨ n = 25 ∨ n = 27 ∨ n = 28 ∨ n = 29
  · rcases k with rfl | rfl | rfl | rfl | rfl | rfl | rfl | rfl | rfl | rfl | rfl | rfl | rfl | rfl | rfl | rfl <;> rfl
  · rw [simple_other a n (by omega), show setsN n = 0 by unfold setsN; iterate 9 rw [if_neg (by omega)], show clrsN n = 0 by unfold clrsN; iterate 9 rw [if_neg (by omega)], flags_none a ha]
theorem simple_twice (a : At) (ha : a.fl < 65536) (n : Nat) : simpleM (simpleM a n) n = simpleM a n := by
  by_cases h : (n = 0 ∨ (30 ≤ n ∧ n ≤ 37) ∨ n = 39 ∨ (40 ≤ n ∧ n ≤ 47) ∨ n = 49 ∨ (90 ≤ n ∧ n ≤ 97) ∨ (100 ≤ n ∧ n ≤ 107))
  · rcases h with rfl | h | rfl | h | rfl | h | h
    · rfl
    · rw [simple_fg a (n := (n : Int)) (by omega), simple_fg _ (n := (n : Int)) (by omega)]
    · rfl
    · rw [simple_bg a (n := (n : Int)) (by omega), simple_bg _ (n := (n : Int)) (by omega)]
    · rfl
    · rw [simple_fgB a (n := (n : Int)) (by omega), simple_fgB _ (n := (n : Int)) (by omega)]
    · rw [simple_bgB a (n := (n : Int)) (by omega), simple_bgB _ (n := (n : Int)) (by omega)]
  · have hs : setsN n < 65536 := by
      unfold setsN
      repeat' split
      all_goals decide
    rw [simple_flags a ha n h, simple_flags _ (show (a.flags (setsN n) (clrsN n)).fl < 65536 from flagsM_lt ha hs) n h, flags_twice]

theorem put_n8 (w : World) (es : Array MapEntry) (clock : Nat) (c : Int) (h0 : 0 ≤ c) (h1 : c ≤ 255) (v : Value) (hf : Instr.findNow (.int .u8) (.int .u8 c) es.toList 0 = some none) :
    (Instr.mapUpdate 52 (.map (some w.heap.size)) (.int .u8 c) v).run Tryd.prog (w.alloc (.map es clock)) = .ok () (w.alloc (.map (es.push ⟨.int .u8 c, v, clock⟩) (clock + 1))) := by
  have hb : (w.alloc (.map es clock)).heap[w.heap.size]? = some (.map es clock) := (MapKept.heap_alloc w _).1
  have e : ∀ o o' : Obj, (w.alloc o).heap.setIfInBounds w.heap.size o' = (w.alloc o').heap := by
    intro o o'
    show (w.heap.push o).setIfInBounds w.heap.size o' = w.heap.push o'
    apply Array.ext'
    simp
  simp [Instr.mapUpdate, find8 _ c es.toList hf, check8 _ _ c h0 h1, run_underlying Tryd.underlying52, MapKept.run_getObj_map hb, MapKept.run_setObj_map _ hb, Result.andThen]
  rw [e]
  rfl
def got8 : Option (Nat × Value) → Value
  | some x => x.2
  | none => .int .u16 0
theorem look8 (w : World) (B : Nat) (es : Array MapEntry) (k : Nat) (c : Int) (h0 : 0 ≤ c) (h1 : c ≤ 255) {r : Option (Nat × Value)} {v : Value} (hb : w.heap[B]? = some (.map es k)) (hf : Instr.findNow (.int .u8) (.int .u8 c) es.toList 0 = some r) (hv : got8 r = v) :
    (Instr.lookup 52 (.map (some B)) (.int .u8 c) false).run Tryd.prog w = .ok v w := by
  subst hv
  have z : (zeroValue 24).run Tryd.prog w = .ok (.int .u16 0) w := by kernel_rfl
  cases r with
  | none => simp [Instr.lookup, find8 _ c _ hf, check8 _ _ c h0 h1, run_underlying Tryd.underlying52, MapKept.run_getObj_map hb, Result.andThen, z, got8]
  | some x => simp [Instr.lookup, find8 _ c _ hf, check8 _ _ c h0 h1, run_underlying Tryd.underlying52, MapKept.run_getObj_map hb, Result.andThen, got8]
/-- What a table of bytes holds, asked of each byte. -/
def isU16 (v : Value) (x : Nat) : Bool := match v with | .int .u16 y => y == (x : Int) | _ => false
theorem isU16_eq {v : Value} {x : Nat} (h : isU16 v x = true) : v = .int .u16 (x : Nat) := by
  unfold isU16 at h
  split at h
  · rw [beq_iff_eq] at h; rw [h]
  · cases h
def tab8 (es : List MapEntry) (f : Nat → Nat) : Bool := (List.range 256).all fun n => match Instr.findNow (.int .u8) (.int .u8 (n : Nat)) es 0 with | some r => isU16 (got8 r) (f n) | none => false
theorem tab8_at {es : List MapEntry} {f : Nat → Nat} (h : tab8 es f = true) (n : Nat) (hn : n < 256) : ∃ r, Instr.findNow (.int .u8) (.int .u8 (n : Nat)) es 0 = some r ∧ got8 r = .int .u16 (f n : Nat) := by
  have := List.all_eq_true.1 h n (List.mem_range.2 hn)
  split at this
  · rename_i r hr
    exact ⟨r, hr, isU16_eq this⟩
  · cases this
abbrev setE : Array MapEntry := #[⟨.int .u8 1, .int .u16 1, 0⟩, ⟨.int .u8 2, .int .u16 2, 1⟩, ⟨.int .u8 3, .int .u16 4, 2⟩, ⟨.int .u8 4, .int .u16 8, 3⟩, ⟨.int .u8 5, .int .u16 16, 4⟩, ⟨.int .u8 7, .int .u16 32, 5⟩, ⟨.int .u8 8, .int .u16 64, 6⟩, ⟨.int .u8 9, .int .u16 128, 7⟩, ⟨.int .u8 21, .int .u16 256, 8⟩]
abbrev clrE : Array MapEntry := #[⟨.int .u8 4, .int .u16 256, 0⟩, ⟨.int .u8 21, .int .u16 8, 1⟩, ⟨.int .u8 22, .int .u16 3, 2⟩, ⟨.int .u8 23, .int .u16 4, 3⟩, ⟨.int .u8 24, .int .u16 264, 4⟩, ⟨.int .u8 25, .int .u16 16, 5⟩, ⟨.int .u8 27, .int .u16 32, 6⟩, ⟨.int .u8 28, .int .u16 64, 7⟩, ⟨.int .u8 29, .int .u16 128, 8⟩]
theorem look_set (w : World) (B : Nat) (n : Nat) (hn : n < 256) (hb : w.heap[B]? = some (.map setE 9)) : (Instr.lookup 52 (.map (some B)) (.int .u8 (n : Nat)) false).run Tryd.prog w = .ok (.int .u16 (setsN n : Nat)) w := by
  obtain ⟨r, h1, h2⟩ := tab8_at (es := setE.toList) (f := setsN) (by kernel_rfl) n hn
  exact look8 w B setE 9 n (by omega) (by omega) hb h1 h2
theorem look_clr (w : World) (B : Nat) (n : Nat) (hn : n < 256) (hb : w.heap[B]? = some (.map clrE 9)) : (Instr.lookup 52 (.map (some B)) (.int .u8 (n : Nat)) false).run Tryd.prog w = .ok (.int .u16 (clrsN n : Nat)) w := by
  obtain ⟨r, h1, h2⟩ := tab8_at (es := clrE.toList) (f := clrsN) (by kernel_rfl) n hn
  exact look8 w B clrE 9 n (by omega) (by omega) hb h1 h2
/-- A row of one number in a row. -/
theorem mat_one {w u1 u2 : World} {x : Int} (h1 : u1 = w.alloc (.cells #[.int .i64 x] 3)) (h2 : u2 = u1.alloc (.cells #[.slice (some ⟨w.heap.size, 0, none⟩) 1 1] 50)) : MatAt u2 (fun _ => True) (.slice (some ⟨u1.heap.size, 0, none⟩) 1 1) [[x]] := by
  subst h2 h1
  refine ⟨_, 1, rfl, by simp, by simp [maxLen], fun _ => ⟨_, 0, rfl, trivial, by simp, fun j hj => ?_⟩⟩
  obtain rfl : j = 0 := by simpa using hj
  refine ⟨.slice (some ⟨w.heap.size, 0, none⟩) 1 1, by simp, _, 1, rfl, by simp, by simp [maxLen], fun _ => ⟨w.heap.size, 0, rfl, trivial, by simp; omega, fun j hj => ?_⟩⟩
  obtain rfl : j = 0 := by simpa using hj
  simp
theorem rowsI_one (n : Nat) (hn : n < 256) : RowsI [[(n : Int)]] := by
  intro r hr x hx
  simp at hr
  subst hr
  simp at hx
  subst hx
  omega
end Go.Proofs.YtlmhnebgkginkaaDoor.Lab
