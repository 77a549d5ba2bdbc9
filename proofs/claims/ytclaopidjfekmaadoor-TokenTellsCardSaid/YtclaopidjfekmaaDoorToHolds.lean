/- Same, the map of what kinds have, holds, Right. -/
import Derived.Test.YtclaopidjfekmaaDoorToKinds
import Derived.MapKept
import Derived.Carry
import Derived.Maps.Own
namespace Go.Proofs.YtclaopidjfekmaaDoor.Lab
open Go Go.RowKit

def sameB (s t : Tok) : Bool :=
  decide (s.kind = t.kind) && decide (s.rune = t.rune) && decide (s.priv = t.priv) && decide (bl s.inter = bl t.inter) && decide (s.fin = t.fin) && decide (bl s.data = bl t.data) && decide (s.P = t.P)
theorem same_iff {s t : Tok} : sameB s t = true ↔ s = t := by
  unfold sameB
  simp only [Bool.and_eq_true, decide_eq_true_eq]
  constructor
  · rintro ⟨⟨⟨⟨⟨⟨h1, h2⟩, h3⟩, h4⟩, h5⟩, h6⟩, h7⟩
    exact Tok.ext' h1 h2 h3 h7 (bl_inj h4) h5 (bl_inj h6)
  · rintro rfl
    simp
theorem toL (s : ByteArray) : s.toList = bl s := ByteArray.toList_eq s

set_option maxHeartbeats 2000000 in
set_option maxRecDepth 100000 in
theorem same_any (k r p f k' r' p' f' : Int) (va va' : Option Addr) (vn vc vn' vc' : Nat) (P P' : Rws) (i d i' d' : ByteArray) (w : World) (hM : MatAt w (.slice va vn vc) P) (hM' : MatAt w (.slice va' vn' vc') P') :
    Calls Tryd.prog 13 #[tok7 k r p (.slice va vn vc) i f d, tok7 k' r' p' (.slice va' vn' vc') i' f' d'] w fun e w' => e = .returned (.bool (sameB ⟨k, r, p, P, i, f, d⟩ ⟨k', r', p', P', i', f', d'⟩)) ∧ Below w.heap.size w w' := by
  have b1 : Below w.heap.size w ((w.alloc (.cells #[.int .i64 k, .int .i32 r, .int .u8 p, .slice va vn vc, .string i, .int .u8 f, .string d] 27)).alloc (.cells #[.int .i64 k', .int .i32 r', .int .u8 p', .slice va' vn' vc', .string i', .int .u8 f', .string d'] 27)) := ((Below.refl _ _).alloc (Nat.le_refl _) _).alloc (by simp) _
  have HM := Lib.hid (hM.below b1)
  have HM' := Lib.hid (hM'.below b1)
  have HB := Lib.hid b1
  clear hM hM' b1
  by_cases h0 : k = k'
  case neg =>
    have e0 : (k == k') = false := by simpa using h0
    have HX := Lib.hid h0
    clear h0
    go_enter Tryd.func13, Tryd.ntmps13
    go_wp2
    go_ret
    refine ⟨?_, HB.out⟩
    have : ∀ b, b = false → Ending.returned (.bool false) = .returned (.bool b) := fun b h => by rw [h]
    refine this _ ?_
    simp only [sameB]
    rw [decide_eq_false HX.out]
    simp
  subst h0
  by_cases h1 : r = r'
  case neg =>
    have e1 : (r == r') = false := by simpa using h1
    have HX := Lib.hid h1
    clear h1
    go_enter Tryd.func13, Tryd.ntmps13
    go_wp2
    go_ret
    refine ⟨?_, HB.out⟩
    have : ∀ b, b = false → Ending.returned (.bool false) = .returned (.bool b) := fun b h => by rw [h]
    refine this _ ?_
    simp only [sameB]
    rw [decide_eq_false HX.out]
    simp
  subst h1
  by_cases h2 : p = p'
  case neg =>
    have e2 : (p == p') = false := by simpa using h2
    have HX := Lib.hid h2
    clear h2
    go_enter Tryd.func13, Tryd.ntmps13
    go_wp2
    go_ret
    refine ⟨?_, HB.out⟩
    have : ∀ b, b = false → Ending.returned (.bool false) = .returned (.bool b) := fun b h => by rw [h]
    refine this _ ?_
    simp only [sameB]
    rw [decide_eq_false HX.out]
    simp
  subst h2
  by_cases h3 : i = i'
  case neg =>
    have n3 : ¬ bl i = bl i' := fun e => h3 (bl_inj e)
    have e3 : (i.toList == i'.toList) = false := by rw [toL, toL]; simpa using n3
    have HX := Lib.hid n3
    clear n3
    clear h3
    go_enter Tryd.func13, Tryd.ntmps13
    go_wp2
    go_ret
    refine ⟨?_, HB.out⟩
    have : ∀ b, b = false → Ending.returned (.bool false) = .returned (.bool b) := fun b h => by rw [h]
    refine this _ ?_
    simp only [sameB]
    rw [decide_eq_false HX.out]
    simp
  subst h3
  by_cases h4 : f = f'
  case neg =>
    have e4 : (f == f') = false := by simpa using h4
    have HX := Lib.hid h4
    clear h4
    go_enter Tryd.func13, Tryd.ntmps13
    go_wp2
    go_ret
    refine ⟨?_, HB.out⟩
    have : ∀ b, b = false → Ending.returned (.bool false) = .returned (.bool b) := fun b h => by rw [h]
    refine this _ ?_
    simp only [sameB]
    rw [decide_eq_false HX.out]
    simp
  subst h4
  by_cases h5 : d = d'
  case neg =>
    have n5 : ¬ bl d = bl d' := fun e => h5 (bl_inj e)
    have e5 : (d.toList == d'.toList) = false := by rw [toL, toL]; simpa using n5
    have HX := Lib.hid n5
    clear n5
    clear h5
    go_enter Tryd.func13, Tryd.ntmps13
    go_wp2
    go_ret
    refine ⟨?_, HB.out⟩
    have : ∀ b, b = false → Ending.returned (.bool false) = .returned (.bool b) := fun b h => by rw [h]
    refine this _ ?_
    simp only [sameB]
    rw [decide_eq_false HX.out]
    simp
  subst h5
  obtain ⟨q, hq⟩ : ∃ q, decide (P = P') = q := ⟨_, rfl⟩
  have HQ := Lib.hid hq
  clear hq
  go_enter Tryd.func13, Tryd.ntmps13
  go_wp2_with fail
  refine (equalf_any _ _ P P' _ HM.out HM'.out).mono ?_
  rintro e w2 ⟨rfl, b2⟩
  rw [HQ.out]
  have HB2 := Lib.hid (HB.out.trans (b2.mono HB.out.size))
  clear b2
  go_wp2
  go_ret
  refine ⟨?_, HB2.out⟩
  have : ∀ b, b = q → Ending.returned (.bool q) = .returned (.bool b) := fun b h => by rw [h]
  refine this _ ?_
  simp only [sameB]
  rw [HQ.out]
  simp

/-! ### the map -/
abbrev FV (n : Nat) : Value := .func (.func n) #[] #[]
abbrev M1 : Array MapEntry := #[⟨.int .i64 0, FV 39, 0⟩]
abbrev M2 : Array MapEntry := #[⟨.int .i64 0, FV 39, 0⟩, ⟨.int .i64 1, FV 41, 1⟩]
abbrev M3 : Array MapEntry := #[⟨.int .i64 0, FV 39, 0⟩, ⟨.int .i64 1, FV 41, 1⟩, ⟨.int .i64 2, FV 43, 2⟩]
abbrev M4 : Array MapEntry := #[⟨.int .i64 0, FV 39, 0⟩, ⟨.int .i64 1, FV 41, 1⟩, ⟨.int .i64 2, FV 43, 2⟩, ⟨.int .i64 3, FV 47, 3⟩]
abbrev M5 : Array MapEntry := #[⟨.int .i64 0, FV 39, 0⟩, ⟨.int .i64 1, FV 41, 1⟩, ⟨.int .i64 2, FV 43, 2⟩, ⟨.int .i64 3, FV 47, 3⟩, ⟨.int .i64 4, FV 49, 4⟩]
abbrev M6 : Array MapEntry := #[⟨.int .i64 0, FV 39, 0⟩, ⟨.int .i64 1, FV 41, 1⟩, ⟨.int .i64 2, FV 43, 2⟩, ⟨.int .i64 3, FV 47, 3⟩, ⟨.int .i64 4, FV 49, 4⟩, ⟨.int .i64 5, FV 51, 5⟩]

theorem keyed64 : Maps.Keyed Tryd.prog 3 := Maps.int_keyed Tryd.underlying3
def i64 (c : Int) : Prop := -9223372036854775808 ≤ c ∧ c ≤ 9223372036854775807
theorem check64 (w : World) (em : Bool) (c : Int) (h : i64 c) : (Instr.checkKey em 10000 3 (.int .i64 c)).run Tryd.prog w = .ok () w :=
  keyed64.check w em (Maps.keyOf_int_mk Tryd.underlying3 (by unfold i64 at h; simp [Lit.wf, IntKind.min, IntKind.max, IntKind.bits, IntKind.signed]; omega))
theorem find64 (w : World) (c : Int) (es : List MapEntry) {r} (hf : Instr.findNow (.int .i64) (.int .i64 c) es 0 = some r) : (Instr.findKey 3 (.int .i64 c) es).run Tryd.prog w = .ok r w := by
  simp [Instr.findKey, run_underlying Tryd.underlying3, hf, Result.andThen]
theorem put_new (w : World) (es : Array MapEntry) (clock : Nat) (c : Int) (h : i64 c) (v : Value) (hf : Instr.findNow (.int .i64) (.int .i64 c) es.toList 0 = some none) :
    (Instr.mapUpdate 49 (.map (some w.heap.size)) (.int .i64 c) v).run Tryd.prog (w.alloc (.map es clock)) = .ok () (w.alloc (.map (es.push ⟨.int .i64 c, v, clock⟩) (clock + 1))) := by
  have hb : (w.alloc (.map es clock)).heap[w.heap.size]? = some (.map es clock) := (MapKept.heap_alloc w _).1
  have e : ∀ o o' : Obj, (w.alloc o).heap.setIfInBounds w.heap.size o' = (w.alloc o').heap := by
    intro o o'
    show (w.heap.push o).setIfInBounds w.heap.size o' = w.heap.push o'
    apply Array.ext'
    simp
  simp [Instr.mapUpdate, find64 _ c es.toList hf, check64 _ _ c h, run_underlying Tryd.underlying49, MapKept.run_getObj_map hb, MapKept.run_setObj_map _ hb, Result.andThen]
  rw [e]
  rfl
def gotF : Option (Nat × Value) → Value
  | some x => x.2
  | none => .nilFunc
theorem look (w : World) (B : Nat) (c : Int) (h : i64 c) {r : Option (Nat × Value)} (hb : w.heap[B]? = some (.map M6 6)) (hf : Instr.findNow (.int .i64) (.int .i64 c) M6.toList 0 = some r) :
    (Instr.lookup 49 (.map (some B)) (.int .i64 c) true).run Tryd.prog w = .ok (.tuple #[gotF r, .bool r.isSome]) w := by
  have z : (zeroValue 72).run Tryd.prog w = .ok .nilFunc w := by kernel_rfl
  cases r with
  | none => simp [Instr.lookup, find64 _ c _ hf, check64 _ _ c h, run_underlying Tryd.underlying49, MapKept.run_getObj_map hb, Result.andThen, z, gotF]
  | some x => simp [Instr.lookup, find64 _ c _ hf, check64 _ _ c h, run_underlying Tryd.underlying49, MapKept.run_getObj_map hb, Result.andThen, gotF]

set_option maxHeartbeats 1000000 in
theorem kinds_any (w : World) : Calls Tryd.prog 21 #[] w fun e w' => e = .returned (.map (some w.heap.size)) ∧ w'.heap[w.heap.size]? = some (.map M6 6) ∧ Below w.heap.size w w' := by
  have hmm := @run_makeMap Tryd.prog
  have p1 := put_new w #[] 0 0 ⟨by decide, by decide⟩ (FV 39) rfl
  have p2 := put_new w M1 1 1 ⟨by decide, by decide⟩ (FV 41) rfl
  have p3 := put_new w M2 2 2 ⟨by decide, by decide⟩ (FV 43) rfl
  have p4 := put_new w M3 3 3 ⟨by decide, by decide⟩ (FV 47) rfl
  have p5 := put_new w M4 4 4 ⟨by decide, by decide⟩ (FV 49) rfl
  have p6 := put_new w M5 5 5 ⟨by decide, by decide⟩ (FV 51) rfl
  go_enter Tryd.func21, Tryd.ntmps21
  go_wp2
  go_ret
  exact ⟨rfl, (MapKept.heap_alloc w _).1, (Below.refl _ _).alloc (Nat.le_refl _) _⟩
end Go.Proofs.YtclaopidjfekmaaDoor.Lab
