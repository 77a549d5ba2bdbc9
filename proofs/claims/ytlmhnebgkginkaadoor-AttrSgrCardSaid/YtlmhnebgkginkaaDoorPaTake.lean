/- The map of what bytes do; the method Byte. -/
import Derived.Test.YtlmhnebgkginkaaDoorPaByte
import Derived.MapKept
import Derived.Carry
import Derived.Maps.Own
namespace Go.Proofs.YtlmhnebgkginkaaDoor.Lab
open Go.RowKit

def likeM (c : Nat) : Nat := if 48 ≤ c ∧ c ≤ 57 then 48 else c
set_option maxHeartbeats 1000000 in
theorem like_any (c : Nat) (hc : c < 256) (w : World) : Calls Tryd.prog 61 #[.int .u8 c] w fun e w' => e = .returned (.int .u8 (likeM c : Nat)) ∧ w = w' := by
  by_cases h1 : 48 ≤ c
  · by_cases h2 : c ≤ 57
    · go_enter Tryd.func61, Tryd.ntmps61
      go_wp2
      go_ret
      simp [likeM, h1, h2]
    · go_enter Tryd.func61, Tryd.ntmps61
      go_wp2
      go_ret
      simp [likeM, h2]
  · have d1 : decide ((48 : Int) ≤ c) = false := by simp; omega
    go_enter Tryd.func61, Tryd.ntmps61
    go_wp2
    go_ret
    simp [likeM, h1]

abbrev FV (n : Nat) : Value := .func (.func n) #[] #[]
abbrev M1 : Array MapEntry := #[⟨.int .u8 48, FV 72, 0⟩]
abbrev M2 : Array MapEntry := #[⟨.int .u8 48, FV 72, 0⟩, ⟨.int .u8 59, FV 62, 1⟩]
abbrev M3 : Array MapEntry := #[⟨.int .u8 48, FV 72, 0⟩, ⟨.int .u8 59, FV 62, 1⟩, ⟨.int .u8 58, FV 73, 2⟩]

theorem keyed8 : Maps.Keyed Tryd.prog 5 := Maps.int_keyed Tryd.underlying5
theorem check8 (w : World) (em : Bool) (c : Int) (h0 : 0 ≤ c) (h1 : c ≤ 255) : (Instr.checkKey em 10000 5 (.int .u8 c)).run Tryd.prog w = .ok () w :=
  keyed8.check w em (Maps.keyOf_int_mk Tryd.underlying5 (by simp [Lit.wf, IntKind.min, IntKind.max, IntKind.bits, IntKind.signed]; omega))
theorem find8 (w : World) (c : Int) (es : List MapEntry) {r} (hf : Instr.findNow (.int .u8) (.int .u8 c) es 0 = some r) : (Instr.findKey 5 (.int .u8 c) es).run Tryd.prog w = .ok r w := by
  simp [Instr.findKey, run_underlying Tryd.underlying5, hf, Result.andThen]

theorem put_new (w : World) (es : Array MapEntry) (clock : Nat) (c : Int) (h0 : 0 ≤ c) (h1 : c ≤ 255) (v : Value) (hf : Instr.findNow (.int .u8) (.int .u8 c) es.toList 0 = some none) :
    (Instr.mapUpdate 105 (.map (some w.heap.size)) (.int .u8 c) v).run Tryd.prog (w.alloc (.map es clock)) = .ok () (w.alloc (.map (es.push ⟨.int .u8 c, v, clock⟩) (clock + 1))) := by
  have hb : (w.alloc (.map es clock)).heap[w.heap.size]? = some (.map es clock) := (MapKept.heap_alloc w _).1
  have e : ∀ o o' : Obj, (w.alloc o).heap.setIfInBounds w.heap.size o' = (w.alloc o').heap := by
    intro o o'
    show (w.heap.push o).setIfInBounds w.heap.size o' = w.heap.push o'
    apply Array.ext'
    simp
  simp [Instr.mapUpdate, find8 _ c es.toList hf, check8 _ _ c h0 h1, run_underlying Tryd.underlying105, MapKept.run_getObj_map hb, MapKept.run_setObj_map _ hb, Result.andThen]
  rw [e]
  rfl

def gotF : Option (Nat × Value) → Value
  | some x => x.2
  | none => .nilFunc
theorem look (w : World) (B : Nat) (c : Int) (h0 : 0 ≤ c) (h1 : c ≤ 255) {r : Option (Nat × Value)} (hb : w.heap[B]? = some (.map M3 3)) (hf : Instr.findNow (.int .u8) (.int .u8 c) M3.toList 0 = some r) :
    (Instr.lookup 105 (.map (some B)) (.int .u8 c) true).run Tryd.prog w = .ok (.tuple #[gotF r, .bool r.isSome]) w := by
  have z : (zeroValue 103).run Tryd.prog w = .ok .nilFunc w := by kernel_rfl
  cases r with
  | none => simp [Instr.lookup, find8 _ c _ hf, check8 _ _ c h0 h1, run_underlying Tryd.underlying105, MapKept.run_getObj_map hb, Result.andThen, z, gotF]
  | some x => simp [Instr.lookup, find8 _ c _ hf, check8 _ _ c h0 h1, run_underlying Tryd.underlying105, MapKept.run_getObj_map hb, Result.andThen, gotF]

set_option maxHeartbeats 1000000 in
theorem takers_any (w : World) : Calls Tryd.prog 60 #[] w fun e w' => e = .returned (.map (some w.heap.size)) ∧ w'.heap[w.heap.size]? = some (.map M3 3) ∧ Below w.heap.size w w' := by
  have hmm := @run_makeMap Tryd.prog
  have p1 := put_new w #[] 0 48 (by decide) (by decide) (FV 72) rfl
  have p2 := put_new w M1 1 59 (by decide) (by decide) (FV 62) rfl
  have p3 := put_new w M2 2 58 (by decide) (by decide) (FV 73) rfl
  go_enter Tryd.func60, Tryd.ntmps60
  go_wp2
  go_ret
  exact ⟨rfl, (MapKept.heap_alloc w _).1, (Below.refl _ _).alloc (Nat.le_refl _) _⟩

theorem LAt.count {w : World} {B : Nat} {s : Option PS} (h : LAt w B s) : w.cell? ⟨B, 288, none⟩ = some (.int .i64 (rowsO s).length) := by
  obtain ⟨_, _, L, _⟩ := h
  exact L.cp
theorem rows_pos (s : PS) : ((rowsO (some s)).length == 0) = false := by simp [rowsO, PS.rows]

set_option maxHeartbeats 1000000 in
theorem byte_no (w : World) (B : Nat) (c : UInt8) (hg : ¬ good c) :
    Calls Tryd.prog 44 #[.pointer (some ⟨B, 0, none⟩), .int .u8 (c.toNat : Nat)] w fun e w' => e = .returned (.bool false) ∧ Below w.heap.size w w' := by
  have hc := c.toNat_lt
  have hg' : ¬ (48 ≤ c.toNat ∧ c.toNat ≤ 59) := hg
  generalize c.toNat = n at *
  have hl : likeM n = n := by unfold likeM; rw [if_neg (by omega)]
  have hf : Instr.findNow (.int .u8) (.int .u8 n) M3.toList 0 = some none := by
    have e1 : ((n : Int) == 48) = false := by simp; omega
    have e2 : ((n : Int) == 59) = false := by simp; omega
    have e3 : ((n : Int) == 58) = false := by simp; omega
    simp [Instr.findNow, Instr.sameNow, e1, e2, e3]
  go_enter Tryd.func44, Tryd.ntmps44
  go_wp2_with fail
  refine (takers_any _).mono ?_
  rintro e w1 ⟨rfl, hm, b1⟩
  go_wp2_with fail
  refine (like_any n (by omega) _).mono ?_
  rintro e w2 ⟨rfl, rfl⟩
  rw [hl]
  have hk := look w1 _ n (by omega) (by omega) hm hf
  simp only [gotF, Option.isSome] at hk
  clear hf hl hm
  go_wp2
  go_ret
  exact ⟨rfl, b1⟩
/- GENERATED -/
set_option maxHeartbeats 1000000 in
theorem byte_dig_some (w : World) (B n : Nat) (S : PS) (h48 : 48 ≤ n) (h57 : n ≤ 57) (h : LAt w B (some S)) :
    Calls Tryd.prog 44 #[.pointer (some ⟨B, 0, none⟩), .int .u8 (n : Nat)] w fun e w' => e = .returned (.bool true) ∧ LAt w' B (some (S.dig n)) ∧ But B w w' := by
  have hl : Hid (likeM n = 48) := Lib.hid (by unfold likeM; rw [if_pos ⟨h48, h57⟩])
  have hn : n < 256 := by omega
  go_enter Tryd.func44, Tryd.ntmps44
  go_wp2_with fail
  refine (takers_any _).mono ?_
  rintro e w1 ⟨rfl, hm, b1⟩
  go_wp2_with fail
  refine (like_any n (by omega) _).mono ?_
  rintro e w2 ⟨rfl, rfl⟩
  rw [hl.out]
  have hk := look w1 _ 48 (by decide) (by decide) hm (r := some (0, FV 72)) rfl
  simp only [gotF, Option.isSome] at hk
  have H1 := h.below b1
  have B1 := But.of (B := B) b1
  clear hl hm b1 h
  have c1 := H1.count
  have hp : ((((rowsO (some S)).length : Nat) : Int) == 0) = false := by simp [rowsO, PS.rows]; omega
  go_wp2_with fail
  refine (dig_at _ B S n h48 h57 H1).mono ?_
  rintro e w3 ⟨rfl, H3, b3⟩
  go_wp2
  go_ret
  exact ⟨rfl, H3, B1.trans b3⟩

set_option maxHeartbeats 1000000 in
theorem byte_dig_none (w : World) (B n : Nat) (h48 : 48 ≤ n) (h57 : n ≤ 57) (h : LAt w B none) :
    Calls Tryd.prog 44 #[.pointer (some ⟨B, 0, none⟩), .int .u8 (n : Nat)] w fun e w' => e = .returned (.bool true) ∧ LAt w' B (some (PS.start.dig n)) ∧ But B w w' := by
  have hl : Hid (likeM n = 48) := Lib.hid (by unfold likeM; rw [if_pos ⟨h48, h57⟩])
  have hn : n < 256 := by omega
  go_enter Tryd.func44, Tryd.ntmps44
  go_wp2_with fail
  refine (takers_any _).mono ?_
  rintro e w1 ⟨rfl, hm, b1⟩
  go_wp2_with fail
  refine (like_any n (by omega) _).mono ?_
  rintro e w2 ⟨rfl, rfl⟩
  rw [hl.out]
  have hk := look w1 _ 48 (by decide) (by decide) hm (r := some (0, FV 72)) rfl
  simp only [gotF, Option.isSome] at hk
  have H1 := h.below b1
  have B1 := But.of (B := B) b1
  clear hl hm b1 h
  have c1 := H1.count
  have hp : (rowsO none).length = 0 := rfl
  rw [hp] at c1
  clear hp
  go_wp2_with fail
  refine (next_at _ B none _ H1).mono ?_
  rintro e w2 ⟨rfl, H2, b2⟩
  go_wp2_with fail
  refine (dig_at _ B PS.start n h48 h57 H2).mono ?_
  rintro e w3 ⟨rfl, H3, b3⟩
  go_wp2
  go_ret
  exact ⟨rfl, H3, (B1.trans b2).trans b3⟩

set_option maxHeartbeats 1000000 in
theorem byte_nxt_some (w : World) (B n : Nat) (S : PS) (h59 : n = 59) (h : LAt w B (some S)) :
    Calls Tryd.prog 44 #[.pointer (some ⟨B, 0, none⟩), .int .u8 (n : Nat)] w fun e w' => e = .returned (.bool true) ∧ LAt w' B (some (S.nxt)) ∧ But B w w' := by
  have hl : Hid (likeM n = 59) := Lib.hid (by unfold likeM; rw [if_neg (by omega)]; omega)
  have hn : n < 256 := by omega
  subst n
  go_enter Tryd.func44, Tryd.ntmps44
  go_wp2_with fail
  refine (takers_any _).mono ?_
  rintro e w1 ⟨rfl, hm, b1⟩
  go_wp2_with fail
  refine (like_any 59 (by omega) _).mono ?_
  rintro e w2 ⟨rfl, rfl⟩
  rw [hl.out]
  have hk := look w1 _ 59 (by decide) (by decide) hm (r := some (1, FV 62)) rfl
  simp only [gotF, Option.isSome] at hk
  have H1 := h.below b1
  have B1 := But.of (B := B) b1
  clear hl hm b1 h
  have c1 := H1.count
  have hp : ((((rowsO (some S)).length : Nat) : Int) == 0) = false := by simp [rowsO, PS.rows]; omega
  go_wp2_with fail
  refine (next_at _ B (some S) (.int .u8 59) H1).mono ?_
  rintro e w3 ⟨rfl, H3, b3⟩
  go_wp2
  go_ret
  exact ⟨rfl, H3, B1.trans b3⟩

set_option maxHeartbeats 1000000 in
theorem byte_nxt_none (w : World) (B n : Nat) (h59 : n = 59) (h : LAt w B none) :
    Calls Tryd.prog 44 #[.pointer (some ⟨B, 0, none⟩), .int .u8 (n : Nat)] w fun e w' => e = .returned (.bool true) ∧ LAt w' B (some (PS.start.nxt)) ∧ But B w w' := by
  have hl : Hid (likeM n = 59) := Lib.hid (by unfold likeM; rw [if_neg (by omega)]; omega)
  have hn : n < 256 := by omega
  subst n
  go_enter Tryd.func44, Tryd.ntmps44
  go_wp2_with fail
  refine (takers_any _).mono ?_
  rintro e w1 ⟨rfl, hm, b1⟩
  go_wp2_with fail
  refine (like_any 59 (by omega) _).mono ?_
  rintro e w2 ⟨rfl, rfl⟩
  rw [hl.out]
  have hk := look w1 _ 59 (by decide) (by decide) hm (r := some (1, FV 62)) rfl
  simp only [gotF, Option.isSome] at hk
  have H1 := h.below b1
  have B1 := But.of (B := B) b1
  clear hl hm b1 h
  have c1 := H1.count
  have hp : (rowsO none).length = 0 := rfl
  rw [hp] at c1
  clear hp
  go_wp2_with fail
  refine (next_at _ B none _ H1).mono ?_
  rintro e w2 ⟨rfl, H2, b2⟩
  go_wp2_with fail
  refine (next_at _ B (some PS.start) (.int .u8 59) H2).mono ?_
  rintro e w3 ⟨rfl, H3, b3⟩
  go_wp2
  go_ret
  exact ⟨rfl, H3, (B1.trans b2).trans b3⟩

set_option maxHeartbeats 1000000 in
theorem byte_sub_some (w : World) (B n : Nat) (S : PS) (h58 : n = 58) (h : LAt w B (some S)) :
    Calls Tryd.prog 44 #[.pointer (some ⟨B, 0, none⟩), .int .u8 (n : Nat)] w fun e w' => e = .returned (.bool true) ∧ LAt w' B (some (S.sub)) ∧ But B w w' := by
  have hl : Hid (likeM n = 58) := Lib.hid (by unfold likeM; rw [if_neg (by omega)]; omega)
  have hn : n < 256 := by omega
  subst n
  go_enter Tryd.func44, Tryd.ntmps44
  go_wp2_with fail
  refine (takers_any _).mono ?_
  rintro e w1 ⟨rfl, hm, b1⟩
  go_wp2_with fail
  refine (like_any 58 (by omega) _).mono ?_
  rintro e w2 ⟨rfl, rfl⟩
  rw [hl.out]
  have hk := look w1 _ 58 (by decide) (by decide) hm (r := some (2, FV 73)) rfl
  simp only [gotF, Option.isSome] at hk
  have H1 := h.below b1
  have B1 := But.of (B := B) b1
  clear hl hm b1 h
  have c1 := H1.count
  have hp : ((((rowsO (some S)).length : Nat) : Int) == 0) = false := by simp [rowsO, PS.rows]; omega
  go_wp2_with fail
  refine (sub_at _ B S (.int .u8 58) H1).mono ?_
  rintro e w3 ⟨rfl, H3, b3⟩
  go_wp2
  go_ret
  exact ⟨rfl, H3, B1.trans b3⟩

set_option maxHeartbeats 1000000 in
theorem byte_sub_none (w : World) (B n : Nat) (h58 : n = 58) (h : LAt w B none) :
    Calls Tryd.prog 44 #[.pointer (some ⟨B, 0, none⟩), .int .u8 (n : Nat)] w fun e w' => e = .returned (.bool true) ∧ LAt w' B (some (PS.start.sub)) ∧ But B w w' := by
  have hl : Hid (likeM n = 58) := Lib.hid (by unfold likeM; rw [if_neg (by omega)]; omega)
  have hn : n < 256 := by omega
  subst n
  go_enter Tryd.func44, Tryd.ntmps44
  go_wp2_with fail
  refine (takers_any _).mono ?_
  rintro e w1 ⟨rfl, hm, b1⟩
  go_wp2_with fail
  refine (like_any 58 (by omega) _).mono ?_
  rintro e w2 ⟨rfl, rfl⟩
  rw [hl.out]
  have hk := look w1 _ 58 (by decide) (by decide) hm (r := some (2, FV 73)) rfl
  simp only [gotF, Option.isSome] at hk
  have H1 := h.below b1
  have B1 := But.of (B := B) b1
  clear hl hm b1 h
  have c1 := H1.count
  have hp : (rowsO none).length = 0 := rfl
  rw [hp] at c1
  clear hp
  go_wp2_with fail
  refine (next_at _ B none _ H1).mono ?_
  rintro e w2 ⟨rfl, H2, b2⟩
  go_wp2_with fail
  refine (sub_at _ B PS.start (.int .u8 58) H2).mono ?_
  rintro e w3 ⟨rfl, H3, b3⟩
  go_wp2
  go_ret
  exact ⟨rfl, H3, (B1.trans b2).trans b3⟩

theorem byte_at (w : World) (B : Nat) (s : Option PS) (c : UInt8) (hg : good c) (h : LAt w B s) :
    Calls Tryd.prog 44 #[.pointer (some ⟨B, 0, none⟩), .int .u8 (c.toNat : Nat)] w fun e w' => e = .returned (.bool true) ∧ LAt w' B (stepO s c) ∧ But B w w' := by
  obtain ⟨h48, h59⟩ := hg
  cases s with
  | none =>
    by_cases e59 : c.toNat = 59
    · have := byte_nxt_none w B c.toNat e59 h
      simpa only [stepO, PS.byte, Option.getD_none, if_pos e59] using this
    · by_cases e58 : c.toNat = 58
      · have := byte_sub_none w B c.toNat e58 h
        simpa only [stepO, PS.byte, Option.getD_none, if_neg e59, if_pos e58] using this
      · have := byte_dig_none w B c.toNat h48 (by omega) h
        simpa only [stepO, PS.byte, Option.getD_none, if_neg e59, if_neg e58] using this
  | some S =>
    by_cases e59 : c.toNat = 59
    · have := byte_nxt_some w B c.toNat S e59 h
      simpa only [stepO, PS.byte, Option.getD_some, if_pos e59] using this
    · by_cases e58 : c.toNat = 58
      · have := byte_sub_some w B c.toNat S e58 h
        simpa only [stepO, PS.byte, Option.getD_some, if_neg e59, if_pos e58] using this
      · have := byte_dig_some w B c.toNat S h48 (by omega) h
        simpa only [stepO, PS.byte, Option.getD_some, if_neg e59, if_neg e58] using this
end Go.Proofs.YtlmhnebgkginkaaDoor.Lab
