/- every: whether all of a row are what is asked; between, data, params. -/
import Derived.Test.YtclaopidjfekmaaDoorToSmall
namespace Go.Proofs.YtclaopidjfekmaaDoor.Lab
open Go.RowKit

/-- A row of bytes. -/
def BytesAt (w : World) (v : Value) (l : List UInt8) : Prop :=
  ∃ a c, v = .slice a l.length c ∧ l.length ≤ maxLen ∧ (0 < l.length → ∃ g o, a = some ⟨g, o, none⟩ ∧ ∀ j, j < l.length → w.cell? ⟨g, o + j, none⟩ = some (.int .u8 ((l.getD j 0).toNat : Nat)))
theorem bytes_made (w : World) (s : ByteArray) (hs : s.size ≤ maxLen) (C : Nat) (T : TypeId) : BytesAt (w.drew.alloc (.cells (bytesRow s C) T ((bytesRow s C).size, (bytesRow s C).size + 1))) (.slice (some ⟨w.heap.size, 0, none⟩) s.size C) (bl s) := by
  have hl : (bl s).length = s.size := by simp [bl]
  refine ⟨_, C, by rw [hl], by omega, fun _ => ⟨_, _, rfl, fun j hj => ?_⟩⟩
  rw [Nat.zero_add]
  have hj' : j < s.data.size := by simpa [bl] using hj
  have e := World.cell?_alloc_mark w.drew (bytesRow s C) T ((bytesRow s C).size, (bytesRow s C).size + 1) j
  rw [show (⟨w.drew.heap.size, j, none⟩ : Addr) = ⟨w.heap.size, j, none⟩ from rfl] at e
  rw [e, bytesRow_at s C j hj', List.getD_eq_getElem?_getD, List.getElem?_eq_getElem hj]
  rfl

def dat1 (c : UInt8) : Bool := decide (32 ≤ c.toNat ∧ c.toNat ≠ 127)
def int1 (c : UInt8) : Bool := decide (32 ≤ c.toNat ∧ c.toNat ≤ 47)
set_option maxHeartbeats 1000000 in
theorem int1_any (c : UInt8) (w : World) : Calls Tryd.prog 63 #[.int .u8 (c.toNat : Nat)] w fun e w' => e = .returned (.bool (int1 c)) ∧ w = w' := by
  have HB := Lib.hid (show btw 32 47 (c.toNat : Nat) = int1 c by rw [btw, int1, Bool.eq_iff_iff]; simp; omega)
  go_enter Tryd.func63, Tryd.ntmps63
  go_wp2_with fail
  refine (within_u8 _ _ _ _).mono ?_
  rintro e w' ⟨rfl, rfl⟩
  rw [HB.out]
  go_wp2
  go_ret
  exact ⟨rfl, rfl⟩
set_option maxHeartbeats 1000000 in
theorem dat1_any (c : UInt8) (w : World) : Calls Tryd.prog 65 #[.int .u8 (c.toNat : Nat)] w fun e w' => e = .returned (.bool (dat1 c)) ∧ w = w' := by
  have HB := Lib.hid (show dat1 c = decide (32 ≤ c.toNat ∧ c.toNat ≠ 127) from rfl)
  generalize c.toNat = n at *
  by_cases h1 : (32 : Int) ≤ (n : Int)
  · by_cases h2 : n = 127
    · subst h2
      go_enter Tryd.func65, Tryd.ntmps65
      go_wp2
      go_ret
      exact ⟨by rw [HB.out]; rfl, rfl⟩
    · have e2 : ((n : Int) != 127) = true := by simp; omega
      go_enter Tryd.func65, Tryd.ntmps65
      go_wp2
      go_ret
      exact ⟨by rw [HB.out, decide_eq_true (by omega)]; rfl, rfl⟩
  · have d1 : decide ((32 : Int) ≤ (n : Int)) = false := by simpa using h1
    go_enter Tryd.func65, Tryd.ntmps65
    go_wp2
    go_ret
    exact ⟨by rw [HB.out, decide_eq_false (by omega)]; rfl, rfl⟩
def num1 (x : Int) : Bool := btw (-1) 65535 x
set_option maxHeartbeats 1000000 in
theorem num1_any (x : Int) (w : World) : Calls Tryd.prog 79 #[.int .i64 x] w fun e w' => e = .returned (.bool (num1 x)) ∧ w = w' := by
  have HB := Lib.hid (show btw (-1) 65535 x = num1 x from rfl)
  go_enter Tryd.func79, Tryd.ntmps79
  go_wp2_with fail
  refine (within_i64 _ _ _ _).mono ?_
  rintro e w' ⟨rfl, rfl⟩
  rw [HB.out]
  go_wp2
  go_ret
  exact ⟨rfl, rfl⟩

set_option maxHeartbeats 2000000 in
theorem every_int (v : Value) (l : List UInt8) (w : World) (hM : BytesAt w v l) : Calls Tryd.prog 62 #[v, .func (.func 63) #[] #[]] w fun e w' => e = .returned (.bool (l.all int1)) ∧ w = w' := by
  obtain ⟨a, cp, rfl, hm, hc⟩ := hM
  unfold maxLen at hm
  obtain ⟨n, hn⟩ : ∃ n, l.length = n := ⟨_, rfl⟩
  rw [hn] at hc hm ⊢
  have HC := Lib.hid hc
  have HN := Lib.hid hn
  clear hc hn
  go_enter Tryd.func62, Tryd.ntmps62
  go_wp2
  go_loop [9] (fun i => ∃ k : Nat, k ≤ n ∧ i = .int .i64 k ∧ Hid ((l.take k).all int1 = true)) (fun i => n - (intOf i).toNat)
  case atStart => exact ⟨0, Nat.zero_le _, rfl, Lib.hid (by simp)⟩
  case round =>
    obtain ⟨k, hk, rfl, HA⟩ := hrel
    by_cases hlt : k < n
    · obtain ⟨g, o, ha, hcell⟩ := HC.out (by omega)
      have c1 := hcell k hlt
      obtain ⟨x, hx⟩ : ∃ x, l.getD k 0 = x := ⟨_, rfl⟩
      rw [hx] at c1
      have HX := Lib.hid (show l.take (k + 1) = l.take k ++ [x] by
        have hkl : k < l.length := by rw [HN.out]; exact hlt
        rw [List.take_succ_eq_append_getElem hkl, ← hx, List.getD_eq_getElem?_getD, List.getElem?_eq_getElem hkl]
        rfl)
      have HE := Lib.hid (show x ∈ l by
        rw [← hx]
        have hkl : k < l.length := by rw [HN.out]; exact hlt
        rw [List.getD_eq_getElem?_getD, List.getElem?_eq_getElem hkl]
        exact List.getElem_mem hkl)
      clear hcell hx
      subst ha
      obtain ⟨q, hq⟩ : ∃ q, int1 x = q := ⟨_, rfl⟩
      have HQ := Lib.hid hq
      clear hq
      cases q
      · go_wp2_with fail
        refine (int1_any _ _).mono ?_
        rintro e w' ⟨rfl, rfl⟩
        rw [HQ.out]
        go_wp2
        go_ret
        refine ⟨?_, rfl⟩
        have : l.all int1 = false := by
          rw [List.all_eq_false]
          exact ⟨x, HE.out, by rw [HQ.out]; simp⟩
        rw [this]
        rfl
      · go_wp2_with fail
        refine (int1_any _ _).mono ?_
        rintro e w' ⟨rfl, rfl⟩
        rw [HQ.out]
        go_wp2
        go_round
        case rel => exact ⟨k + 1, by omega, by go_num, Lib.hid (by rw [HX.out, List.all_append, HA.out]; simp [HQ.out])⟩
        case measure => simp [intOf]; omega
    · go_wp2
      go_ret
      refine ⟨?_, rfl⟩
      have := HA.out
      rw [List.take_of_length_le (by rw [HN.out]; omega)] at this
      rw [this]
      rfl

set_option maxHeartbeats 2000000 in
theorem every_dat (v : Value) (l : List UInt8) (w : World) (hM : BytesAt w v l) : Calls Tryd.prog 62 #[v, .func (.func 65) #[] #[]] w fun e w' => e = .returned (.bool (l.all dat1)) ∧ w = w' := by
  obtain ⟨a, cp, rfl, hm, hc⟩ := hM
  unfold maxLen at hm
  obtain ⟨n, hn⟩ : ∃ n, l.length = n := ⟨_, rfl⟩
  rw [hn] at hc hm ⊢
  have HC := Lib.hid hc
  have HN := Lib.hid hn
  clear hc hn
  go_enter Tryd.func62, Tryd.ntmps62
  go_wp2
  go_loop [9] (fun i => ∃ k : Nat, k ≤ n ∧ i = .int .i64 k ∧ Hid ((l.take k).all dat1 = true)) (fun i => n - (intOf i).toNat)
  case atStart => exact ⟨0, Nat.zero_le _, rfl, Lib.hid (by simp)⟩
  case round =>
    obtain ⟨k, hk, rfl, HA⟩ := hrel
    by_cases hlt : k < n
    · obtain ⟨g, o, ha, hcell⟩ := HC.out (by omega)
      have c1 := hcell k hlt
      obtain ⟨x, hx⟩ : ∃ x, l.getD k 0 = x := ⟨_, rfl⟩
      rw [hx] at c1
      have HX := Lib.hid (show l.take (k + 1) = l.take k ++ [x] by
        have hkl : k < l.length := by rw [HN.out]; exact hlt
        rw [List.take_succ_eq_append_getElem hkl, ← hx, List.getD_eq_getElem?_getD, List.getElem?_eq_getElem hkl]
        rfl)
      have HE := Lib.hid (show x ∈ l by
        rw [← hx]
        have hkl : k < l.length := by rw [HN.out]; exact hlt
        rw [List.getD_eq_getElem?_getD, List.getElem?_eq_getElem hkl]
        exact List.getElem_mem hkl)
      clear hcell hx
      subst ha
      obtain ⟨q, hq⟩ : ∃ q, dat1 x = q := ⟨_, rfl⟩
      have HQ := Lib.hid hq
      clear hq
      cases q
      · go_wp2_with fail
        refine (dat1_any _ _).mono ?_
        rintro e w' ⟨rfl, rfl⟩
        rw [HQ.out]
        go_wp2
        go_ret
        refine ⟨?_, rfl⟩
        have : l.all dat1 = false := by
          rw [List.all_eq_false]
          exact ⟨x, HE.out, by rw [HQ.out]; simp⟩
        rw [this]
        rfl
      · go_wp2_with fail
        refine (dat1_any _ _).mono ?_
        rintro e w' ⟨rfl, rfl⟩
        rw [HQ.out]
        go_wp2
        go_round
        case rel => exact ⟨k + 1, by omega, by go_num, Lib.hid (by rw [HX.out, List.all_append, HA.out]; simp [HQ.out])⟩
        case measure => simp [intOf]; omega
    · go_wp2
      go_ret
      refine ⟨?_, rfl⟩
      have := HA.out
      rw [List.take_of_length_le (by rw [HN.out]; omega)] at this
      rw [this]
      rfl

set_option maxHeartbeats 2000000 in
theorem every_num (v : Value) (l : List Int) (w : World) (hM : NumsAt w v l) : Calls Tryd.prog 78 #[v, .func (.func 79) #[] #[]] w fun e w' => e = .returned (.bool (l.all num1)) ∧ w = w' := by
  obtain ⟨a, cp, rfl, hm, hc⟩ := hM
  unfold maxLen at hm
  obtain ⟨n, hn⟩ : ∃ n, l.length = n := ⟨_, rfl⟩
  rw [hn] at hc hm ⊢
  have HC := Lib.hid hc
  have HN := Lib.hid hn
  clear hc hn
  go_enter Tryd.func78, Tryd.ntmps78
  go_wp2
  go_loop [9] (fun i => ∃ k : Nat, k ≤ n ∧ i = .int .i64 k ∧ Hid ((l.take k).all num1 = true)) (fun i => n - (intOf i).toNat)
  case atStart => exact ⟨0, Nat.zero_le _, rfl, Lib.hid (by simp)⟩
  case round =>
    obtain ⟨k, hk, rfl, HA⟩ := hrel
    by_cases hlt : k < n
    · obtain ⟨g, o, ha, hcell⟩ := HC.out (by omega)
      have c1 := hcell k hlt
      obtain ⟨x, hx⟩ : ∃ x, l.getD k 0 = x := ⟨_, rfl⟩
      rw [hx] at c1
      have HX := Lib.hid (show l.take (k + 1) = l.take k ++ [x] by
        have hkl : k < l.length := by rw [HN.out]; exact hlt
        rw [List.take_succ_eq_append_getElem hkl, ← hx, List.getD_eq_getElem?_getD, List.getElem?_eq_getElem hkl]
        rfl)
      have HE := Lib.hid (show x ∈ l by
        rw [← hx]
        have hkl : k < l.length := by rw [HN.out]; exact hlt
        rw [List.getD_eq_getElem?_getD, List.getElem?_eq_getElem hkl]
        exact List.getElem_mem hkl)
      clear hcell hx
      subst ha
      obtain ⟨q, hq⟩ : ∃ q, num1 x = q := ⟨_, rfl⟩
      have HQ := Lib.hid hq
      clear hq
      cases q
      · go_wp2_with fail
        refine (num1_any _ _).mono ?_
        rintro e w' ⟨rfl, rfl⟩
        rw [HQ.out]
        go_wp2
        go_ret
        refine ⟨?_, rfl⟩
        have : l.all num1 = false := by
          rw [List.all_eq_false]
          exact ⟨x, HE.out, by rw [HQ.out]; simp⟩
        rw [this]
        rfl
      · go_wp2_with fail
        refine (num1_any _ _).mono ?_
        rintro e w' ⟨rfl, rfl⟩
        rw [HQ.out]
        go_wp2
        go_round
        case rel => exact ⟨k + 1, by omega, by go_num, Lib.hid (by rw [HX.out, List.all_append, HA.out]; simp [HQ.out])⟩
        case measure => simp [intOf]; omega
    · go_wp2
      go_ret
      refine ⟨?_, rfl⟩
      have := HA.out
      rw [List.take_of_length_le (by rw [HN.out]; omega)] at this
      rw [this]
      rfl
end Go.Proofs.YtclaopidjfekmaaDoor.Lab
