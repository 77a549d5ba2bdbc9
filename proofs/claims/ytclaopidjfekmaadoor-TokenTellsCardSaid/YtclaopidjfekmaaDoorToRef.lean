/- The document's answer: which runes have a sequence, what bytes may be, what a token has besides. -/
import Derived.Test.YtclaopidjfekmaaDoorToWorks
namespace Go.Proofs.YtclaopidjfekmaaDoor.Lab
open Go Go.RowKit

set_option maxHeartbeats 1000000 in
theorem ris_any (r : Int) (w : World) : Calls Tryd.prog 28 #[.int .i32 r] w fun e w' => e = .returned (.bool (Utf8.valid r)) ∧ w = w' := by
  have HV := Lib.hid (show Utf8.valid r = decide ((0 ≤ r ∧ r < 55296) ∨ (57344 ≤ r ∧ r ≤ 1114111)) by
    rw [Bool.eq_iff_iff]
    simp [Utf8.valid])
  by_cases h0 : 0 ≤ r
  · by_cases h1 : r ≤ 1114111
    · by_cases h2 : r < 55296
      · go_enter Tryd.func28, Tryd.ntmps28
        go_wp2
        go_ret
        exact ⟨by rw [HV.out, decide_eq_true (by omega)]; rfl, rfl⟩
      · by_cases h3 : 57343 < r
        · go_enter Tryd.func28, Tryd.ntmps28
          go_wp2
          go_ret
          exact ⟨by rw [HV.out, decide_eq_true (by omega)]; rfl, rfl⟩
        · go_enter Tryd.func28, Tryd.ntmps28
          go_wp2
          go_ret
          exact ⟨by rw [HV.out, decide_eq_false (by omega)]; rfl, rfl⟩
    · go_enter Tryd.func28, Tryd.ntmps28
      go_wp2
      go_ret
      exact ⟨by rw [HV.out, decide_eq_false (by omega)]; rfl, rfl⟩
  · go_enter Tryd.func28, Tryd.ntmps28
    go_wp2
    go_ret
    exact ⟨by rw [HV.out, decide_eq_false (by omega)]; rfl, rfl⟩

theorem bl_at (s : ByteArray) (k : Nat) (h : k < s.size) : (bl s).take (k + 1) = (bl s).take k ++ [s[k]] ∧ s[k] ∈ bl s := by
  have h' : k < (bl s).length := by simpa [bl] using h
  have e : (bl s)[k] = s[k] := by simp [bl]; rfl
  refine ⟨?_, ?_⟩
  · rw [List.take_succ_eq_append_getElem h', e]
  · rw [← e]
    exact List.getElem_mem h'
theorem bl_len (s : ByteArray) : (bl s).length = s.size := by simp [bl]
def allI (s : ByteArray) : Bool := (bl s).all int1

set_option maxHeartbeats 2000000 in
set_option maxRecDepth 100000 in
theorem rwithin_any (s : ByteArray) (w : World) (hs : s.size ≤ maxLen) : Calls Tryd.prog 58 #[.string s, .int .u8 32, .int .u8 47] w fun e w' => e = .returned (.bool (allI s)) ∧ w = w' := by
  unfold maxLen at hs
  go_enter Tryd.func58, Tryd.ntmps58
  go_wp2
  go_loop [7] (fun i => ∃ k : Nat, k ≤ s.size ∧ i = .int .i64 k ∧ Hid (((bl s).take k).all int1 = true)) (fun i => s.size - (intOf i).toNat)
  case atStart => exact ⟨0, Nat.zero_le _, rfl, Lib.hid rfl⟩
  case round =>
    obtain ⟨k, hk, rfl, HA⟩ := hrel
    by_cases hlt : k < s.size
    · have HX := Lib.hid (bl_at s k hlt)
      have HP := Lib.hid (show int1 s[k] = decide (32 ≤ s[k].toNat ∧ s[k].toNat ≤ 47) from rfl)
      have hb : s[k].toNat < 256 := s[k].toNat_lt
      by_cases h1 : s[k].toNat < 32
      · have f1 : decide ((s[k].toNat : Int) < 32) = true := by simp; omega
        go_wp2
        go_ret
        refine ⟨?_, rfl⟩
        have : (bl s).all int1 = false := by
          rw [List.all_eq_false]
          exact ⟨_, HX.out.2, by rw [HP.out]; simp; omega⟩
        rw [allI, this]
        rfl
      · by_cases h2 : 47 < s[k].toNat
        · have f1 : decide ((s[k].toNat : Int) < 32) = false := by simp; omega
          have f2 : decide ((47 : Int) < (s[k].toNat : Int)) = true := by simp; omega
          go_wp2
          go_ret
          refine ⟨?_, rfl⟩
          have : (bl s).all int1 = false := by
            rw [List.all_eq_false]
            exact ⟨_, HX.out.2, by rw [HP.out]; simp; omega⟩
          rw [allI, this]
          rfl
        · have f1 : decide ((s[k].toNat : Int) < 32) = false := by simp; omega
          have f2 : decide ((47 : Int) < (s[k].toNat : Int)) = false := by simp; omega
          go_wp2
          go_round
          case rel => exact ⟨k + 1, by omega, by go_num, Lib.hid (by rw [HX.out.1, List.all_append, HA.out, List.all_cons, HP.out, decide_eq_true (by omega)]; rfl)⟩
          case measure => simp [intOf]; omega
    · have HAll := Lib.hid (show (bl s).all int1 = true by
        have := HA.out
        rwa [List.take_of_length_le (by rw [bl_len]; omega)] at this)
      go_wp2
      go_ret
      exact ⟨by rw [allI, HAll.out]; rfl, rfl⟩

set_option maxHeartbeats 2000000 in
set_option maxRecDepth 100000 in
theorem rdata_any (s : ByteArray) (w : World) (hs : s.size ≤ maxLen) : Calls Tryd.prog 31 #[.string s] w fun e w' => e = .returned (.bool (datB s)) ∧ w = w' := by
  unfold maxLen at hs
  go_enter Tryd.func31, Tryd.ntmps31
  go_wp2
  go_loop [3] (fun i => ∃ k : Nat, k ≤ s.size ∧ i = .int .i64 k ∧ Hid (((bl s).take k).all dat1 = true)) (fun i => s.size - (intOf i).toNat)
  case atStart => exact ⟨0, Nat.zero_le _, rfl, Lib.hid rfl⟩
  case round =>
    obtain ⟨k, hk, rfl, HA⟩ := hrel
    by_cases hlt : k < s.size
    · have HX := Lib.hid (bl_at s k hlt)
      have HP := Lib.hid (show dat1 s[k] = decide (32 ≤ s[k].toNat ∧ s[k].toNat ≠ 127) from rfl)
      have hb : s[k].toNat < 256 := s[k].toNat_lt
      by_cases h1 : s[k].toNat < 32
      · have f1 : decide ((s[k].toNat : Int) < 32) = true := by simp; omega
        go_wp2
        go_ret
        refine ⟨?_, rfl⟩
        have : (bl s).all dat1 = false := by
          rw [List.all_eq_false]
          exact ⟨_, HX.out.2, by rw [HP.out]; simp; omega⟩
        rw [datB, this, Bool.and_false]
        rfl
      · by_cases h2 : s[k].toNat = 127
        · have f1 : decide ((s[k].toNat : Int) < 32) = false := by simp; omega
          have f2 : ((s[k].toNat : Int) == 127) = true := by simp; omega
          go_wp2
          go_ret
          refine ⟨?_, rfl⟩
          have : (bl s).all dat1 = false := by
            rw [List.all_eq_false]
            exact ⟨_, HX.out.2, by rw [HP.out]; simp; omega⟩
          rw [datB, this, Bool.and_false]
          rfl
        · have f1 : decide ((s[k].toNat : Int) < 32) = false := by simp; omega
          have f2 : ((s[k].toNat : Int) == 127) = false := by simp; omega
          go_wp2
          go_round
          case rel => exact ⟨k + 1, by omega, by go_num, Lib.hid (by rw [HX.out.1, List.all_append, HA.out, List.all_cons, HP.out, decide_eq_true (by omega)]; rfl)⟩
          case measure => simp [intOf]; omega
    · have HAll := Lib.hid (show (bl s).all dat1 = true by
        have := HA.out
        rwa [List.take_of_length_le (by rw [bl_len]; omega)] at this)
      have HR := Lib.hid (show datB s = decide ((s.size : Int) ≤ 1024) by
        rw [datB, HAll.out, Bool.and_true, decide_eq_decide]
        omega)
      go_wp2
      go_ret
      exact ⟨by rw [HR.out]; rfl, rfl⟩

set_option maxHeartbeats 1000000 in
set_option maxRecDepth 100000 in
theorem rinter_any (s : ByteArray) (hs : s.size ≤ maxLen) (w : World) : Calls Tryd.prog 29 #[.string s] w fun e w' => e = .returned (.bool (intB s)) ∧ w = w' := by
  have HS := Lib.hid hs
  clear hs
  by_cases h2 : s.size ≤ 2
  · have HE := Lib.hid (show intB s = allI s by rw [intB, decide_eq_true h2]; rfl)
    go_enter Tryd.func29, Tryd.ntmps29
    go_wp2_with fail
    refine (rwithin_any s _ HS.out).mono ?_
    rintro e w2 ⟨rfl, rfl⟩
    rw [← HE.out]
    go_wp2
    go_ret
    exact ⟨rfl, rfl⟩
  · have HE := Lib.hid (show intB s = false by rw [intB, decide_eq_false h2]; rfl)
    have d2 : decide ((s.size : Int) ≤ 2) = false := by simp; omega
    go_enter Tryd.func29, Tryd.ntmps29
    go_wp2
    go_ret
    exact ⟨by rw [HE.out]; rfl, rfl⟩

def onlyP (p : Int) (f : Int) (vn : Nat) (i : ByteArray) (d : ByteArray) : Bool := decide (p = 0 ∧ vn = 0 ∧ i.toList.isEmpty = true ∧ f = 0 ∧ d.toList.isEmpty = true)

set_option maxHeartbeats 4000000 in
set_option maxRecDepth 100000 in
theorem onlyP_any (k r p f : Int) (va : Option Addr) (vn vc : Nat) (i d : ByteArray) (w : World) :
    Calls Tryd.prog 27 #[tok7 k r p (.slice va vn vc) i f d, .bool true, .bool false, .bool false, .bool false, .bool false] w fun e w' => e = .returned (.bool (onlyP p f vn i d)) ∧ Below w.heap.size w w' := by
  have HB := Lib.hid (show Below w.heap.size w (w.alloc (.cells #[.int .i64 k, .int .i32 r, .int .u8 p, .slice va vn vc, .string i, .int .u8 f, .string d] 27)) from (Below.refl _ _).alloc (Nat.le_refl _) _)
  by_cases h0 : p = 0
  case neg =>
    have e2 : (p == 0) = false := by simpa using h0
    have HX := Lib.hid h0
    clear h0
    go_enter Tryd.func27, Tryd.ntmps27
    go_wp2
    go_ret
    refine ⟨?_, HB.out⟩
    have e : onlyP p f vn i d = false := decide_eq_false (fun h => HX.out h.1)
    rw [e]
    rfl
  subst h0
  by_cases h1 : vn = 0
  case neg =>
    have e3 : ((vn : Int) == 0) = false := by simpa using h1
    have e3' : (vn == 0) = false := by simpa using h1
    have HX := Lib.hid h1
    clear h1
    go_enter Tryd.func27, Tryd.ntmps27
    go_wp2
    go_ret
    refine ⟨?_, HB.out⟩
    have e : onlyP 0 f vn i d = false := decide_eq_false (fun h => HX.out h.2.1)
    rw [e]
    rfl
  subst h1
  by_cases h2 : i.toList.isEmpty = true
  case neg =>
    have e4 : i.toList.isEmpty = false := by simpa using h2
    have HX := Lib.hid h2
    clear h2
    go_enter Tryd.func27, Tryd.ntmps27
    go_wp2
    go_ret
    refine ⟨?_, HB.out⟩
    have e : onlyP 0 f 0 i d = false := decide_eq_false (fun h => HX.out h.2.2.1)
    rw [e]
    rfl
  by_cases h3 : f = 0
  case neg =>
    have e5 : (f == 0) = false := by simpa using h3
    have HX := Lib.hid h3
    clear h3
    go_enter Tryd.func27, Tryd.ntmps27
    go_wp2
    go_ret
    refine ⟨?_, HB.out⟩
    have e : onlyP 0 f 0 i d = false := decide_eq_false (fun h => HX.out h.2.2.2.1)
    rw [e]
    rfl
  subst h3
  by_cases h4 : d.toList.isEmpty = true
  case neg =>
    have e6 : d.toList.isEmpty = false := by simpa using h4
    have HX := Lib.hid h4
    clear h4
    go_enter Tryd.func27, Tryd.ntmps27
    go_wp2
    go_ret
    refine ⟨?_, HB.out⟩
    have e : onlyP 0 0 0 i d = false := decide_eq_false (fun h => HX.out h.2.2.2.2)
    rw [e]
    rfl
  go_enter Tryd.func27, Tryd.ntmps27
  go_wp2
  go_ret
  refine ⟨?_, HB.out⟩
  have e : onlyP 0 0 0 i d = true := decide_eq_true ⟨rfl, rfl, h2, rfl, h4⟩
  rw [e]
  rfl

def onlyC (r : Int) (p : Int) (vn : Nat) (i : ByteArray) (d : ByteArray) : Bool := decide (r = 0 ∧ p = 0 ∧ vn = 0 ∧ i.toList.isEmpty = true ∧ d.toList.isEmpty = true)

set_option maxHeartbeats 4000000 in
set_option maxRecDepth 100000 in
theorem onlyC_any (k r p f : Int) (va : Option Addr) (vn vc : Nat) (i d : ByteArray) (w : World) :
    Calls Tryd.prog 27 #[tok7 k r p (.slice va vn vc) i f d, .bool false, .bool false, .bool false, .bool true, .bool false] w fun e w' => e = .returned (.bool (onlyC r p vn i d)) ∧ Below w.heap.size w w' := by
  have HB := Lib.hid (show Below w.heap.size w (w.alloc (.cells #[.int .i64 k, .int .i32 r, .int .u8 p, .slice va vn vc, .string i, .int .u8 f, .string d] 27)) from (Below.refl _ _).alloc (Nat.le_refl _) _)
  by_cases h0 : r = 0
  case neg =>
    have e1 : (r == 0) = false := by simpa using h0
    have HX := Lib.hid h0
    clear h0
    go_enter Tryd.func27, Tryd.ntmps27
    go_wp2
    go_ret
    refine ⟨?_, HB.out⟩
    have e : onlyC r p vn i d = false := decide_eq_false (fun h => HX.out h.1)
    rw [e]
    rfl
  subst h0
  by_cases h1 : p = 0
  case neg =>
    have e2 : (p == 0) = false := by simpa using h1
    have HX := Lib.hid h1
    clear h1
    go_enter Tryd.func27, Tryd.ntmps27
    go_wp2
    go_ret
    refine ⟨?_, HB.out⟩
    have e : onlyC 0 p vn i d = false := decide_eq_false (fun h => HX.out h.2.1)
    rw [e]
    rfl
  subst h1
  by_cases h2 : vn = 0
  case neg =>
    have e3 : ((vn : Int) == 0) = false := by simpa using h2
    have e3' : (vn == 0) = false := by simpa using h2
    have HX := Lib.hid h2
    clear h2
    go_enter Tryd.func27, Tryd.ntmps27
    go_wp2
    go_ret
    refine ⟨?_, HB.out⟩
    have e : onlyC 0 0 vn i d = false := decide_eq_false (fun h => HX.out h.2.2.1)
    rw [e]
    rfl
  subst h2
  by_cases h3 : i.toList.isEmpty = true
  case neg =>
    have e4 : i.toList.isEmpty = false := by simpa using h3
    have HX := Lib.hid h3
    clear h3
    go_enter Tryd.func27, Tryd.ntmps27
    go_wp2
    go_ret
    refine ⟨?_, HB.out⟩
    have e : onlyC 0 0 0 i d = false := decide_eq_false (fun h => HX.out h.2.2.2.1)
    rw [e]
    rfl
  by_cases h4 : d.toList.isEmpty = true
  case neg =>
    have e6 : d.toList.isEmpty = false := by simpa using h4
    have HX := Lib.hid h4
    clear h4
    go_enter Tryd.func27, Tryd.ntmps27
    go_wp2
    go_ret
    refine ⟨?_, HB.out⟩
    have e : onlyC 0 0 0 i d = false := decide_eq_false (fun h => HX.out h.2.2.2.2)
    rw [e]
    rfl
  go_enter Tryd.func27, Tryd.ntmps27
  go_wp2
  go_ret
  refine ⟨?_, HB.out⟩
  have e : onlyC 0 0 0 i d = true := decide_eq_true ⟨rfl, rfl, rfl, h3, h4⟩
  rw [e]
  rfl

def onlyE (r : Int) (p : Int) (vn : Nat) (d : ByteArray) : Bool := decide (r = 0 ∧ p = 0 ∧ vn = 0 ∧ d.toList.isEmpty = true)

set_option maxHeartbeats 4000000 in
set_option maxRecDepth 100000 in
theorem onlyE_any (k r p f : Int) (va : Option Addr) (vn vc : Nat) (i d : ByteArray) (w : World) :
    Calls Tryd.prog 27 #[tok7 k r p (.slice va vn vc) i f d, .bool false, .bool false, .bool true, .bool true, .bool false] w fun e w' => e = .returned (.bool (onlyE r p vn d)) ∧ Below w.heap.size w w' := by
  have HB := Lib.hid (show Below w.heap.size w (w.alloc (.cells #[.int .i64 k, .int .i32 r, .int .u8 p, .slice va vn vc, .string i, .int .u8 f, .string d] 27)) from (Below.refl _ _).alloc (Nat.le_refl _) _)
  by_cases h0 : r = 0
  case neg =>
    have e1 : (r == 0) = false := by simpa using h0
    have HX := Lib.hid h0
    clear h0
    go_enter Tryd.func27, Tryd.ntmps27
    go_wp2
    go_ret
    refine ⟨?_, HB.out⟩
    have e : onlyE r p vn d = false := decide_eq_false (fun h => HX.out h.1)
    rw [e]
    rfl
  subst h0
  by_cases h1 : p = 0
  case neg =>
    have e2 : (p == 0) = false := by simpa using h1
    have HX := Lib.hid h1
    clear h1
    go_enter Tryd.func27, Tryd.ntmps27
    go_wp2
    go_ret
    refine ⟨?_, HB.out⟩
    have e : onlyE 0 p vn d = false := decide_eq_false (fun h => HX.out h.2.1)
    rw [e]
    rfl
  subst h1
  by_cases h2 : vn = 0
  case neg =>
    have e3 : ((vn : Int) == 0) = false := by simpa using h2
    have e3' : (vn == 0) = false := by simpa using h2
    have HX := Lib.hid h2
    clear h2
    go_enter Tryd.func27, Tryd.ntmps27
    go_wp2
    go_ret
    refine ⟨?_, HB.out⟩
    have e : onlyE 0 0 vn d = false := decide_eq_false (fun h => HX.out h.2.2.1)
    rw [e]
    rfl
  subst h2
  by_cases h3 : d.toList.isEmpty = true
  case neg =>
    have e6 : d.toList.isEmpty = false := by simpa using h3
    have HX := Lib.hid h3
    clear h3
    go_enter Tryd.func27, Tryd.ntmps27
    go_wp2
    go_ret
    refine ⟨?_, HB.out⟩
    have e : onlyE 0 0 0 d = false := decide_eq_false (fun h => HX.out h.2.2.2)
    rw [e]
    rfl
  go_enter Tryd.func27, Tryd.ntmps27
  go_wp2
  go_ret
  refine ⟨?_, HB.out⟩
  have e : onlyE 0 0 0 d = true := decide_eq_true ⟨rfl, rfl, rfl, h3⟩
  rw [e]
  rfl

def onlyS (r : Int) (d : ByteArray) : Bool := decide (r = 0 ∧ d.toList.isEmpty = true)

set_option maxHeartbeats 4000000 in
set_option maxRecDepth 100000 in
theorem onlyS_any (k r p f : Int) (va : Option Addr) (vn vc : Nat) (i d : ByteArray) (w : World) :
    Calls Tryd.prog 27 #[tok7 k r p (.slice va vn vc) i f d, .bool false, .bool true, .bool true, .bool true, .bool false] w fun e w' => e = .returned (.bool (onlyS r d)) ∧ Below w.heap.size w w' := by
  have HB := Lib.hid (show Below w.heap.size w (w.alloc (.cells #[.int .i64 k, .int .i32 r, .int .u8 p, .slice va vn vc, .string i, .int .u8 f, .string d] 27)) from (Below.refl _ _).alloc (Nat.le_refl _) _)
  by_cases h0 : r = 0
  case neg =>
    have e1 : (r == 0) = false := by simpa using h0
    have HX := Lib.hid h0
    clear h0
    go_enter Tryd.func27, Tryd.ntmps27
    go_wp2
    go_ret
    refine ⟨?_, HB.out⟩
    have e : onlyS r d = false := decide_eq_false (fun h => HX.out h.1)
    rw [e]
    rfl
  subst h0
  by_cases h1 : d.toList.isEmpty = true
  case neg =>
    have e6 : d.toList.isEmpty = false := by simpa using h1
    have HX := Lib.hid h1
    clear h1
    go_enter Tryd.func27, Tryd.ntmps27
    go_wp2
    go_ret
    refine ⟨?_, HB.out⟩
    have e : onlyS 0 d = false := decide_eq_false (fun h => HX.out h.2)
    rw [e]
    rfl
  go_enter Tryd.func27, Tryd.ntmps27
  go_wp2
  go_ret
  refine ⟨?_, HB.out⟩
  have e : onlyS 0 d = true := decide_eq_true ⟨rfl, h1⟩
  rw [e]
  rfl

def onlyD (r : Int) : Bool := decide (r = 0)

set_option maxHeartbeats 4000000 in
set_option maxRecDepth 100000 in
theorem onlyD_any (k r p f : Int) (va : Option Addr) (vn vc : Nat) (i d : ByteArray) (w : World) :
    Calls Tryd.prog 27 #[tok7 k r p (.slice va vn vc) i f d, .bool false, .bool true, .bool true, .bool true, .bool true] w fun e w' => e = .returned (.bool (onlyD r)) ∧ Below w.heap.size w w' := by
  have HB := Lib.hid (show Below w.heap.size w (w.alloc (.cells #[.int .i64 k, .int .i32 r, .int .u8 p, .slice va vn vc, .string i, .int .u8 f, .string d] 27)) from (Below.refl _ _).alloc (Nat.le_refl _) _)
  by_cases h0 : r = 0
  case neg =>
    have e1 : (r == 0) = false := by simpa using h0
    have HX := Lib.hid h0
    clear h0
    go_enter Tryd.func27, Tryd.ntmps27
    go_wp2
    go_ret
    refine ⟨?_, HB.out⟩
    have e : onlyD r = false := decide_eq_false (fun h => HX.out h)
    rw [e]
    rfl
  subst h0
  go_enter Tryd.func27, Tryd.ntmps27
  go_wp2
  go_ret
  refine ⟨?_, HB.out⟩
  have e : onlyD 0 = true := decide_eq_true rfl
  rw [e]
  rfl

def onlyO (r : Int) (p : Int) (f : Int) (vn : Nat) (i : ByteArray) : Bool := decide (r = 0 ∧ p = 0 ∧ vn = 0 ∧ i.toList.isEmpty = true ∧ f = 0)

set_option maxHeartbeats 4000000 in
set_option maxRecDepth 100000 in
theorem onlyO_any (k r p f : Int) (va : Option Addr) (vn vc : Nat) (i d : ByteArray) (w : World) :
    Calls Tryd.prog 27 #[tok7 k r p (.slice va vn vc) i f d, .bool false, .bool false, .bool false, .bool false, .bool true] w fun e w' => e = .returned (.bool (onlyO r p f vn i)) ∧ Below w.heap.size w w' := by
  have HB := Lib.hid (show Below w.heap.size w (w.alloc (.cells #[.int .i64 k, .int .i32 r, .int .u8 p, .slice va vn vc, .string i, .int .u8 f, .string d] 27)) from (Below.refl _ _).alloc (Nat.le_refl _) _)
  by_cases h0 : r = 0
  case neg =>
    have e1 : (r == 0) = false := by simpa using h0
    have HX := Lib.hid h0
    clear h0
    go_enter Tryd.func27, Tryd.ntmps27
    go_wp2
    go_ret
    refine ⟨?_, HB.out⟩
    have e : onlyO r p f vn i = false := decide_eq_false (fun h => HX.out h.1)
    rw [e]
    rfl
  subst h0
  by_cases h1 : p = 0
  case neg =>
    have e2 : (p == 0) = false := by simpa using h1
    have HX := Lib.hid h1
    clear h1
    go_enter Tryd.func27, Tryd.ntmps27
    go_wp2
    go_ret
    refine ⟨?_, HB.out⟩
    have e : onlyO 0 p f vn i = false := decide_eq_false (fun h => HX.out h.2.1)
    rw [e]
    rfl
  subst h1
  by_cases h2 : vn = 0
  case neg =>
    have e3 : ((vn : Int) == 0) = false := by simpa using h2
    have e3' : (vn == 0) = false := by simpa using h2
    have HX := Lib.hid h2
    clear h2
    go_enter Tryd.func27, Tryd.ntmps27
    go_wp2
    go_ret
    refine ⟨?_, HB.out⟩
    have e : onlyO 0 0 f vn i = false := decide_eq_false (fun h => HX.out h.2.2.1)
    rw [e]
    rfl
  subst h2
  by_cases h3 : i.toList.isEmpty = true
  case neg =>
    have e4 : i.toList.isEmpty = false := by simpa using h3
    have HX := Lib.hid h3
    clear h3
    go_enter Tryd.func27, Tryd.ntmps27
    go_wp2
    go_ret
    refine ⟨?_, HB.out⟩
    have e : onlyO 0 0 f 0 i = false := decide_eq_false (fun h => HX.out h.2.2.2.1)
    rw [e]
    rfl
  by_cases h4 : f = 0
  case neg =>
    have e5 : (f == 0) = false := by simpa using h4
    have HX := Lib.hid h4
    clear h4
    go_enter Tryd.func27, Tryd.ntmps27
    go_wp2
    go_ret
    refine ⟨?_, HB.out⟩
    have e : onlyO 0 0 f 0 i = false := decide_eq_false (fun h => HX.out h.2.2.2.2)
    rw [e]
    rfl
  subst h4
  go_enter Tryd.func27, Tryd.ntmps27
  go_wp2
  go_ret
  refine ⟨?_, HB.out⟩
  have e : onlyO 0 0 0 0 i = true := decide_eq_true ⟨rfl, rfl, rfl, h3, rfl⟩
  rw [e]
  rfl
end Go.Proofs.YtclaopidjfekmaaDoor.Lab
