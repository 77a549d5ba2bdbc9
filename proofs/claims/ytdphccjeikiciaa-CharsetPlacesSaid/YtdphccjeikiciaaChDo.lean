/- What a choice's methods answer, the program's and the reference's, for every choice, argument and memory. -/
import Derived.Test.YtdphccjeikiciaaChVal
namespace Go.Proofs.Ytdphccjeikiciaa.Lab
open Go.RowKit

set_option maxHeartbeats 2000000 in
theorem lock_any (k : Ch) (x : Int) (w : World) : Calls Try.prog 11 #[k.val, .int .u8 x] w fun e w' => e = .returned (.tuple #[(k.lock x).1.val, .bool (k.lock x).2]) ∧ Below w.heap.size w w' := by
  obtain ⟨a, b, c, d, l, s⟩ := k
  by_cases h1 : x = 15
  · subst h1
    go_enter Try.func11, Try.ntmps11
    go_wp2
    refine bodyPost_ret (by simp [results, Try.results11, go_sem]; rfl) rfl ⟨?_, ((Below.refl _ _).alloc (Nat.le_refl _) _).alloc (by simp) _⟩
    simp [Ch.lock, Ch.val]
  · by_cases h2 : x = 14
    · subst h2
      go_enter Try.func11, Try.ntmps11
      go_wp2
      refine bodyPost_ret (by simp [results, Try.results11, go_sem]; rfl) rfl ⟨?_, ((Below.refl _ _).alloc (Nat.le_refl _) _).alloc (by simp) _⟩
      simp [Ch.lock, Ch.val]
    · have e1 : (x != 15) = true := by simp [h1]
      have e2 : (x != 14) = true := by simp [h2]
      have e3 : (x == 14) = false := by simp [h2]
      have e4 : (x == 15) = false := by simp [h1]
      go_enter Try.func11, Try.ntmps11
      go_wp2
      refine bodyPost_ret (by simp [results, Try.results11, go_sem]; rfl) rfl ⟨?_, ((Below.refl _ _).alloc (Nat.le_refl _) _).alloc (by simp) _⟩
      simp [Ch.lock, Ch.val, h1, h2]

set_option maxHeartbeats 2000000 in
theorem one_any (k : Ch) (x : Int) (w : World) : Calls Try.prog 13 #[k.val, .int .i64 x] w fun e w' => e = .returned (.tuple #[(k.one x).1.val, .bool (k.one x).2]) ∧ Below w.heap.size w w' := by
  obtain ⟨a, b, c, d, l, s⟩ := k
  by_cases h1 : x = 2
  · subst h1
    go_enter Try.func13, Try.ntmps13
    go_wp2
    refine bodyPost_ret (by simp [results, Try.results13, go_sem]; rfl) rfl ⟨?_, ((Below.refl _ _).alloc (Nat.le_refl _) _).alloc (by simp) _⟩
    simp [Ch.one, Ch.val]
  · by_cases h2 : x = 3
    · subst h2
      go_enter Try.func13, Try.ntmps13
      go_wp2
      refine bodyPost_ret (by simp [results, Try.results13, go_sem]; rfl) rfl ⟨?_, ((Below.refl _ _).alloc (Nat.le_refl _) _).alloc (by simp) _⟩
      simp [Ch.one, Ch.val]
    · have e1 : (x != 2) = true := by simp [h1]
      have e2 : (x != 3) = true := by simp [h2]
      go_enter Try.func13, Try.ntmps13
      go_wp2
      refine bodyPost_ret (by simp [results, Try.results13, go_sem]; rfl) rfl ⟨?_, ((Below.refl _ _).alloc (Nat.le_refl _) _).alloc (by simp) _⟩
      simp [Ch.one, Ch.val, h1, h2]

set_option maxHeartbeats 2000000 in
theorem now_any (k : Ch) (w : World) : Calls Try.prog 18 #[k.val] w fun e w' => e = .returned (.int .i64 k.now) ∧ Below w.heap.size w w' := by
  obtain ⟨a, b, c, d, l, s⟩ := k
  by_cases h1 : s = 0
  · subst h1
    go_enter Try.func18, Try.ntmps18
    go_wp2
    go_ret
    exact ⟨by simp [Ch.now], (Below.refl _ _).alloc (Nat.le_refl _) _⟩
  · skip
    go_enter Try.func18, Try.ntmps18
    go_wp2
    go_ret
    exact ⟨by simp [Ch.now, h1], (Below.refl _ _).alloc (Nat.le_refl _) _⟩

set_option maxHeartbeats 2000000 in
theorem rlock_any (k : Ch) (x : Int) (w : World) : Calls Try.prog 12 #[k.val, .int .u8 x] w fun e w' => e = .returned (.tuple #[(k.lock x).1.val, .bool (k.lock x).2]) ∧ Below w.heap.size w w' := by
  obtain ⟨a, b, c, d, l, s⟩ := k
  by_cases h1 : x = 15
  · subst h1
    go_enter Try.func12, Try.ntmps12
    go_wp2
    refine bodyPost_ret (by simp [results, Try.results12, go_sem]; rfl) rfl ⟨?_, ((Below.refl _ _).alloc (Nat.le_refl _) _).alloc (by simp) _⟩
    simp [Ch.lock, Ch.val]
  · by_cases h2 : x = 14
    · subst h2
      go_enter Try.func12, Try.ntmps12
      go_wp2
      refine bodyPost_ret (by simp [results, Try.results12, go_sem]; rfl) rfl ⟨?_, ((Below.refl _ _).alloc (Nat.le_refl _) _).alloc (by simp) _⟩
      simp [Ch.lock, Ch.val]
    · have e1 : (x != 15) = true := by simp [h1]
      have e2 : (x != 14) = true := by simp [h2]
      have e3 : (x == 14) = false := by simp [h2]
      have e4 : (x == 15) = false := by simp [h1]
      go_enter Try.func12, Try.ntmps12
      go_wp2
      refine bodyPost_ret (by simp [results, Try.results12, go_sem]; rfl) rfl ⟨?_, ((Below.refl _ _).alloc (Nat.le_refl _) _).alloc (by simp) _⟩
      simp [Ch.lock, Ch.val, h1, h2]

set_option maxHeartbeats 2000000 in
theorem rone_any (k : Ch) (x : Int) (w : World) : Calls Try.prog 14 #[k.val, .int .i64 x] w fun e w' => e = .returned (.tuple #[(k.one x).1.val, .bool (k.one x).2]) ∧ Below w.heap.size w w' := by
  obtain ⟨a, b, c, d, l, s⟩ := k
  by_cases h1 : x = 2
  · subst h1
    go_enter Try.func14, Try.ntmps14
    go_wp2
    refine bodyPost_ret (by simp [results, Try.results14, go_sem]; rfl) rfl ⟨?_, ((Below.refl _ _).alloc (Nat.le_refl _) _).alloc (by simp) _⟩
    simp [Ch.one, Ch.val]
  · by_cases h2 : x = 3
    · subst h2
      go_enter Try.func14, Try.ntmps14
      go_wp2
      refine bodyPost_ret (by simp [results, Try.results14, go_sem]; rfl) rfl ⟨?_, ((Below.refl _ _).alloc (Nat.le_refl _) _).alloc (by simp) _⟩
      simp [Ch.one, Ch.val]
    · have e1 : (x != 2) = true := by simp [h1]
      have e2 : (x != 3) = true := by simp [h2]
      go_enter Try.func14, Try.ntmps14
      go_wp2
      refine bodyPost_ret (by simp [results, Try.results14, go_sem]; rfl) rfl ⟨?_, ((Below.refl _ _).alloc (Nat.le_refl _) _).alloc (by simp) _⟩
      simp [Ch.one, Ch.val, h1, h2]

set_option maxHeartbeats 2000000 in
theorem rnow_any (k : Ch) (w : World) (h : k.Ok) : Calls Try.prog 19 #[k.val] w fun e w' => e = .returned (.int .i64 k.now) ∧ Below w.heap.size w w' := by
  obtain ⟨a, b, c, d, l, s⟩ := k
  by_cases h1 : s = 0
  · subst h1
    go_enter Try.func19, Try.ntmps19
    go_wp2
    go_ret
    exact ⟨by simp [Ch.now], (Below.refl _ _).alloc (Nat.le_refl _) _⟩
  · have h2 : 0 < s := by have := h.1; simp only at this; omega
    clear h
    go_enter Try.func19, Try.ntmps19
    go_wp2
    go_ret
    exact ⟨by simp [Ch.now, h1], (Below.refl _ _).alloc (Nat.le_refl _) _⟩

set_option maxHeartbeats 2000000 in
theorem sets_any (k : Ch) (w : World) : Calls Try.prog 17 #[k.val] w fun e w' => e = .returned (k.sets) ∧ Below w.heap.size w w' := by
  obtain ⟨a, b, c, d, l, s⟩ := k
  go_enter Try.func17, Try.ntmps17
  go_wp2
  refine bodyPost_ret (by simp [results, Try.results17, go_sem]) rfl ⟨rfl, ((Below.refl _ _).alloc (Nat.le_refl _) _).alloc (by simp) _⟩

theorem named_any (f : Int) (w : World) : Calls Try.prog 24 #[.int .u8 f] w fun e w' => e = .returned (.tuple #[.int .i64 (setOf f), .bool (isSet f)]) ∧ w' = w := by
  by_cases h1 : f = 66
  · subst h1
    go_enter Try.func24, Try.ntmps24
    go_wp2
    go_ret2
    exact ⟨by simp [setOf, isSet], rfl⟩
  · by_cases h2 : f = 48
    · subst h2
      go_enter Try.func24, Try.ntmps24
      go_wp2
      go_ret2
      exact ⟨by simp [setOf, isSet], rfl⟩
    · by_cases h3 : f = 65
      · subst h3
        go_enter Try.func24, Try.ntmps24
        go_wp2
        go_ret2
        exact ⟨by simp [setOf, isSet], rfl⟩
      · skip
        go_enter Try.func24, Try.ntmps24
        go_wp2
        go_ret2
        exact ⟨by simp [setOf, isSet, h1, h2, h3], rfl⟩

set_option maxHeartbeats 2000000 in
theorem des_any (k : Ch) (p f : Int) (w : World) : Calls Try.prog 9 #[k.val, .int .i64 p, .int .u8 f] w fun e w' => e = .returned (.tuple #[(k.des p f).1.val, .bool (k.des p f).2]) ∧ Below w.heap.size w w' := by
  obtain ⟨a, b, c, d, l, s⟩ := k
  cases hq : isSet f
  · have HE := Lib.hid (show ((⟨a, b, c, d, l, s⟩ : Ch), false) = (⟨a, b, c, d, l, s⟩ : Ch).des p f by simp [Ch.des, hq])
    have HQ := Lib.hid hq
    clear hq
    go_enter Try.func9, Try.ntmps9
    go_wp2_with fail
    refine (named_any f _).mono ?_
    rintro e w5 ⟨rfl, rfl⟩
    rw [HQ.out]
    generalize setOf f = v at *
    go_wp2
    refine bodyPost_ret (by simp [results, Try.results9, go_sem]; rfl) rfl ⟨?_, ((Below.refl _ _).alloc (Nat.le_refl _) _).alloc (by simp) _⟩
    exact congrArg (fun q : Ch × Bool => Ending.returned (.tuple #[q.1.val, .bool q.2])) HE.out
  · have HQ := Lib.hid hq
    clear hq
    by_cases hp : p < 0
    · have HE := Lib.hid (show ((⟨a, b, c, d, l, s⟩ : Ch), false) = (⟨a, b, c, d, l, s⟩ : Ch).des p f by unfold Ch.des; rw [if_neg (by omega)])
      go_enter Try.func9, Try.ntmps9
      go_wp2_with fail
      refine (named_any f _).mono ?_
      rintro e w5 ⟨rfl, rfl⟩
      rw [HQ.out]
      generalize setOf f = v at *
      go_wp2
      refine bodyPost_ret (by simp [results, Try.results9, go_sem]; rfl) rfl ⟨?_, ((Below.refl _ _).alloc (Nat.le_refl _) _).alloc (by simp) _⟩
      exact congrArg (fun q : Ch × Bool => Ending.returned (.tuple #[q.1.val, .bool q.2])) HE.out
    · by_cases hp3 : 3 < p
      · have HE := Lib.hid (show ((⟨a, b, c, d, l, s⟩ : Ch), false) = (⟨a, b, c, d, l, s⟩ : Ch).des p f by unfold Ch.des; rw [if_neg (by omega)])
        go_enter Try.func9, Try.ntmps9
        go_wp2_with fail
        refine (named_any f _).mono ?_
        rintro e w5 ⟨rfl, rfl⟩
        rw [HQ.out]
        generalize setOf f = v at *
        go_wp2
        refine bodyPost_ret (by simp [results, Try.results9, go_sem]; rfl) rfl ⟨?_, ((Below.refl _ _).alloc (Nat.le_refl _) _).alloc (by simp) _⟩
        exact congrArg (fun q : Ch × Bool => Ending.returned (.tuple #[q.1.val, .bool q.2])) HE.out
      · have hd : (⟨a, b, c, d, l, s⟩ : Ch).des p f = ((⟨a, b, c, d, l, s⟩ : Ch).put p (setOf f), true) := by unfold Ch.des; rw [if_pos ⟨HQ.out, by omega, by omega⟩]
        have HD := Lib.hid hd
        clear hd
        obtain rfl | rfl | rfl | rfl : p = 0 ∨ p = 1 ∨ p = 2 ∨ p = 3 := by omega
        · have HE := Lib.hid (show ((⟨setOf f, b, c, d, l, s⟩ : Ch), true) = (⟨a, b, c, d, l, s⟩ : Ch).des 0 f by rw [HD.out]; rfl)
          clear hp hp3
          go_enter Try.func9, Try.ntmps9
          go_wp2_with fail
          refine (named_any f _).mono ?_
          rintro e w5 ⟨rfl, rfl⟩
          rw [HQ.out]
          generalize setOf f = v at *
          go_wp2
          refine bodyPost_ret (by simp [results, Try.results9, go_sem]; rfl) rfl ⟨?_, ((Below.refl _ _).alloc (Nat.le_refl _) _).alloc (by simp) _⟩
          exact congrArg (fun q : Ch × Bool => Ending.returned (.tuple #[q.1.val, .bool q.2])) HE.out
        · have HE := Lib.hid (show ((⟨a, setOf f, c, d, l, s⟩ : Ch), true) = (⟨a, b, c, d, l, s⟩ : Ch).des 1 f by rw [HD.out]; rfl)
          clear hp hp3
          go_enter Try.func9, Try.ntmps9
          go_wp2_with fail
          refine (named_any f _).mono ?_
          rintro e w5 ⟨rfl, rfl⟩
          rw [HQ.out]
          generalize setOf f = v at *
          go_wp2
          refine bodyPost_ret (by simp [results, Try.results9, go_sem]; rfl) rfl ⟨?_, ((Below.refl _ _).alloc (Nat.le_refl _) _).alloc (by simp) _⟩
          exact congrArg (fun q : Ch × Bool => Ending.returned (.tuple #[q.1.val, .bool q.2])) HE.out
        · have HE := Lib.hid (show ((⟨a, b, setOf f, d, l, s⟩ : Ch), true) = (⟨a, b, c, d, l, s⟩ : Ch).des 2 f by rw [HD.out]; rfl)
          clear hp hp3
          go_enter Try.func9, Try.ntmps9
          go_wp2_with fail
          refine (named_any f _).mono ?_
          rintro e w5 ⟨rfl, rfl⟩
          rw [HQ.out]
          generalize setOf f = v at *
          go_wp2
          refine bodyPost_ret (by simp [results, Try.results9, go_sem]; rfl) rfl ⟨?_, ((Below.refl _ _).alloc (Nat.le_refl _) _).alloc (by simp) _⟩
          exact congrArg (fun q : Ch × Bool => Ending.returned (.tuple #[q.1.val, .bool q.2])) HE.out
        · have HE := Lib.hid (show ((⟨a, b, c, setOf f, l, s⟩ : Ch), true) = (⟨a, b, c, d, l, s⟩ : Ch).des 3 f by rw [HD.out]; rfl)
          clear hp hp3
          go_enter Try.func9, Try.ntmps9
          go_wp2_with fail
          refine (named_any f _).mono ?_
          rintro e w5 ⟨rfl, rfl⟩
          rw [HQ.out]
          generalize setOf f = v at *
          go_wp2
          refine bodyPost_ret (by simp [results, Try.results9, go_sem]; rfl) rfl ⟨?_, ((Below.refl _ _).alloc (Nat.le_refl _) _).alloc (by simp) _⟩
          exact congrArg (fun q : Ch × Bool => Ending.returned (.tuple #[q.1.val, .bool q.2])) HE.out

set_option maxHeartbeats 2000000 in
theorem rdes_any (k : Ch) (p f : Int) (w : World) : Calls Try.prog 10 #[k.val, .int .i64 p, .int .u8 f] w fun e w' => e = .returned (.tuple #[(k.des p f).1.val, .bool (k.des p f).2]) ∧ Below w.heap.size w w' := by
  obtain ⟨a, b, c, d, l, s⟩ := k
  by_cases hp : p < 0
  · have HE := Lib.hid (show ((⟨a, b, c, d, l, s⟩ : Ch), false) = (⟨a, b, c, d, l, s⟩ : Ch).des p f by unfold Ch.des; rw [if_neg (by omega)])
    go_enter Try.func10, Try.ntmps10
    go_wp2
    refine bodyPost_ret (by simp [results, Try.results10, go_sem]; rfl) rfl ⟨?_, ((Below.refl _ _).alloc (Nat.le_refl _) _).alloc (by simp) _⟩
    exact congrArg (fun q : Ch × Bool => Ending.returned (.tuple #[q.1.val, .bool q.2])) HE.out
  · by_cases hp3 : 3 < p
    · have HE := Lib.hid (show ((⟨a, b, c, d, l, s⟩ : Ch), false) = (⟨a, b, c, d, l, s⟩ : Ch).des p f by unfold Ch.des; rw [if_neg (by omega)])
      go_enter Try.func10, Try.ntmps10
      go_wp2
      refine bodyPost_ret (by simp [results, Try.results10, go_sem]; rfl) rfl ⟨?_, ((Below.refl _ _).alloc (Nat.le_refl _) _).alloc (by simp) _⟩
      exact congrArg (fun q : Ch × Bool => Ending.returned (.tuple #[q.1.val, .bool q.2])) HE.out
    · obtain rfl | rfl | rfl | rfl : p = 0 ∨ p = 1 ∨ p = 2 ∨ p = 3 := by omega
      · clear hp hp3
        by_cases h66 : f = 66
        · subst h66
          have HE := Lib.hid (show ((⟨0, b, c, d, l, s⟩ : Ch), true) = (⟨a, b, c, d, l, s⟩ : Ch).des 0 66 from rfl)
          go_enter Try.func10, Try.ntmps10
          go_wp2
          refine bodyPost_ret (by simp [results, Try.results10, go_sem]; rfl) rfl ⟨?_, ((Below.refl _ _).alloc (Nat.le_refl _) _).alloc (by simp) _⟩
          exact congrArg (fun q : Ch × Bool => Ending.returned (.tuple #[q.1.val, .bool q.2])) HE.out
        · skip
          by_cases h48 : f = 48
          · subst h48
            have HE := Lib.hid (show ((⟨1, b, c, d, l, s⟩ : Ch), true) = (⟨a, b, c, d, l, s⟩ : Ch).des 0 48 from rfl)
            go_enter Try.func10, Try.ntmps10
            go_wp2
            refine bodyPost_ret (by simp [results, Try.results10, go_sem]; rfl) rfl ⟨?_, ((Below.refl _ _).alloc (Nat.le_refl _) _).alloc (by simp) _⟩
            exact congrArg (fun q : Ch × Bool => Ending.returned (.tuple #[q.1.val, .bool q.2])) HE.out
          · skip
            by_cases h65 : f = 65
            · subst h65
              have HE := Lib.hid (show ((⟨2, b, c, d, l, s⟩ : Ch), true) = (⟨a, b, c, d, l, s⟩ : Ch).des 0 65 from rfl)
              go_enter Try.func10, Try.ntmps10
              go_wp2
              refine bodyPost_ret (by simp [results, Try.results10, go_sem]; rfl) rfl ⟨?_, ((Below.refl _ _).alloc (Nat.le_refl _) _).alloc (by simp) _⟩
              exact congrArg (fun q : Ch × Bool => Ending.returned (.tuple #[q.1.val, .bool q.2])) HE.out
            · skip
              have HE := Lib.hid (show ((⟨a, b, c, d, l, s⟩ : Ch), false) = (⟨a, b, c, d, l, s⟩ : Ch).des 0 f by simp [Ch.des, isSet, h66, h48, h65])
              go_enter Try.func10, Try.ntmps10
              go_wp2
              refine bodyPost_ret (by simp [results, Try.results10, go_sem]; rfl) rfl ⟨?_, ((Below.refl _ _).alloc (Nat.le_refl _) _).alloc (by simp) _⟩
              exact congrArg (fun q : Ch × Bool => Ending.returned (.tuple #[q.1.val, .bool q.2])) HE.out
      · clear hp hp3
        by_cases h66 : f = 66
        · subst h66
          have HE := Lib.hid (show ((⟨a, 0, c, d, l, s⟩ : Ch), true) = (⟨a, b, c, d, l, s⟩ : Ch).des 1 66 from rfl)
          go_enter Try.func10, Try.ntmps10
          go_wp2
          refine bodyPost_ret (by simp [results, Try.results10, go_sem]; rfl) rfl ⟨?_, ((Below.refl _ _).alloc (Nat.le_refl _) _).alloc (by simp) _⟩
          exact congrArg (fun q : Ch × Bool => Ending.returned (.tuple #[q.1.val, .bool q.2])) HE.out
        · skip
          by_cases h48 : f = 48
          · subst h48
            have HE := Lib.hid (show ((⟨a, 1, c, d, l, s⟩ : Ch), true) = (⟨a, b, c, d, l, s⟩ : Ch).des 1 48 from rfl)
            go_enter Try.func10, Try.ntmps10
            go_wp2
            refine bodyPost_ret (by simp [results, Try.results10, go_sem]; rfl) rfl ⟨?_, ((Below.refl _ _).alloc (Nat.le_refl _) _).alloc (by simp) _⟩
            exact congrArg (fun q : Ch × Bool => Ending.returned (.tuple #[q.1.val, .bool q.2])) HE.out
          · skip
            by_cases h65 : f = 65
            · subst h65
              have HE := Lib.hid (show ((⟨a, 2, c, d, l, s⟩ : Ch), true) = (⟨a, b, c, d, l, s⟩ : Ch).des 1 65 from rfl)
              go_enter Try.func10, Try.ntmps10
              go_wp2
              refine bodyPost_ret (by simp [results, Try.results10, go_sem]; rfl) rfl ⟨?_, ((Below.refl _ _).alloc (Nat.le_refl _) _).alloc (by simp) _⟩
              exact congrArg (fun q : Ch × Bool => Ending.returned (.tuple #[q.1.val, .bool q.2])) HE.out
            · skip
              have HE := Lib.hid (show ((⟨a, b, c, d, l, s⟩ : Ch), false) = (⟨a, b, c, d, l, s⟩ : Ch).des 1 f by simp [Ch.des, isSet, h66, h48, h65])
              go_enter Try.func10, Try.ntmps10
              go_wp2
              refine bodyPost_ret (by simp [results, Try.results10, go_sem]; rfl) rfl ⟨?_, ((Below.refl _ _).alloc (Nat.le_refl _) _).alloc (by simp) _⟩
              exact congrArg (fun q : Ch × Bool => Ending.returned (.tuple #[q.1.val, .bool q.2])) HE.out
      · clear hp hp3
        by_cases h66 : f = 66
        · subst h66
          have HE := Lib.hid (show ((⟨a, b, 0, d, l, s⟩ : Ch), true) = (⟨a, b, c, d, l, s⟩ : Ch).des 2 66 from rfl)
          go_enter Try.func10, Try.ntmps10
          go_wp2
          refine bodyPost_ret (by simp [results, Try.results10, go_sem]; rfl) rfl ⟨?_, ((Below.refl _ _).alloc (Nat.le_refl _) _).alloc (by simp) _⟩
          exact congrArg (fun q : Ch × Bool => Ending.returned (.tuple #[q.1.val, .bool q.2])) HE.out
        · skip
          by_cases h48 : f = 48
          · subst h48
            have HE := Lib.hid (show ((⟨a, b, 1, d, l, s⟩ : Ch), true) = (⟨a, b, c, d, l, s⟩ : Ch).des 2 48 from rfl)
            go_enter Try.func10, Try.ntmps10
            go_wp2
            refine bodyPost_ret (by simp [results, Try.results10, go_sem]; rfl) rfl ⟨?_, ((Below.refl _ _).alloc (Nat.le_refl _) _).alloc (by simp) _⟩
            exact congrArg (fun q : Ch × Bool => Ending.returned (.tuple #[q.1.val, .bool q.2])) HE.out
          · skip
            by_cases h65 : f = 65
            · subst h65
              have HE := Lib.hid (show ((⟨a, b, 2, d, l, s⟩ : Ch), true) = (⟨a, b, c, d, l, s⟩ : Ch).des 2 65 from rfl)
              go_enter Try.func10, Try.ntmps10
              go_wp2
              refine bodyPost_ret (by simp [results, Try.results10, go_sem]; rfl) rfl ⟨?_, ((Below.refl _ _).alloc (Nat.le_refl _) _).alloc (by simp) _⟩
              exact congrArg (fun q : Ch × Bool => Ending.returned (.tuple #[q.1.val, .bool q.2])) HE.out
            · skip
              have HE := Lib.hid (show ((⟨a, b, c, d, l, s⟩ : Ch), false) = (⟨a, b, c, d, l, s⟩ : Ch).des 2 f by simp [Ch.des, isSet, h66, h48, h65])
              go_enter Try.func10, Try.ntmps10
              go_wp2
              refine bodyPost_ret (by simp [results, Try.results10, go_sem]; rfl) rfl ⟨?_, ((Below.refl _ _).alloc (Nat.le_refl _) _).alloc (by simp) _⟩
              exact congrArg (fun q : Ch × Bool => Ending.returned (.tuple #[q.1.val, .bool q.2])) HE.out
      · clear hp hp3
        by_cases h66 : f = 66
        · subst h66
          have HE := Lib.hid (show ((⟨a, b, c, 0, l, s⟩ : Ch), true) = (⟨a, b, c, d, l, s⟩ : Ch).des 3 66 from rfl)
          go_enter Try.func10, Try.ntmps10
          go_wp2
          refine bodyPost_ret (by simp [results, Try.results10, go_sem]; rfl) rfl ⟨?_, ((Below.refl _ _).alloc (Nat.le_refl _) _).alloc (by simp) _⟩
          exact congrArg (fun q : Ch × Bool => Ending.returned (.tuple #[q.1.val, .bool q.2])) HE.out
        · skip
          by_cases h48 : f = 48
          · subst h48
            have HE := Lib.hid (show ((⟨a, b, c, 1, l, s⟩ : Ch), true) = (⟨a, b, c, d, l, s⟩ : Ch).des 3 48 from rfl)
            go_enter Try.func10, Try.ntmps10
            go_wp2
            refine bodyPost_ret (by simp [results, Try.results10, go_sem]; rfl) rfl ⟨?_, ((Below.refl _ _).alloc (Nat.le_refl _) _).alloc (by simp) _⟩
            exact congrArg (fun q : Ch × Bool => Ending.returned (.tuple #[q.1.val, .bool q.2])) HE.out
          · skip
            by_cases h65 : f = 65
            · subst h65
              have HE := Lib.hid (show ((⟨a, b, c, 2, l, s⟩ : Ch), true) = (⟨a, b, c, d, l, s⟩ : Ch).des 3 65 from rfl)
              go_enter Try.func10, Try.ntmps10
              go_wp2
              refine bodyPost_ret (by simp [results, Try.results10, go_sem]; rfl) rfl ⟨?_, ((Below.refl _ _).alloc (Nat.le_refl _) _).alloc (by simp) _⟩
              exact congrArg (fun q : Ch × Bool => Ending.returned (.tuple #[q.1.val, .bool q.2])) HE.out
            · skip
              have HE := Lib.hid (show ((⟨a, b, c, d, l, s⟩ : Ch), false) = (⟨a, b, c, d, l, s⟩ : Ch).des 3 f by simp [Ch.des, isSet, h66, h48, h65])
              go_enter Try.func10, Try.ntmps10
              go_wp2
              refine bodyPost_ret (by simp [results, Try.results10, go_sem]; rfl) rfl ⟨?_, ((Below.refl _ _).alloc (Nat.le_refl _) _).alloc (by simp) _⟩
              exact congrArg (fun q : Ch × Bool => Ending.returned (.tuple #[q.1.val, .bool q.2])) HE.out

end Go.Proofs.Ytdphccjeikiciaa.Lab
