/- The reference's answers: what may be a colour, which attributes are right, flags of numbers; rows held against each other that are the same. -/
import Derived.Test.YtlmhnebgkginkaaDoorAtEq
import Derived.Test.YtlmhnebgkginkaaDoorAtSgr
import Derived.Deep.CutBlock
import Derived.Deep.DeepCutAuto
namespace Go.Proofs.YtlmhnebgkginkaaDoor.Lab
open Go Go.RowKit

set_option maxHeartbeats 1000000 in
theorem rmay_any (w : World) (c : Cl) : Calls Tryd.prog 36 #[colV c] w fun e w' => e = .returned (.bool (mayM c)) ∧ Below w.heap.size w w' := by
  have HB := Lib.hid (show Below w.heap.size w (w.alloc (.cells #[.int .u8 c.k, .int .u8 c.r, .int .u8 c.g, .int .u8 c.b] 23)) from (Below.refl _ _).alloc (Nat.le_refl _) _)
  by_cases h0 : c.k = 0
  · have HM := Lib.hid (show mayM c = eqC c Cl.zero by unfold mayM; rw [if_pos h0])
    have he := fun w => eqCol 9998 w c Cl.zero
    have h0' : (c.k == 0) = true := by simp [h0]
    clear h0
    go_enter Tryd.func36, Tryd.ntmps36
    go_wp2
    go_ret
    exact ⟨by rw [HM.out]; rfl, HB.out⟩
  · have h0' : (c.k == 0) = false := by simp [h0]
    by_cases h1 : c.k = 1
    · have HM := Lib.hid (show mayM c = (c.g == 0 && c.b == 0) by unfold mayM; rw [if_neg h0, if_pos h1])
      have h1' : (c.k == 1) = true := by simp [h1]
      by_cases hg : c.g = 0
      · have hg' : (c.g == 0) = true := by simp [hg]
        have HM2 := Lib.hid (show mayM c = (c.b == 0) by rw [HM.out, hg']; rfl)
        clear h0 h1 hg
        go_enter Tryd.func36, Tryd.ntmps36
        go_wp2
        go_ret
        exact ⟨by rw [HM2.out]; rfl, HB.out⟩
      · have hg' : (c.g == 0) = false := by simp [hg]
        have HM2 := Lib.hid (show mayM c = false by rw [HM.out, hg']; rfl)
        clear h0 h1 hg
        go_enter Tryd.func36, Tryd.ntmps36
        go_wp2
        go_ret
        exact ⟨by rw [HM2.out]; rfl, HB.out⟩
    · have h1' : (c.k == 1) = false := by simp [h1]
      have HM := Lib.hid (show mayM c = (c.k == 2) by unfold mayM; rw [if_neg h0, if_neg h1])
      clear h0 h1
      go_enter Tryd.func36, Tryd.ntmps36
      go_wp2
      go_ret
      exact ⟨by rw [HM.out]; rfl, HB.out⟩

theorem flags_all : ((List.range 256).all fun h => (List.range 256).all fun l => ((((256 * h + l) &&& 65024) == 0) == decide (256 * h + l < 512)) && ((decide (256 * h + l < 512) && (((256 * h + l) &&& 264) != 264)) == (decide (256 * h + l < 512) && (((256 * h + l) &&& 8) == 0 || ((256 * h + l) &&& 256) == 0)))) = true := by decide +kernel
theorem right_flags (f : Nat) (hf : f < 65536) : ((f &&& 65024) == 0 && (f &&& 264) != 264) = (decide (f < 512) && ((f &&& 8) == 0 || (f &&& 256) == 0)) := by
  have h1 := List.all_eq_true.1 flags_all (f / 256) (List.mem_range.2 (by omega))
  have h2 := List.all_eq_true.1 h1 (f % 256) (List.mem_range.2 (by omega))
  rw [show 256 * (f / 256) + f % 256 = f by omega] at h2
  simp only [Bool.and_eq_true, beq_iff_eq] at h2
  rw [h2.1, h2.2]
set_option maxHeartbeats 4000000 in
theorem rright_any (w : World) (a : At) (ha : a.fl < 65536) : Calls Tryd.prog 16 #[attV a] w fun e w' => e = .returned (.bool (rightM a)) ∧ Below w.heap.size w w' := by
  obtain ⟨w0, hw0⟩ : ∃ w0, w0 = w.alloc (.cells #[.int .u8 a.fg.k, .int .u8 a.fg.r, .int .u8 a.fg.g, .int .u8 a.fg.b, .int .u8 a.bg.k, .int .u8 a.bg.r, .int .u8 a.bg.g, .int .u8 a.bg.b, .int .u16 (a.fl : Nat)] 26) := ⟨_, rfl⟩
  have HB := Lib.hid (show Below w.heap.size w w0 by rw [hw0]; exact (Below.refl _ _).alloc (Nat.le_refl _) _)
  have HA := Lib.hid (show AtAt w0 w.heap.size a by rw [hw0]; exact AtAt.newAt w _ rfl a _)
  have b1 : bits .and .u16 (a.fl : Int) 8 = ((a.fl &&& 8 : Nat) : Int) := u16_and_nat a.fl 8 ha (by decide)
  have b2 : bits .and .u16 (a.fl : Int) 256 = ((a.fl &&& 256 : Nat) : Int) := u16_and_nat a.fl 256 ha (by decide)
  have HR := Lib.hid (show rightM a = (mayM a.fg && (mayM a.bg && (decide (a.fl < 512) && ((a.fl &&& 8) == 0 || (a.fl &&& 256) == 0)))) by unfold rightM; rw [right_flags a.fl ha])
  obtain ⟨q1, hq1⟩ : ∃ q, q = mayM a.fg := ⟨_, rfl⟩
  obtain ⟨q2, hq2⟩ : ∃ q, q = mayM a.bg := ⟨_, rfl⟩
  obtain ⟨n1, hn1⟩ : ∃ q, q = a.fl &&& 8 := ⟨_, rfl⟩
  obtain ⟨n2, hn2⟩ : ∃ q, q = a.fl &&& 256 := ⟨_, rfl⟩
  have C1 := Lib.hid (rmay_any w0 a.fg)
  have C2 := Lib.hid (fun w' => rmay_any w' a.bg)
  rw [← hq1] at C1 HR
  rw [← hq2] at HR
  have HQ2 := Lib.hid hq2
  rw [← hn1] at b1 HR
  rw [← hn2] at b2 HR
  clear hq1 hq2 hn1 hn2
  have e1 : ((n1 : Nat) == 0) = ((n1 : Int) == 0) := (beq_cast n1 0).symm
  have e2 : ((n2 : Nat) == 0) = ((n2 : Int) == 0) := (beq_cast n2 0).symm
  rw [e1, e2] at HR
  clear e1 e2
  obtain ⟨y0, ⟨y1, y2, y3, y4, y5, y6, y7, y8, y9⟩, yf⟩ := HA.out
  go_enter Tryd.func16, Tryd.ntmps16
  go_wp2_with fail
  rw [← hw0]
  clear hw0
  refine C1.out.mono ?_
  rintro e w1 ⟨rfl, bb⟩
  have HA1 := Lib.hid (HA.out.below bb)
  have HB1 := Lib.hid (HB.out.trans (bb.mono HB.out.size))
  clear y0 y1 y2 y3 y4 y5 y6 y7 y8 y9 yf HA HB bb C1
  obtain ⟨y0, ⟨y1, y2, y3, y4, y5, y6, y7, y8, y9⟩, yf⟩ := HA1.out
  cases q1 with
  | false =>
    go_wp2
    go_ret
    exact ⟨by rw [HR.out]; rfl, HB1.out⟩
  | true =>
    go_wp2_with fail
    refine (C2.out _).mono ?_
    rintro e w2 ⟨rfl, bb⟩
    rw [← HQ2.out]
    have HA2 := Lib.hid (HA1.out.below bb)
    have HB2 := Lib.hid (HB1.out.trans (bb.mono HB1.out.size))
    clear y0 y1 y2 y3 y4 y5 y6 y7 y8 y9 yf HA1 HB1 bb C2 HQ2
    obtain ⟨y0, ⟨y1, y2, y3, y4, y5, y6, y7, y8, y9⟩, yf⟩ := HA2.out
    cases q2 with
    | false =>
      go_wp2
      go_ret
      exact ⟨by rw [HR.out]; rfl, HB2.out⟩
    | true =>
      by_cases h512 : a.fl < 512
      · have d1 : decide ((a.fl : Int) < 512) = true := by simp; omega
        have h512i : (a.fl : Int) < 512 := by omega
        have d2 : decide (a.fl < 512) = true := decide_eq_true h512
        rw [d2] at HR
        clear h512 d2
        obtain ⟨q3, hq3⟩ : ∃ q, ((n1 : Int) == 0) = q := ⟨_, rfl⟩
        rw [hq3] at HR
        cases q3 with
        | true =>
          go_wp2
          go_ret
          exact ⟨by rw [HR.out]; rfl, HB2.out⟩
        | false =>
          go_wp2
          go_ret
          exact ⟨by rw [HR.out]; rfl, HB2.out⟩
      · have d1 : decide ((a.fl : Int) < 512) = false := by simp; omega
        have d2 : decide (a.fl < 512) = false := decide_eq_false h512
        rw [d2] at HR
        clear h512 d2
        go_wp2
        go_ret
        exact ⟨by rw [HR.out]; rfl, HB2.out⟩
def flagN (n : Int) : Nat := if n = 1 then 1 else if n = 2 then 2 else if n = 3 then 4 else if n = 4 then 8 else if n = 5 then 16 else if n = 7 then 32 else if n = 8 then 64 else if n = 9 then 128 else if n = 21 then 256 else 0
set_option maxHeartbeats 2000000 in
theorem rflag_any (n : Int) (w : World) : Calls Tryd.prog 39 #[.int .i64 n] w fun e w' => e = .returned (.int .u16 (flagN n : Nat)) ∧ w = w' := by
  by_cases h1 : n = 1
  · subst h1
    go_enter Tryd.func39, Tryd.ntmps39
    go_wp2
    go_ret
    exact ⟨rfl, rfl⟩
  have e1 : (n == 1) = false := by simp [h1]
  by_cases h2 : n = 2
  · subst h2
    go_enter Tryd.func39, Tryd.ntmps39
    go_wp2
    go_ret
    exact ⟨rfl, rfl⟩
  have e2 : (n == 2) = false := by simp [h2]
  by_cases h3 : n = 3
  · subst h3
    go_enter Tryd.func39, Tryd.ntmps39
    go_wp2
    go_ret
    exact ⟨rfl, rfl⟩
  have e3 : (n == 3) = false := by simp [h3]
  by_cases h4 : n = 4
  · subst h4
    go_enter Tryd.func39, Tryd.ntmps39
    go_wp2
    go_ret
    exact ⟨rfl, rfl⟩
  have e4 : (n == 4) = false := by simp [h4]
  by_cases h5 : n = 5
  · subst h5
    go_enter Tryd.func39, Tryd.ntmps39
    go_wp2
    go_ret
    exact ⟨rfl, rfl⟩
  have e5 : (n == 5) = false := by simp [h5]
  by_cases h7 : n = 7
  · subst h7
    go_enter Tryd.func39, Tryd.ntmps39
    go_wp2
    go_ret
    exact ⟨rfl, rfl⟩
  have e7 : (n == 7) = false := by simp [h7]
  by_cases h8 : n = 8
  · subst h8
    go_enter Tryd.func39, Tryd.ntmps39
    go_wp2
    go_ret
    exact ⟨rfl, rfl⟩
  have e8 : (n == 8) = false := by simp [h8]
  by_cases h9 : n = 9
  · subst h9
    go_enter Tryd.func39, Tryd.ntmps39
    go_wp2
    go_ret
    exact ⟨rfl, rfl⟩
  have e9 : (n == 9) = false := by simp [h9]
  by_cases h21 : n = 21
  · subst h21
    go_enter Tryd.func39, Tryd.ntmps39
    go_wp2
    go_ret
    exact ⟨rfl, rfl⟩
  have e21 : (n == 21) = false := by simp [h21]
  have hz : flagN n = 0 := by
    unfold flagN
    rw [if_neg h1, if_neg h2, if_neg h3, if_neg h4, if_neg h5, if_neg h7, if_neg h8, if_neg h9, if_neg h21]
  clear h1 h2 h3 h4 h5 h7 h8 h9 h21
  go_enter Tryd.func39, Tryd.ntmps39
  go_wp2
  go_ret
  exact ⟨by rw [hz]; rfl, rfl⟩
end Go.Proofs.YtlmhnebgkginkaaDoor.Lab
