/- What the document's answer for digits, parts, and three of them is, of any texts. -/
import Derived.Test.YthcncghhjlaicaaRowsOf
namespace Go.Proofs.Ythcncghhjlaicaa.Lab
open Go.RowKit

def digI (c : Nat) : Int := if digB c = true then (digV c : Int) else -1

set_option maxHeartbeats 400000 in
theorem rdigit_any (c : Nat) (hc : c < 256) (w : World) : Calls Try.prog 41 #[.int .u8 c] w fun e w' => e = .returned (.int .i64 (digI c)) ∧ w = w' := by
  by_cases h1 : 48 ≤ c ∧ c ≤ 57
  · have e1 : digI c = (c : Int) - 48 := by
      unfold digI digV
      rw [if_pos (by simp [digB, h1.1, h1.2]), if_pos h1]
      omega
    rw [e1]
    obtain ⟨a, b⟩ := h1
    go_enter Try.func41, Try.ntmps41
    go_wp2
    go_ret
    exact ⟨rfl, rfl⟩
  · by_cases h2 : 97 ≤ c ∧ c ≤ 102
    · have e1 : digI c = (c : Int) - 97 + 10 := by
        unfold digI digV
        rw [if_pos (by simp [digB, h2.1, h2.2]), if_neg h1, if_pos h2]
        omega
      rw [e1]
      obtain ⟨a, b⟩ := h2
      have n1 : ¬ c ≤ 57 := by omega
      go_enter Try.func41, Try.ntmps41
      go_wp2
      go_ret
      exact ⟨rfl, rfl⟩
    · by_cases h3 : 65 ≤ c ∧ c ≤ 70
      · have e1 : digI c = (c : Int) - 65 + 10 := by
          unfold digI digV
          rw [if_pos (by simp [digB, h3.1, h3.2]), if_neg h1, if_neg h2, if_pos h3]
          omega
        rw [e1]
        obtain ⟨a, b⟩ := h3
        have n1 : ¬ c ≤ 57 := by omega
        have n2 : ¬ 97 ≤ c := by omega
        go_enter Try.func41, Try.ntmps41
        go_wp2
        go_ret
        exact ⟨rfl, rfl⟩
      · have e2 : digI c = -1 := by
          unfold digI
          rw [if_neg]
          simp only [digB, decide_eq_false h1, decide_eq_false h2, decide_eq_false h3]
          decide
        rw [e2]
        clear e2
        go_enter Try.func41, Try.ntmps41
        go_wp2
        all_goals first | (exfalso; omega) | (go_ret; exact ⟨rfl, rfl⟩)

set_option maxHeartbeats 600000 in
theorem rpart_any (s : ByteArray) (hm : s.size ≤ maxLen) (w : World) : Calls Try.prog 37 #[.string s] w fun e w' => e = .returned (.tuple #[.int .u16 (partV s.data.toList : Nat), .bool (partB s.data.toList)]) ∧ w = w' := by
  unfold maxLen at hm
  go_enter Try.func37, Try.ntmps37
  go_wp2
  go_loop [4, 5] (fun d i => ∃ k : Nat, k ≤ s.size ∧ k ≤ 4 ∧ i = .int .i64 k ∧ d = .int .i64 (acc (s.data.toList.take k) : Nat) ∧ allB (s.data.toList.take k) = true) (fun _ i => s.size - (intOf i).toNat)
  case atStart => exact ⟨0, Nat.zero_le _, by omega, rfl, rfl, rfl⟩
  case round =>
    obtain ⟨k, hk, hk4, rfl, rfl, ha⟩ := hrel
    have HA := Lib.hid ha
    clear ha
    have hlk : (s.data.toList.take k).length = k := by simp; omega
    have hd : acc (s.data.toList.take k) < 65536 := Nat.lt_of_lt_of_le (acc_lt k _ hlk) (Nat.pow_le_pow_right (by omega) hk4)
    by_cases hlt : k < s.size
    · have HS := Lib.hid (take_snoc s k hlt)
      have hv := digV_lt s[k].toNat
      have hb : s[k].toNat < 256 := s[k].toNat_lt
      by_cases hg : digB s[k].toNat = true
      · have hgi : digI s[k].toNat = (digV s[k].toNat : Int) := by unfold digI; rw [if_pos hg]
        have G := Lib.hid hgi
        have q0 : ¬ (digV s[k].toNat : Int) < 0 := by omega
        clear hgi
        by_cases h4 : k = 4
        · subst h4
          have e1 : partB s.data.toList = false := by
            unfold partB
            rw [decide_eq_false (by simp; omega)]
            simp
          have E1 := Lib.hid e1
          clear e1
          go_wp2_with fail
          refine (rdigit_any _ hb _).mono ?_
          rintro e w' ⟨rfl, rfl⟩
          rw [G.out]
          go_wp2_with fail
          refine (rdigit_any _ hb _).mono ?_
          rintro e w' ⟨rfl, rfl⟩
          rw [G.out]
          go_wp2
          go_ret2
          exact ⟨ret_ib (by unfold partV; rw [E1.out]; rfl) E1.out.symm, rfl⟩
        · have q1 : ¬ (3 : Int) < (k : Int) := by omega
          go_wp2_with fail
          refine (rdigit_any _ hb _).mono ?_
          rintro e w' ⟨rfl, rfl⟩
          rw [G.out]
          go_wp2_with fail
          refine (rdigit_any _ hb _).mono ?_
          rintro e w' ⟨rfl, rfl⟩
          rw [G.out]
          go_wp2
          go_round
          case rel => exact ⟨k + 1, by omega, by omega, by go_num, by rw [HS.out, acc_snoc]; go_num, by rw [HS.out, allB_snoc, HA.out, hg]; rfl⟩
          case measure => simp [intOf]; omega
      · have hgf : digB s[k].toNat = false := by simpa using hg
        have hgi : digI s[k].toNat = -1 := by unfold digI; rw [if_neg hg]
        have G := Lib.hid hgi
        clear hgi
        go_wp2_with fail
        refine (rdigit_any _ hb _).mono ?_
        rintro e w' ⟨rfl, rfl⟩
        rw [G.out]
        go_wp2
        go_ret2
        have e1 : partB s.data.toList = false := by
          unfold partB
          rw [allB_take s.data.toList (k + 1) (by rw [HS.out, allB_snoc, hgf]; simp)]
          rfl
        exact ⟨ret_ib (by unfold partV; rw [e1]; rfl) e1.symm, rfl⟩
    · have hks : k = s.size := by omega
      subst hks
      have e0 : s.data.toList.take s.size = s.data.toList := List.take_of_length_le (by simp)
      have hl : s.data.toList.length = s.size := by simp
      rw [e0] at hd HA
      rw [e0]
      clear e0 hlk
      by_cases h1 : s.size = 1
      · have f := part_ok s.data.toList 1 (hl.trans h1) (by decide) HA.out
        have hb := acc_lt 1 s.data.toList (hl.trans h1)
        have f1 := Lib.hid f.1
        have f2 := Lib.hid f.2
        have t1 : ((s.size : Int) == 1) = true := by rw [h1]; rfl
        have hb' : acc s.data.toList < 16 := hb
        clear f hl hd HA h1 hb
        go_wp2
        go_ret2
        exact ⟨ret_ib (by rw [f2.out]; first | (simp [scale]; done) | (simp [scale]; omega)) f1.out.symm, rfl⟩
      · have t1 : ((s.size : Int) == 1) = false := by simp; omega
        by_cases h2 : s.size = 2
        · have f := part_ok s.data.toList 2 (hl.trans h2) (by decide) HA.out
          have hb := acc_lt 2 s.data.toList (hl.trans h2)
          have f1 := Lib.hid f.1
          have f2 := Lib.hid f.2
          have t2 : ((s.size : Int) == 2) = true := by rw [h2]; rfl
          have hb' : acc s.data.toList < 256 := hb
          clear f hl hd HA h1 h2 hb
          go_wp2
          go_ret2
          exact ⟨ret_ib (by rw [f2.out]; first | (simp [scale]; done) | (simp [scale]; omega)) f1.out.symm, rfl⟩
        · have t2 : ((s.size : Int) == 2) = false := by simp; omega
          by_cases h3 : s.size = 3
          · have f := part_ok s.data.toList 3 (hl.trans h3) (by decide) HA.out
            have hb := acc_lt 3 s.data.toList (hl.trans h3)
            have f1 := Lib.hid f.1
            have f2 := Lib.hid f.2
            have t3 : ((s.size : Int) == 3) = true := by rw [h3]; rfl
            have hb' : acc s.data.toList < 4096 := hb
            clear f hl hd HA h1 h2 h3 hb
            go_wp2
            go_ret2
            exact ⟨ret_ib (by rw [f2.out]; first | (simp [scale]; done) | (simp [scale]; omega)) f1.out.symm, rfl⟩
          · have t3 : ((s.size : Int) == 3) = false := by simp; omega
            by_cases h4 : s.size = 4
            · have f := part_ok s.data.toList 4 (hl.trans h4) (by decide) HA.out
              have f1 := Lib.hid f.1
              have f2 := Lib.hid f.2
              have t4 : ((s.size : Int) == 4) = true := by rw [h4]; rfl
              clear f hl HA h1 h2 h3 h4
              go_wp2
              go_ret2
              exact ⟨ret_ib (by rw [f2.out]; first | (simp [scale]; done) | (simp [scale]; omega)) f1.out.symm, rfl⟩
            · have t4 : ((s.size : Int) == 4) = false := by simp; omega
              have f1 : partB s.data.toList = false := by
                unfold partB
                rw [decide_eq_false (by omega)]
                simp
              have f2 : partV s.data.toList = 0 := by unfold partV; rw [f1]; rfl
              have F1 := Lib.hid f1
              have F2 := Lib.hid f2
              clear f1 f2 hl hd HA h1 h2 h3 h4
              go_wp2
              go_ret2
              exact ⟨ret_ib (by rw [F2.out]; rfl) F1.out.symm, rfl⟩
end Go.Proofs.Ythcncghhjlaicaa.Lab
