/- What package color's part and rows answer to any texts. -/
import Derived.Test.YthcncghhjlaicaaCol
namespace Go.Proofs.Ythcncghhjlaicaa.Lab
open Go.RowKit

def accM (l : List UInt8) : Nat := l.foldl (fun d c => (d * 16 + digV c.toNat) % 65536) 0
def acc (l : List UInt8) : Nat := l.foldl (fun d c => d * 16 + digV c.toNat) 0
def scale (n d : Nat) : Nat := if n = 1 then d * 4369 else if n = 2 then 257 * d else if n = 3 then d * 16 + d / 256 else d
def allB (l : List UInt8) : Bool := l.all fun c => digB c.toNat
def partB (l : List UInt8) : Bool := allB l && decide (1 ≤ l.length ∧ l.length ≤ 4)
def partV (l : List UInt8) : Nat := if partB l = true then scale l.length (acc l) else 0

theorem accM_snoc (l : List UInt8) (c : UInt8) : accM (l ++ [c]) = (accM l * 16 + digV c.toNat) % 65536 := by simp [accM]
theorem acc_snoc (l : List UInt8) (c : UInt8) : acc (l ++ [c]) = acc l * 16 + digV c.toNat := by simp [acc]
theorem allB_snoc (l : List UInt8) (c : UInt8) : allB (l ++ [c]) = (allB l && digB c.toNat) := by simp [allB]
theorem accM_lt (l : List UInt8) : accM l < 65536 := by
  rcases List.eq_nil_or_concat l with rfl | ⟨l, c, rfl⟩
  · decide
  · rw [List.concat_eq_append, accM_snoc]; omega

theorem acc_lt (n : Nat) : ∀ l : List UInt8, l.length = n → acc l < 16 ^ n := by
  induction n with
  | zero => intro l h; rw [List.eq_nil_of_length_eq_zero h]; decide
  | succ n ih =>
    intro l h
    rcases List.eq_nil_or_concat l with rfl | ⟨l, c, rfl⟩
    · simp at h
    · rw [List.concat_eq_append, acc_snoc]
      have := ih l (by simpa using h)
      have := digV_lt c.toNat
      have e : 16 ^ (n + 1) = 16 ^ n * 16 := rfl
      omega

theorem accM_acc (n : Nat) (hn : n ≤ 4) : ∀ l : List UInt8, l.length = n → accM l = acc l := by
  induction n with
  | zero => intro l h; rw [List.eq_nil_of_length_eq_zero h]; rfl
  | succ n ih =>
    intro l h
    rcases List.eq_nil_or_concat l with rfl | ⟨l, c, rfl⟩
    · simp at h
    · rw [List.concat_eq_append, accM_snoc, acc_snoc, ih (by omega) l (by simpa using h)]
      have h1 := acc_lt n l (by simpa using h)
      have := digV_lt c.toNat
      have : 16 ^ n ≤ 16 ^ 3 := Nat.pow_le_pow_right (by omega) (by omega)
      have : (16 : Nat) ^ 3 = 4096 := by decide
      omega

theorem take_snoc (s : ByteArray) (k : Nat) (h : k < s.size) : s.data.toList.take (k + 1) = s.data.toList.take k ++ [s[k]] := by
  rw [List.take_succ_eq_append_getElem (by simpa using h)]; rfl

theorem or4 (d x : Nat) (hx : x < 16) : bits BinOp.or IntKind.u16 (IntKind.u16.wrap ((d : Int) * 16)) (x : Int) = (((d * 16 + x) % 65536 : Nat) : Int) := by
  have e : IntKind.u16.wrap ((d : Int) * 16) = ((d % 4096 : Nat) : Int) * 16 := by rw [IntKind.wrap_u16]; omega
  rw [e, or16 x (d % 4096) hx (by omega)]
  omega

theorem allB_take (s : List UInt8) (k : Nat) (h : allB (s.take k) = false) : allB s = false := by
  unfold allB at *
  rw [Bool.eq_false_iff] at *
  intro h2
  apply h
  rw [List.all_eq_true] at *
  exact fun x hx => h2 x (List.mem_of_mem_take hx)

theorem part_ok (l : List UInt8) (n : Nat) (hn : l.length = n) (h : 1 ≤ n ∧ n ≤ 4) (ha : allB l = true) : partB l = true ∧ partV l = scale n (acc l) := by
  have e : partB l = true := by unfold partB; rw [ha, hn, decide_eq_true h]; rfl
  exact ⟨e, by unfold partV; rw [if_pos e, hn]⟩

set_option maxHeartbeats 2000000 in
theorem part_any (s : ByteArray) (hm : s.size ≤ maxLen) (w : World) : Calls Try.prog 39 #[.string s] w fun e w' => e = .returned (.tuple #[.int .u16 (partV s.data.toList : Nat), .bool (partB s.data.toList)]) ∧ w = w' := by
  unfold maxLen at hm
  go_enter Try.func39, Try.ntmps39
  go_wp2
  go_loop [4, 10] (fun d i => ∃ k : Nat, k ≤ s.size ∧ i = .int .i64 k ∧ d = .int .u16 (accM (s.data.toList.take k) : Nat) ∧ allB (s.data.toList.take k) = true) (fun _ i => s.size - (intOf i).toNat)
  case atStart => exact ⟨0, Nat.zero_le _, rfl, rfl, rfl⟩
  case round =>
    obtain ⟨k, hk, rfl, rfl, ha⟩ := hrel
    have HA := Lib.hid ha
    clear ha
    have hd := accM_lt (s.data.toList.take k)
    by_cases hlt : k < s.size
    · have HS := Lib.hid (take_snoc s k hlt)
      have hv := digV_lt s[k].toNat
      have HO := Lib.hid (or4 (accM (s.data.toList.take k)) (digV s[k].toNat) hv)
      have hb : s[k].toNat < 256 := s[k].toNat_lt
      by_cases hg : digB s[k].toNat = true
      · go_wp2_with fail
        refine (digit_any _ hb _).mono ?_
        rintro e w' ⟨rfl, rfl⟩
        go_wp2
        go_round
        case rel => exact ⟨k + 1, by omega, by go_num, by rw [HS.out, accM_snoc, HO.out], by rw [HS.out, allB_snoc, HA.out, hg]; rfl⟩
        case measure => simp [intOf]; omega
      · have hgf : digB s[k].toNat = false := by simpa using hg
        go_wp2_with fail
        refine (digit_any _ hb _).mono ?_
        rintro e w' ⟨rfl, rfl⟩
        go_wp2
        go_ret2
        have e1 : partB s.data.toList = false := by
          unfold partB
          rw [allB_take s.data.toList (k + 1) (by rw [HS.out, allB_snoc, hgf]; simp)]
          rfl
        exact ⟨ret_ib (by unfold partV; rw [e1]; rfl) e1.symm, rfl⟩
    · have hks : k = s.size := by omega
      subst hks
      have e0 : s.data.toList.take s.size = s.data.toList := List.take_of_length_le (by simp)
      have hl : s.data.toList.length = s.size := by simp
      rw [e0] at hd HA
      rw [e0]
      clear e0
      by_cases h1 : s.size = 1
      · have f := part_ok s.data.toList 1 (hl.trans h1) (by decide) HA.out
        have hb := acc_lt 1 s.data.toList (hl.trans h1)
        rw [accM_acc 1 (by omega) s.data.toList (hl.trans h1)]
        have f1 := Lib.hid f.1
        have f2 := Lib.hid f.2
        have t1 : ((s.size : Int) == 1) = true := by rw [h1]; rfl
        have hb' : acc s.data.toList < 16 := hb
        clear f hl hd HA h1 hb
        go_wp2
        go_ret2
        exact ⟨ret_ib (by rw [f2.out]; simp [scale]) f1.out.symm, rfl⟩
      · have t1 : ((s.size : Int) == 1) = false := by simp; omega
        by_cases h2 : s.size = 2
        · have f := part_ok s.data.toList 2 (hl.trans h2) (by decide) HA.out
          have hb := acc_lt 2 s.data.toList (hl.trans h2)
          rw [accM_acc 2 (by omega) s.data.toList (hl.trans h2)]
          have f1 := Lib.hid f.1
          have f2 := Lib.hid f.2
          have t2 : ((s.size : Int) == 2) = true := by rw [h2]; rfl
          have hb' : acc s.data.toList < 256 := hb
          clear f hl hd HA h1 h2 hb
          go_wp2_with fail
          refine (twice_any _ hb' _).mono ?_
          rintro e w' ⟨rfl, rfl⟩
          go_wp2
          go_ret2
          exact ⟨ret_ib (by rw [f2.out]; simp [scale]) f1.out.symm, rfl⟩
        · have t2 : ((s.size : Int) == 2) = false := by simp; omega
          by_cases h3 : s.size = 3
          · have f := part_ok s.data.toList 3 (hl.trans h3) (by decide) HA.out
            have hb := acc_lt 3 s.data.toList (hl.trans h3)
            rw [accM_acc 3 (by omega) s.data.toList (hl.trans h3)]
            have f1 := Lib.hid f.1
            have f2 := Lib.hid f.2
            have t3 : ((s.size : Int) == 3) = true := by rw [h3]; rfl
            have hb' : acc s.data.toList < 4096 := hb
            have hq := Lib.hid (or16 (acc s.data.toList / 256) (acc s.data.toList) (by omega) (by omega))
            clear f hl hd HA h1 h2 h3 hb
            go_wp2
            go_ret2
            exact ⟨ret_ib (by rw [f2.out]; simp [scale]; exact hq.out) f1.out.symm, rfl⟩
          · have t3 : ((s.size : Int) == 3) = false := by simp; omega
            by_cases h4 : s.size = 4
            · have f := part_ok s.data.toList 4 (hl.trans h4) (by decide) HA.out
              rw [accM_acc 4 (by omega) s.data.toList (hl.trans h4)]
              have f1 := Lib.hid f.1
              have f2 := Lib.hid f.2
              have t4 : ((s.size : Int) == 4) = true := by rw [h4]; rfl
              clear f hl hd HA h1 h2 h3 h4
              go_wp2
              go_ret2
              exact ⟨ret_ib (by rw [f2.out]; simp [scale]) f1.out.symm, rfl⟩
            · have t4 : ((s.size : Int) == 4) = false := by simp; omega
              have f1 : partB s.data.toList = false := by
                unfold partB
                rw [decide_eq_false (by omega)]
                simp
              have f2 : partV s.data.toList = 0 := by unfold partV; rw [f1]; rfl
              have F1 := Lib.hid f1
              have F2 := Lib.hid f2
              clear f1 f2 hl hd HA h1 h2 h3 h4
              go_wp2
              go_ret2
              exact ⟨ret_ib (by rw [F2.out]; rfl) F1.out.symm, rfl⟩
end Go.Proofs.Ythcncghhjlaicaa.Lab
