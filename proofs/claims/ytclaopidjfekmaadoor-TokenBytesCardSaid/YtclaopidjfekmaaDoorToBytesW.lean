/- The Go law TokenBytes. -/
import Derived.Test.YtclaopidjfekmaaDoorToDrafts
import Derived.Test.YtclaopidjfekmaaDoorToWorks
namespace Go.Proofs.YtclaopidjfekmaaDoor.Lab
open Go Go.RowKit

theorem headD_get {l : List UInt8} (h : 0 < l.length) : l.headD 0 = l[0] := by
  cases l with
  | nil => simp at h
  | cons a m => rfl

set_option maxHeartbeats 16000000 in
set_option maxRecDepth 100000 in
theorem bytes_law (v : Value) (K p r f : Int) (PP : Rws) (I : List Int) (d : ByteArray) (w : World) (hD : DraftAt w v K p r f PP I d) (hP : Pow w) :
    Calls Tryd.prog 5 #[v] w fun e w' => e = .returned (.bool true) ∧ Below w.heap.size w w' := by
  obtain ⟨pv, iv, rfl, ⟨hK0, hK1⟩, ⟨hp0, hp1⟩, ⟨hf0, hf1⟩, hd, hS, hI, hB⟩ := hD
  obtain ⟨hw, hR⟩ := tokD_right K p r PP I f d hB
  have HW := Lib.hid hw
  have HRR := Lib.hid hR
  have HR := Lib.hid (right_of hw hR)
  have HO := Lib.hid (tokOk_of hw hR)
  have HP := Lib.hid hP
  obtain ⟨w1, hw1⟩ : ∃ w1, w1 = w.alloc (.cells #[.int .u8 K, .int .u8 p, .int .i32 r, pv, iv, .int .u8 f, .string d] 41) := ⟨_, rfl⟩
  have b1 : Below w.heap.size w w1 := by rw [hw1]; exact (Below.refl _ _).alloc (Nat.le_refl _) _
  have HB1 := Lib.hid b1
  have HS := Lib.hid (hS.on (Keeps.of b1))
  have HI := Lib.hid (hI.on (Keeps.of b1))
  have HT := Lib.hid (show T7 w1 w.heap.size (.int .u8 K) (.int .u8 p) (.int .i32 r) pv iv (.int .u8 f) (.string d) by rw [hw1]; exact T7.newAt w w.heap.size rfl _ _ _ _ _ _ _ _)
  clear hS hI hB hd hw hR hP b1
  go_enter Tryd.func5, Tryd.ntmps5
  go_wp2_with fail
  rw [← hw1]
  clear hw1
  refine (works_any _ (HP.out.on HB1.out)).mono ?_
  rintro e w2 ⟨rfl, b2⟩
  obtain ⟨_, ⟨c0, c1, c2, c3, c4, c5, c6⟩, _⟩ := HT.out.below b2
  have HB2 := Lib.hid (HB1.out.trans (b2.mono HB1.out.size))
  have HS2 := Lib.hid (HS.out.on (Keeps.of b2))
  have HI2 := Lib.hid (HI.out.on (Keeps.of b2))
  clear b2 HB1 HS HI HT
  go_wp2_with fail
  refine (draft_any K p r pv iv PP I f d _ hK0 hK1 hp0 hf0 hf1 HI2.out HS2.out).mono ?_
  obtain ⟨t, ht⟩ : ∃ t, tokD K p r PP I f d = t := ⟨_, rfl⟩
  rw [ht] at HW HRR HR HO ⊢
  clear ht
  rintro e w3 ⟨va, vn, vc, rfl, hM, b3⟩
  have HB3 := Lib.hid (HB2.out.trans (b3.mono HB2.out.size))
  have HM := Lib.hid hM
  clear hM b3 HB2 HS2 HI2 c0 c1 c2 c3 c4 c5 c6
  go_wp2_with fail
  obtain ⟨w4, hw4⟩ : ∃ w4, w4 = w3.alloc (.cells #[.int .i64 t.kind, .int .i32 t.rune, .int .u8 t.priv, .slice va vn vc, .string t.inter, .int .u8 t.fin, .string t.data] 27) := ⟨_, rfl⟩
  have b4 : Below w3.heap.size w3 w4 := by rw [hw4]; exact (Below.refl _ _).alloc (Nat.le_refl _) _
  have HT := Lib.hid (show T7 w4 w3.heap.size (.int .i64 t.kind) (.int .i32 t.rune) (.int .u8 t.priv) (.slice va vn vc) (.string t.inter) (.int .u8 t.fin) (.string t.data) by rw [hw4]; exact T7.newAt w3 w3.heap.size rfl _ _ _ _ _ _ _ _)
  have hsz4 : w3.heap.size + 1 = w4.heap.size := by rw [hw4]; simp
  have HB4 := Lib.hid (HB3.out.trans (b4.mono HB3.out.size))
  have HM4 := Lib.hid (HM.out.below b4)
  rw [← hw4]
  clear hw4 b4 HB3 HM
  have HC := put_tok w4 (w3.heap.size + 1) hsz4 t.kind t.rune t.priv t.fin va vn vc t.P t.inter t.data HM4.out HO.out (HP.out.on HB4.out)
  rw [show putS [⟨t.kind, t.rune, t.priv, t.P, t.inter, t.fin, t.data⟩] = tokS t from putS_one HR.out, show putE [⟨t.kind, t.rune, t.priv, t.P, t.inter, t.fin, t.data⟩] = 0 from putE_one HR.out] at HC
  refine HC.mono ?_
  rintro e w5 ⟨rfl, b5⟩
  obtain ⟨_, ⟨c0, c1, c2, c3, c4, c5, c6⟩, _⟩ := HT.out.below b5
  have HB5 := Lib.hid (HB4.out.trans (b5.mono HB4.out.size))
  obtain ⟨s, hs⟩ : ∃ s, tokS t = s := ⟨_, rfl⟩
  have hbl : bl s = tokL t := by rw [← hs]; rfl
  obtain ⟨n, hn⟩ : ∃ n, s.size = n := ⟨_, rfl⟩
  have hln : (tokL t).length = n := by rw [← hbl, ← hn]; simp [bl]
  obtain ⟨hn1, hn2⟩ := right_len HRR.out
  rw [hln] at hn1 hn2
  have HF := form_of HRR.out HW.out
  have HFI := first_of HRR.out HW.out
  have hkk := kind_of HRR.out
  have HAT := Lib.hid (show ∀ i (hi : i < n), ∃ y : Int, (0 ≤ y ∧ y ≤ 255) ∧ (y = 27 → 2 ≤ t.kind ∧ (i = 0 ∨ t.kind = 5 ∧ i + 2 = n)) ∧ y ≠ 127 ∧ (y < 32 → y ≠ 27 → t.kind = 1 ∨ t.kind = 4 ∧ i + 1 = n ∧ y = 7) ∧ (128 ≤ y → t.kind = 0 ∨ t.kind = 4 ∨ t.kind = 5) ∧ (i = 0 → (y = 27 ↔ 2 ≤ t.kind)) ∧
      ∀ w : World, (Instr.index 9 (.string s) (.int .i64 i)).run Tryd.prog w = .ok (.int .u8 y) w from fun i hi => by
    have hi' : i < (tokL t).length := by omega
    have ha := at_of HF hi'
    rw [hln] at ha
    have hss : (i : Int).toNat < s.size := by omega
    have hg : s[(i : Int).toNat]'hss = (tokL t)[i] := by
      have e1 : s[(i : Int).toNat]'hss = (bl s)[i]'(by rw [hbl]; exact hi') := rfl
      rw [e1]
      exact List.getElem_of_eq hbl _
    refine ⟨((tokL t)[i]).toNat, ⟨by omega, by have := ((tokL t)[i]).toNat_lt; omega⟩, fun h => ha.esc (by omega), fun h => ha.del (by omega), fun h h2 => ?_, fun h => ha.high (by omega), fun h0 => ?_, fun w => ?_⟩
    · rcases ha.low (by omega) (by omega) with h | h
      · exact .inl h
      · exact .inr (by omega)
    · subst h0
      rw [headD_get hi'] at HFI
      rw [← HFI]
      omega
    · rw [run_index_string _ _ _ _ _ Tryd.underlying9, dif_pos ⟨by omega, by omega⟩, hg])
  obtain ⟨k, hk⟩ : ∃ k, t.kind = k := ⟨_, rfl⟩
  rw [hk] at hkk c0 HAT
  rw [hk, hs]
  have HKK := Lib.hid hkk
  have hne : s.toList.isEmpty = false := by
    rw [← Bool.not_eq_true, List.isEmpty_iff, ByteArray.toList_eq]
    intro h
    have h2 : s.data.toList.length = 0 := by rw [h]; rfl
    have h3 : s.data.toList.length = s.size := by simp
    omega
  clear HC b5 HB4 HM4 HT hs hbl hln HF HFI hkk hk HR HRR HW HO HP hsz4
  go_upto_block 0 with (fail)
  go_cut [6, 7, 8] (fun _ _ _ wc => wc = w5)
  case first =>
    as_aux_lemma =>
    go_wp2_with fail
    go_loopw [6, 7, 8] (fun i _ _ wr => wr = w5 ∧ ∃ j : Nat, j ≤ n ∧ i = .int .i64 j) (fun i _ _ _ => n - (intOf i).toNat)
    case atStart => exact ⟨rfl, 0, Nat.zero_le _, rfl⟩
    case round =>
      obtain ⟨rfl, j, hj, rfl⟩ := hrel
      by_cases hlt : j < n
      · obtain ⟨y, ⟨hy0, hy1⟩, a1, a2, a3, a4, a5, hidx⟩ := HAT.out j hlt
        clear a5
        by_cases y27 : y = 27
        · obtain ⟨k2, hw⟩ := a1 y27
          subst y27
          have k0 : (k == 0) = false := by simp; omega
          have k1 : (k == 1) = false := by simp; omega
          clear a1 a2 a3 a4 hy0 hy1
          by_cases j0 : 0 < j
          · obtain ⟨hk5, hjn⟩ : k = 5 ∧ j + 2 = n := by omega
            subst hk5
            have f1 : ((j : Int) == (n : Int) - 2) = true := by simp; omega
            clear hw
            go_wp2
            go_roundw
            case rel => exact ⟨trivial, j + 1, by omega, by go_num⟩
            case measure => simp [intOf]; omega
          · have f1 : decide ((0 : Int) < j) = false := by simp; omega
            clear hw
            go_wp2
            go_roundw
            case rel => exact ⟨trivial, j + 1, by omega, by go_num⟩
            case measure => simp [intOf]; omega
        · have g27 : (y == 27) = false := by simpa using y27
          have g127 : (y == 127) = false := by simpa using a2
          by_cases y32 : y < 32
          · have h := a3 y32 y27
            have f32 : decide (y < 32) = true := by simpa using y32
            clear a1 a2 a3 a4
            rcases h with h | ⟨h, hjn, h7⟩
            · subst h
              go_wp2
              go_roundw
              case rel => exact ⟨trivial, j + 1, by omega, by go_num⟩
              case measure => simp [intOf]; omega
            · subst h h7
              have f1 : ((j : Int) == (n : Int) - 1) = true := by simp; omega
              go_wp2
              go_roundw
              case rel => exact ⟨trivial, j + 1, by omega, by go_num⟩
              case measure => simp [intOf]; omega
          · have f32 : decide (y < 32) = false := by simpa using y32
            by_cases y128 : 128 ≤ y
            · have h := a4 y128
              have f128 : decide (128 ≤ y) = true := by simpa using y128
              clear a1 a2 a3 a4
              rcases h with h | h | h
              · subst h
                go_wp2
                go_roundw
                case rel => exact ⟨trivial, j + 1, by omega, by go_num⟩
                case measure => simp [intOf]; omega
              · subst h
                go_wp2
                go_roundw
                case rel => exact ⟨trivial, j + 1, by omega, by go_num⟩
                case measure => simp [intOf]; omega
              · subst h
                go_wp2
                go_roundw
                case rel => exact ⟨trivial, j + 1, by omega, by go_num⟩
                case measure => simp [intOf]; omega
            · have f128 : decide (128 ≤ y) = false := by simpa using y128
              clear a1 a2 a3 a4
              go_wp2
              go_roundw
              case rel => exact ⟨trivial, j + 1, by omega, by go_num⟩
              case measure => simp [intOf]; omega
      · go_wp2
        go_meet
        case rel => rfl
  case rest =>
    subst hcut
    obtain ⟨y, ⟨hy0, hy1⟩, _, _, _, _, a5, hidxx⟩ := HAT.out 0 (by omega)
    have hidx : ∀ w : World, (Instr.index 9 (.string s) (.int .i64 0)).run Tryd.prog w = .ok (.int .u8 y) w := hidxx
    have hpos : 0 < n := by omega
    clear hidxx
    have h5 := a5 rfl
    clear a5 HAT
    have hkk := HKK.out
    clear HKK
    rcases hkk with rfl | rfl | rfl | rfl | rfl | rfl
    iterate 2
      · have y27 : (y == 27) = false := by
          rw [beq_eq_false_iff_ne]
          exact fun h => absurd (h5.1 h) (by decide)
        clear h5
        go_wp2_with fail
        go_quiet (fail)
        go_wp2
        go_ret
        exact ⟨by simp, HB5.out.trans ⟨rfl, rfl, rfl, Nat.le_refl _, fun _ _ => rfl⟩⟩
    all_goals
      obtain rfl : y = 27 := h5.2 (by decide)
      clear h5
      go_wp2_with fail
      go_quiet (fail)
      go_wp2
      go_ret
      exact ⟨by simp, HB5.out.trans ⟨rfl, rfl, rfl, Nat.le_refl _, fun _ _ => rfl⟩⟩
end Go.Proofs.YtclaopidjfekmaaDoor.Lab
