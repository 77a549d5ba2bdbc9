/- The Go law ParamBounds: its walk. -/
import Derived.Test.YtijnjeibnochpaaDoorPaFacts
import Derived.Deep.CutBlock
import Derived.Deep.DeepCutAuto
namespace Go.Proofs.YtijnjeibnochpaaDoor.Lab
open Go.RowKit

set_option maxRecDepth 100000 in
set_option maxHeartbeats 16000000 in
theorem bounds_any (a a' : Option Addr) (len cap len' cap' : Nat) (T T' : Nat → Int) (w : World) (h1 : IsBytes w a len cap T) (h2 : IsBytes w a' len' cap' T') (hT : TB w) :
    Calls Tryd.prog 4 #[.slice a len cap, .slice a' len' cap'] w fun e w' => e = .returned (.bool true) ∧ Below w.heap.size w w' := by
  have H1 := Lib.hid h1
  have H2 := Lib.hid h2
  have HT := Lib.hid hT
  clear h1 h2 hT
  go_enter Tryd.func4, Tryd.ntmps4
  go_wp2_with fail
  refine (works_any _ HT.out.1).mono ?_
  rintro e w1 ⟨rfl, b1⟩
  have HB1 := Lib.hid b1
  have HT1 := Lib.hid (HT.out.on b1)
  clear b1
  go_wp2_with fail
  refine (drawn_any a len cap T _ (H1.out.on HB1.out)).mono ?_
  rintro e w2 ⟨s0, rfl, hs0, b2⟩
  have HB2 := Lib.hid (HB1.out.trans (b2.mono HB1.out.size))
  have HT2 := Lib.hid (HT1.out.on b2)
  clear b2 HB1 HT1
  go_wp2_with fail
  refine (map_any s0 hs0 _ HT2.out.2).mono ?_
  rintro e w3 ⟨s, rfl, ⟨hs, hg⟩, b3⟩
  have HG := Lib.hid hg
  have HB3 := Lib.hid (HB2.out.trans (b3.mono HB2.out.size))
  have HT3 := Lib.hid (HT2.out.on b3)
  clear b3 HB2 HT2 hs0 hg
  go_wp2_with fail
  refine (new_any _).mono ?_
  rintro e w4 ⟨rfl, L4, b4⟩
  obtain ⟨B, hB⟩ : ∃ B, B = w3.heap.size := ⟨_, rfl⟩
  rw [← hB] at L4 ⊢
  have hBlo : w.heap.size ≤ B := by rw [hB]; exact HB3.out.size
  have HL4 := Lib.hid L4
  have HB4 := Lib.hid (HB3.out.trans (b4.mono HB3.out.size))
  clear b4 HB3 HT3 L4 hB
  go_wp2
  go_loopw [7] (fun i wr => ∃ k : Nat, k ≤ 20 ∧ i = .int .i64 k ∧ Hid (LAt wr B (runO (rep k s.data.toList))) ∧ Hid (Below w.heap.size w wr)) (fun i _ => 20 - (intOf i).toNat)
  case atStart => exact ⟨0, by omega, rfl, HL4, HB4⟩
  case round =>
    obtain ⟨wo, rfl⟩ : ∃ wo : World, wo = wr := ⟨_, rfl⟩
    obtain ⟨k, hk, rfl, HL, HB⟩ := hrel
    by_cases hk20 : k < 20
    · have hk20' : (k : Int) < 20 := by omega
      go_wp2
      go_loopw [8] (fun i wr => ∃ j : Nat, j ≤ s.size ∧ i = .int .i64 j ∧ Hid (LAt wr B (runO (rep k s.data.toList ++ s.data.toList.take j))) ∧ Hid (Below w.heap.size w wr)) (fun i _ => s.size - (intOf i).toNat)
      case atStart => exact ⟨0, by omega, rfl, by simpa using HL, HB⟩
      case round =>
        clear HL HB
        obtain ⟨j, hj, rfl, HL, HB⟩ := hrel
        by_cases hlt : j < s.size
        · have C := Lib.hid (byte_at wr B _ s[j] (HG.out j hlt) HL.out)
          have HS := Lib.hid (take_snoc s j hlt)
          go_wp2_with fail
          refine C.out.mono ?_
          rintro e w5 ⟨rfl, L5, b5⟩
          have HL5 := Lib.hid (show LAt w5 B (runO (rep k s.data.toList ++ s.data.toList.take (j + 1))) by rw [HS.out, ← List.append_assoc, runO_snoc]; exact L5)
          have HB5 := Lib.hid (HB.out.trans (b5.below hBlo HB.out.size))
          clear L5 b5 C HS HL HB
          go_wp2
          go_roundw
          case rel => exact ⟨j + 1, by omega, by go_num, HL5, HB5⟩
          case measure => simp [intOf]; omega
        · have HL5 := Lib.hid (show LAt wr B (runO (rep (k + 1) s.data.toList)) by
            rw [rep_succ]
            have e : s.data.toList.take j = s.data.toList := List.take_of_length_le (by rw [← Lib.size_eq]; omega)
            have := HL.out
            rwa [e] at this)
          clear HL
          go_wp2
          go_roundw
          case rel => exact ⟨k + 1, by omega, by go_num, HL5, HB⟩
          case measure => simp [intOf]; omega
    · obtain rfl : k = 20 := by omega
      have C := Lib.hid (all_any wo B _ HL.out)
      go_wp2_with fail
      refine C.out.mono ?_
      rintro e w5 ⟨v, rfl, R5, b5⟩
      obtain ⟨P, hP⟩ : ∃ P, rowsO (runO (rep 20 s.data.toList)) = P := ⟨_, rfl⟩
      have okP := HL.out.okR
      rw [hP] at R5 okP
      obtain ⟨av, cv, rfl⟩ := R5.slice
      obtain ⟨n, hn⟩ : ∃ n, n = P.length := ⟨_, rfl⟩
      rw [← hn] at R5 ⊢
      have hn32 : n ≤ 32 := by rw [hn]; exact okP.1
      have HP := Lib.hid hP
      have HN := Lib.hid hn
      have HOK := Lib.hid okP.2
      have HR5 := Lib.hid R5
      have HB5 := Lib.hid (HB.out.trans (b5.mono HB.out.size))
      have HL5 := Lib.hid (HL.out.below b5)
      have hlo := HL.out.lt
      generalize wo.heap.size = lo at HR5 hlo
      clear R5 b5 C HL HB hP hn okP HL4 HB4
      go_upto_region 14 with (fail)
      go_cut [56] (fun t wc => t = .bool false ∧ wc = w5)
      case first =>
        by_cases hse : s.size = 0
        · obtain rfl : s = ⟨#[]⟩ := by
            obtain ⟨⟨l⟩⟩ := s
            have : l = [] := List.length_eq_zero_iff.1 hse
            subst this
            rfl
          have hn0 : n = 0 := by
            rw [HN.out, ← HP.out]
            rfl
          subst hn0
          go_wp2
          go_meet
          case rel => exact ⟨rfl, rfl⟩
        · have hne : s.data.toList ≠ [] := by
            intro e
            have := congrArg List.length e
            rw [← Lib.size_eq] at this
            exact hse this
          have hlen : n = min 32 (1 + 20 * s.data.toList.count 59) := by
            rw [HN.out, ← HP.out, rows_len (rep_ne hne 19), rep_count]
          have C := Lib.hid (Tryd.strings_Count_one s 59 w5)
          unfold Lib.countByte at C
          have hc400 : s.data.toList.count 59 ≤ 400 := Nat.le_trans List.count_le_length (by rw [← Lib.size_eq]; exact hs)
          generalize s.data.toList.count 59 = c at *
          have hne2 : ¬ s.toList = [] := by
            rw [ByteArray.toList_eq]
            exact hne
          clear hne
          have hc : (n = 32 ∧ 32 ≤ 1 + 20 * c) ∨ (n = 1 + 20 * c ∧ 1 + 20 * c < 32) := by omega
          clear hlen
          rcases hc with ⟨hc1, hc2⟩ | ⟨hc1, hc2⟩
          · subst hc1
            have g1 : ¬ (1 + 20 * (c : Int)) < 32 := by omega
            go_wp2_with fail
            refine C.out.mono ?_
            rintro e w6 ⟨rfl, rfl⟩
            go_wp2
            go_meet
            case rel =>
              have hm : min (32 : Int) (1 + 20 * (c : Int)) = 32 := by omega
              exact ⟨by simp [hm], rfl⟩
          · subst hc1
            have g1 : (1 + 20 * (c : Int)) < 32 := by omega
            go_wp2_with fail
            refine C.out.mono ?_
            rintro e w6 ⟨rfl, rfl⟩
            go_wp2
            go_meet
            case rel =>
              have hm : min (32 : Int) (1 + 20 * (c : Int)) = 1 + 20 * (c : Int) := by omega
              exact ⟨by simp [hm]; omega, rfl⟩
      case rest =>
        obtain ⟨rfl, rfl⟩ := hcut
        have HL6 := HL5
        have HR6 := HR5
        have HB6 := HB5
        clear HL5 HR5 HB5
        go_wp2
        go_loop [10] (fun i => ∃ k : Nat, k ≤ n ∧ i = .int .i64 k) (fun i => n - (intOf i).toNat)
        case atStart => exact ⟨0, Nat.zero_le _, rfl⟩
        case round =>
          obtain ⟨k, hk, rfl⟩ := hrel
          by_cases hkn : k < n
          · have hkP : k < P.length := by rw [← HN.out]; exact hkn
            obtain ⟨g, u, rfl, _, _, c1, I⟩ := HR6.out.row hkP
            obtain ⟨g', c', cur, rfl, _, _, _, _, k1, _⟩ := I.open
            obtain ⟨q, hq⟩ : ∃ q, P.getD k [] = q := ⟨_, rfl⟩
            have hqok := HOK.out q (hq ▸ getD_mem [] hkP)
            rw [hq] at c1 k1
            obtain ⟨m, hm⟩ : ∃ m, m = q.length := ⟨_, rfl⟩
            rw [← hm] at c1 k1
            have hm1 : 1 ≤ m := by rw [hm]; exact hqok.1
            have hm8 : m ≤ 8 := by rw [hm]; exact hqok.2.1
            have HK := Lib.hid k1
            have HM := Lib.hid hm
            have HQ := Lib.hid hqok.2.2
            clear k1 hm hqok hq I
            go_wp2
            go_loop [11] (fun i => ∃ j : Nat, j ≤ m ∧ i = .int .i64 j) (fun i => m - (intOf i).toNat)
            case atStart => exact ⟨0, Nat.zero_le _, rfl⟩
            case round =>
              obtain ⟨j, hj, rfl⟩ := hrel
              by_cases hjm : j < m
              · have c2 := HK.out j hjm
                obtain ⟨x0, x1⟩ := HQ.out _ (getD_mem 0 (show j < q.length by rw [← HM.out]; exact hjm))
                generalize q.getD j 0 = x at *
                go_wp2
                go_round
                case rel => exact ⟨j + 1, by omega, by go_num⟩
                case measure => simp [intOf]; omega
              · go_wp2
                go_round
                case rel => exact ⟨k + 1, by omega, by go_num⟩
                case measure => simp [intOf]; omega
          · have HB7 := HB6
            clear HB6
            go_wp2_with fail
            refine (drawn_any a' len' cap' T' _ (H2.out.on HB7.out)).mono ?_
            rintro e w7 ⟨s1, rfl, hs1, b7⟩
            have HT7 := Lib.hid (HT.out.on (HB7.out.trans (b7.mono HB7.out.size)))
            have HB8 := Lib.hid (HB7.out.trans (b7.mono HB7.out.size))
            have HL7 := Lib.hid (HL6.out.below b7)
            have HR7 := Lib.hid (HR6.out.below b7)
            clear b7 HB7 HL6 HR6
            go_wp2_with fail
            refine (map_any s1 hs1 _ HT7.out.2).mono ?_
            rintro e w8 ⟨t, rfl, ⟨ht, hgt⟩, b8⟩
            have HGT := Lib.hid hgt
            have HB9 := Lib.hid (HB8.out.trans (b8.mono HB8.out.size))
            have HL8 := Lib.hid (HL7.out.below b8)
            have HR8 := Lib.hid (HR7.out.below b8)
            clear b8 HB8 HL7 HR7 hgt hs1 HT7
            go_wp2
            go_loopw [13] (fun i wr => ∃ j : Nat, j ≤ t.size ∧ i = .int .i64 j ∧ Hid (LAt wr B ((t.data.toList.take j).foldl stepO (runO (rep 20 s.data.toList)))) ∧ Hid (RowsAt wr lo (.slice av n cv) P) ∧ Hid (Below w.heap.size w wr)) (fun i _ => t.size - (intOf i).toNat)
            case atStart => exact ⟨0, Nat.zero_le _, rfl, by simpa using HL8, HR8, HB9⟩
            case round =>
              clear HL8 HR8 HB9
              obtain ⟨j, hj, rfl, HL9, HR9, HB9⟩ := hrel
              by_cases hlt : j < t.size
              · have C := Lib.hid (byte_at wr B _ t[j] (HGT.out j hlt) HL9.out)
                have HS := Lib.hid (take_snoc t j hlt)
                go_wp2_with fail
                refine C.out.mono ?_
                rintro e w10 ⟨rfl, L10, b10⟩
                have HL10 := Lib.hid (show LAt w10 B ((t.data.toList.take (j + 1)).foldl stepO (runO (rep 20 s.data.toList))) by rw [HS.out, List.foldl_append]; exact L10)
                have HB10 := Lib.hid (HB9.out.trans (b10.below hBlo HB9.out.size))
                have HR10 := Lib.hid (HR9.out.but b10 hlo)
                clear L10 b10 C HS HL9 HB9 HR9
                go_wp2
                go_roundw
                case rel => exact ⟨j + 1, by omega, by go_num, HL10, HR10, HB10⟩
                case measure => simp [intOf]; omega
              · have C := Lib.hid (all_any wr B _ HL9.out)
                go_wp2_with fail
                refine C.out.mono ?_
                rintro e w10 ⟨v2, rfl, R10, b10⟩
                obtain ⟨Q, hQ⟩ : ∃ Q, rowsO ((t.data.toList.take j).foldl stepO (runO (rep 20 s.data.toList))) = Q := ⟨_, rfl⟩
                have okQ := HL9.out.okR.1
                have MR := more_rows (runO (rep 20 s.data.toList)) (t.data.toList.take j)
                rw [hQ, HP.out, ← HN.out] at MR
                rw [hQ] at R10 okQ
                obtain ⟨aq, cq, rfl⟩ := R10.slice
                obtain ⟨n2, hn2⟩ : ∃ n2, n2 = Q.length := ⟨_, rfl⟩
                rw [← hn2] at R10 okQ MR ⊢
                have hnn : n ≤ n2 := MR.1
                have HEQ := Lib.hid MR.2
                have HN2 := Lib.hid hn2
                have HQ := Lib.hid R10
                have HP10 := Lib.hid (HR9.out.below b10)
                have HB10 := Lib.hid (HB9.out.trans (b10.mono HB9.out.size))
                generalize wr.heap.size = lo2 at HQ
                clear R10 b10 C HL9 HB9 HR9 hQ hn2 MR
                go_upto_region 32 with (fail)
                go_cut [138] (fun t wc => t = .bool false ∧ wc = w10)
                case first =>
                  by_cases hn2' : n = 32
                  · obtain ⟨g, u, rfl, _, _, c1, I⟩ := HP10.out.row (i := 31) (by rw [← HN.out]; omega)
                    obtain ⟨g', c', cur, rfl, _⟩ := I.open
                    obtain rfl : n2 = 32 := by omega
                    subst hn2'
                    generalize (P.getD 31 []).length = m at c1
                    have C := Lib.hid (Tryd.strings_Contains_one s 59 w10)
                    generalize decide (0 ≤ Lib.indexByte s.data.toList 59) = bb at C
                    clear I
                    by_cases hm8 : m = 8
                    · subst hm8
                      go_wp2_with fail
                      refine C.out.mono ?_
                      rintro e w11 ⟨rfl, rfl⟩
                      cases bb
                      · go_wp2
                        go_meet
                        case rel => exact ⟨rfl, rfl⟩
                      · go_wp2
                        go_meet
                        case rel => exact ⟨rfl, rfl⟩
                    · have e8 : ((m : Int) == 8) = false := by simp; omega
                      go_wp2
                      go_meet
                      case rel => exact ⟨rfl, rfl⟩
                  · have e32 : ((n : Int) == 32) = false := by simp; omega
                    go_wp2
                    go_meet
                    case rel => exact ⟨rfl, rfl⟩
                case rest =>
                  obtain ⟨rfl, rfl⟩ := hcut
                  have HP11 := HP10
                  have HQ11 := HQ
                  have HB11 := HB10
                  clear HP10 HQ HB10
                  go_wp2
                  go_loopw [15] (fun i wr => ∃ k m : Nat, k ≤ n ∧ i = .int .i64 k ∧ Hid (wr = wc.drewN m)) (fun i _ => n - (intOf i).toNat)
                  case atStart => exact ⟨0, 0, Nat.zero_le _, rfl, Lib.hid rfl⟩
                  case round =>
                    obtain ⟨k, m, hk, rfl, HW⟩ := hrel
                    have hb : Below wc.heap.size wc wr := by rw [HW.out]; exact ⟨rfl, rfl, rfl, Nat.le_refl _, fun _ _ => rfl⟩
                    have HBW := Lib.hid hb
                    clear hb
                    by_cases hkn : k + 1 < n
                    · have hkn' : (k : Int) + 1 < n := by omega
                      obtain ⟨g, u, rfl, _, _, c1, I1⟩ := (HP11.out.below HBW.out).row (i := k) (by rw [← HN.out]; omega)
                      obtain ⟨g2, u2, rfl, _, _, c2, I2⟩ := (HQ11.out.below HBW.out).row (i := k) (by rw [← HN2.out]; omega)
                      rw [HEQ.out k hkn] at I2
                      have C := Lib.hid (fun q => row_at (I1.below (w' := wr.drewN q) ⟨rfl, rfl, rfl, Nat.le_refl _, fun _ _ => rfl⟩) (I2.below (w' := wr.drewN q) ⟨rfl, rfl, rfl, Nat.le_refl _, fun _ _ => rfl⟩))
                      have d1 : decide (n2 ≤ k) = false := by simp; omega
                      have k2 : k < n2 := by omega
                      clear I1 I2
                      go_wp2
                      go_quiet ((go_at_call 19; exact Calls.quiet_of (C.out _)))
                      have HW2 := Lib.hid (show wr.drewN nq = wc.drewN (m + nq) by rw [HW.out, World.drewN_drewN])
                      clear c1 c2 HW C HBW
                      go_wp2
                      go_roundw
                      case rel => exact ⟨k + 1, m + nq, by omega, by go_num, HW2⟩
                      case measure => simp [intOf]; omega
                    · have hkn' : ¬ (k : Int) + 1 < n := by omega
                      have HE := Lib.hid (HB11.out.trans (HBW.out.mono HB11.out.size))
                      go_wp2
                      go_ret
                      exact ⟨rfl, HE.out⟩
end Go.Proofs.YtijnjeibnochpaaDoor.Lab
