/- The reference's params: parameters in bytes. -/
import Derived.Test.YtclaopidjfekmaaDoorToDig
namespace Go.Proofs.YtclaopidjfekmaaDoor.Lab
open Go Go.RowKit

theorem nums_len (l : List Int) (h : ∀ x ∈ l, -1 ≤ x ∧ x ≤ 65535) : (rowT l).length ≤ 6 * l.length :=
  joinT_len 58 numT 5 l fun x hx => num_len (h x hx).1 (h x hx).2
theorem rows_len (R : Rws) (hl : R.length ≤ 32) (h : ∀ r ∈ R, okRow r) (k : Nat) : (allT (R.take k)).length ≤ 1568 :=
  all_len (by rw [List.length_take]; omega) fun r hr => h r (List.mem_of_mem_take hr)

set_option maxHeartbeats 8000000 in
set_option maxRecDepth 100000 in
theorem rparams_any (v : Value) (R : Rws) (w : World) (hM : MatAt w v R) (hl : R.length ≤ 32) (hr : ∀ r ∈ R, okRow r) :
    Calls Tryd.prog 72 #[v] w fun e w' => e = .returned (.string (strL (allT R))) ∧ Below w.heap.size w w' := by
  obtain ⟨a, cp, rfl, _, hc⟩ := hM
  have HRL := Lib.hid (fun k => rows_len R hl hr k)
  obtain ⟨n, hnn⟩ : ∃ n, R.length = n := ⟨_, rfl⟩
  rw [hnn] at hc hl ⊢
  have HC := Lib.hid hc
  have HN := Lib.hid hnn
  have HR := Lib.hid hr
  clear hc hnn hr
  go_enter Tryd.func72, Tryd.ntmps72
  go_wp2
  go_loopw [3, 4, 5] (fun s i _ wr => ∃ (k : Nat) (X : ByteArray), k ≤ n ∧ i = .int .i64 k ∧ s = .string X ∧ Hid (bl X = allT (R.take k)) ∧ Hid (Below w.heap.size w wr)) (fun _ i _ _ => n - (intOf i).toNat)
  case atStart => exact ⟨0, ⟨#[]⟩, Nat.zero_le _, rfl, rfl, Lib.hid rfl, Lib.hid (Below.refl _ _)⟩
  case round =>
    obtain ⟨wo, rfl⟩ : ∃ wo : World, wo = wr := ⟨_, rfl⟩
    obtain ⟨k, X, hk, rfl, rfl, HX, HB⟩ := hrel
    by_cases hlt : k < n
    · obtain ⟨g, o, ha, hcell⟩ := HC.out (by omega)
      obtain ⟨u, cu0, hu0⟩ := hcell k hlt
      have HTK := Lib.hid (take_at' R [] (k := k) (by rw [HN.out]; exact hlt))
      have HRO := Lib.hid (HR.out _ (getD_mem' (l := R) [] (k := k) (by rw [HN.out]; exact hlt)))
      obtain ⟨y, hy⟩ : ∃ y, R.getD k [] = y := ⟨_, rfl⟩
      rw [hy] at HTK HRO hu0
      obtain ⟨ra, rc, rfl, hym, hyc⟩ := hu0
      obtain ⟨q, hq⟩ : ∃ q, y.length = q := ⟨_, rfl⟩
      have hq1 : 1 ≤ q := by rw [← hq]; exact HRO.out.1
      have hq8 : q ≤ 8 := by rw [← hq]; exact HRO.out.2.1
      rw [hq] at cu0 hyc
      have HQ := Lib.hid hq
      have HYC := Lib.hid hyc
      have HCU := Lib.hid cu0
      have hsX : X.size ≤ 1568 := by have h1 := HRL.out k; rw [← HX.out, bl_len] at h1; exact h1
      have n0 : ¬ 9223372036854775807 < X.size + 1 := by omega
      have HKL := Lib.hid (show (R.take k).length = k by rw [List.length_take, HN.out]; omega)
      clear hcell hy hq hyc hym cu0
      subst ha
      go_upto_if 13 with (fail)
      go_cut [3] (fun x wc => wc = wo ∧ ∃ Z, x = .string Z ∧ Hid (bl Z = allT (R.take k) ++ (if k = 0 then [] else [59])))
      case first =>
        by_cases h0 : k = 0
        · have HZ := Lib.hid (show bl X = allT (R.take k) ++ (if k = 0 then [] else [59]) by rw [HX.out, if_pos h0]; simp)
          have hk0 : ¬ 0 < k := by omega
          clear h0
          go_wp2
          go_meet
          case rel => exact ⟨rfl, X, rfl, HZ⟩
        · have HZ := Lib.hid (show bl (X ++ ⟨#[59]⟩) = allT (R.take k) ++ (if k = 0 then [] else [59]) by rw [bl_cat, HX.out, if_neg h0])
          have hk0 : 0 < k := by omega
          clear h0
          go_wp2
          go_meet
          case rel => exact ⟨rfl, _, rfl, HZ⟩
      case rest =>
        obtain ⟨hww, Z, rfl, HZ⟩ := hcut
        subst hww
        have hsZ : Z.size ≤ 1569 := by
          have h1 := HRL.out k
          have h2 : Z.size = (allT (R.take k) ++ (if k = 0 then [] else [59])).length := by rw [← HZ.out, bl_len]
          rw [List.length_append] at h2
          have h3 : (if k = 0 then [] else [59] : List UInt8).length ≤ 1 := by split <;> simp
          omega
        clear hsX n0 HX
        go_upto_block 2 with (fail)
        go_wp2_with fail
        go_loopw [3, 5] (fun s j wr => ∃ (l : Nat) (Y : ByteArray), l ≤ q ∧ j = .int .i64 l ∧ s = .string Y ∧ Hid (bl Y = bl Z ++ rowT (y.take l)) ∧ Hid (Below wc.heap.size wc wr)) (fun _ j _ => q - (intOf j).toNat)
        case atStart => exact ⟨0, Z, Nat.zero_le _, rfl, rfl, Lib.hid (by simp [rowT, joinT]), Lib.hid (Below.refl _ _)⟩
        case round =>
          obtain ⟨wi, rfl⟩ : ∃ wi : World, wi = wr := ⟨_, rfl⟩
          obtain ⟨l, Y, hl2, rfl, rfl, HY, HBI⟩ := hrel
          have HBW := Lib.hid (HB.out.trans (HBI.out.mono HB.out.size))
          have cu := Keeps.of HBW.out _ _ _ HCU.out
          by_cases hll : l < q
          · obtain ⟨g2, o2, ha2, hn2⟩ := HYC.out (by omega)
            have cx := Keeps.of HBW.out _ _ _ (hn2 l hll)
            have HTL := Lib.hid (take_at' y 0 (k := l) (by rw [HQ.out]; exact hll))
            have hbx := HRO.out.2.2 _ (getD_mem' (l := y) 0 (k := l) (by rw [HQ.out]; exact hll))
            obtain ⟨x, hx⟩ : ∃ x, y.getD l 0 = x := ⟨_, rfl⟩
            rw [hx] at HTL cx hbx
            have HBX := Lib.hid hbx
            have hsY : Y.size ≤ 1617 := by
              have h1 := nums_len (y.take l) (fun z hz => HRO.out.2.2 z (List.mem_of_mem_take hz))
              have h2 : Y.size = (bl Z ++ rowT (y.take l)).length := by rw [← HY.out, bl_len]
              rw [List.length_append, bl_len] at h2
              rw [List.length_take, HQ.out] at h1
              omega
            have HLL := Lib.hid (show (y.take l).length = l by rw [List.length_take, HQ.out]; omega)
            have n1 : ¬ 9223372036854775807 < Y.size + 1 := by omega
            clear hn2 hx hbx
            subst ha2
            have HSN := Lib.hid (show rowT (y.take (l + 1)) = rowT (y.take l) ++ (if l = 0 then [] else [58]) ++ numT x by
              rw [HTL.out, rowT, joinT_snoc, HLL.out]
              rfl)
            by_cases hx0 : x < 0
            · have HNT := Lib.hid (show numT x = [] by rw [numT, if_pos hx0])
              have hx0' : ¬ 0 ≤ x := by omega
              by_cases hl0 : l = 0
              · have HF := Lib.hid (show bl Y = bl Z ++ rowT (y.take (l + 1)) by rw [HSN.out, HNT.out, if_pos hl0, HY.out]; simp)
                have hlp : ¬ 0 < l := by omega
                clear hl0
                go_wp2
                go_roundw
                case rel => exact ⟨l + 1, _, by omega, by go_num, rfl, HF, HBI⟩
                case measure => simp [intOf]; omega
              · have HF := Lib.hid (show bl (Y ++ ⟨#[58]⟩) = bl Z ++ rowT (y.take (l + 1)) by rw [HSN.out, HNT.out, if_neg hl0, bl_cat, HY.out]; simp [bl])
                have hlp : 0 < l := by omega
                clear hl0
                go_wp2
                go_roundw
                case rel => exact ⟨l + 1, _, by omega, by go_num, rfl, HF, HBI⟩
                case measure => simp [intOf]; omega
            · obtain ⟨d, rfl⟩ : ∃ d : Nat, x = d := ⟨x.toNat, by omega⟩
              have HNT := Lib.hid (show numT (d : Int) = Lib.decDigits d by rw [numT, if_neg hx0, Lib.itoa_nonneg])
              have hd6 : d ≤ 1000000 := by have := HBX.out; omega
              have HND := Lib.hid (show (strL (Lib.decDigits d)).size ≤ 5 by
                rw [size_str, ← HNT.out]
                exact num_len HBX.out.1 HBX.out.2)
              have hx0' : (0 : Int) ≤ (d : Int) := by omega
              clear hx0
              by_cases hl0 : l = 0
              · have HF := Lib.hid (show bl (Y ++ strL (Lib.decDigits d)) = bl Z ++ rowT (y.take (l + 1)) by rw [HSN.out, HNT.out, if_pos hl0, bl_cat, HY.out, bl_str]; simp)
                have hlp : ¬ 0 < l := by omega
                clear hl0
                go_wp2_with fail
                refine (rdigits_any d hd6 _ _ rfl).mono ?_
                rintro e w5 ⟨rfl, b5⟩
                have hsd := HND.out
                generalize strL (Lib.decDigits d) = D at HF hsd ⊢
                have n2 : ¬ 9223372036854775807 < Y.size + D.size := by omega
                have HB5 := Lib.hid (HBI.out.trans (b5.mono HBI.out.size))
                clear b5 HND
                go_wp2
                go_roundw
                case rel => exact ⟨l + 1, _, by omega, by go_num, rfl, HF, HB5⟩
                case measure => simp [intOf]; omega
              · have HF := Lib.hid (show bl (Y ++ ⟨#[58]⟩ ++ strL (Lib.decDigits d)) = bl Z ++ rowT (y.take (l + 1)) by rw [HSN.out, HNT.out, if_neg hl0, bl_cat, bl_cat, HY.out, bl_str]; simp [bl])
                have hlp : 0 < l := by omega
                clear hl0
                go_wp2_with fail
                refine (rdigits_any d hd6 _ _ rfl).mono ?_
                rintro e w5 ⟨rfl, b5⟩
                have hsd := HND.out
                generalize strL (Lib.decDigits d) = D at HF hsd ⊢
                have n2 : ¬ 9223372036854775807 < Y.size + 1 + D.size := by omega
                have HB5 := Lib.hid (HBI.out.trans (b5.mono HBI.out.size))
                clear b5 HND
                go_wp2
                go_roundw
                case rel => exact ⟨l + 1, _, by omega, by go_num, rfl, HF, HB5⟩
                case measure => simp [intOf]; omega
          · have HF := Lib.hid (show bl Y = allT (R.take (k + 1)) by
              have ht : y.take l = y := List.take_of_length_le (by rw [HQ.out]; omega)
              rw [HTK.out, allT, joinT_snoc, HKL.out, HY.out, HZ.out, ht]
              rfl)
            clear cu
            have cu := Keeps.of HBW.out _ _ _ HCU.out
            go_wp2
            go_roundw
            case rel => exact ⟨k + 1, _, by omega, by go_num, rfl, HF, HBW⟩
            case measure => simp [intOf]; omega
    · have HF := Lib.hid (show bl X = bl (strL (allT R)) by rw [HX.out, bl_str, List.take_of_length_le (by rw [HN.out]; omega)])
      go_wp2
      go_ret
      exact ⟨ret_str HF.out, HB.out⟩
end Go.Proofs.YtclaopidjfekmaaDoor.Lab
