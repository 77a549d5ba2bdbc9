/- RingOwn. -/
import Derived.Test.YtnefamgjlhdffaaRgBack
import Derived.Test.YtnefamgjlhdffaaRfTake
set_option linter.unusedVariables false
namespace Go.Proofs.Ytnefamgjlhdffaa.Lab
open Go Go.RowKit

set_option maxHeartbeats 8000000 in
set_option maxRecDepth 100000 in
theorem own_any (w : World) (most : Nat) (av : Value) (AL : List Rc) (hm : most < 256) (hA : RcsIn w av AL) :
    Calls Try.prog 6 #[.int .u8 (most : Nat), av] w fun e w' => e = .returned (.bool true) ∧ Below w.heap.size w w' := by
  obtain ⟨aa, ac, rfl⟩ := hA.shape
  obtain ⟨n, hn⟩ : ∃ n, n = AL.length := ⟨_, rfl⟩
  have HNN := Lib.hid hn
  have HAA := Lib.hid hA
  have HWK := Lib.hid (works_any w)
  obtain ⟨r9, hr9⟩ : ∃ r, r = most % 9 := ⟨_, rfl⟩
  obtain ⟨room, hroom⟩ : ∃ r, r = 1 + r9 := ⟨_, rfl⟩
  have HRO := Lib.hid (show room ≤ 1000 by omega)
  have h12 : r9 < 256 := by omega
  have h13 : r9 ≤ 1000 := by omega
  have r1 : Int.tmod (most : Int) 9 = (r9 : Int) := tmod_nat (b := 9) hr9
  have r2 : IntKind.u8.wrap (r9 : Int) = (r9 : Int) := u8_id h12
  have r3 : IntKind.i64.wrap (r9 : Int) = (r9 : Int) := i64_id h13
  have r4 : IntKind.i64.wrap (1 + (r9 : Int)) = (room : Int) := i64_add (a := 1) hroom HRO.out
  have r5 : wrap64 (1 + (r9 : Int)) = (room : Int) := w64_add (a := 1) hroom HRO.out
  rw [← hn] at HAA ⊢
  clear hA hn hroom hm h12 h13 hr9
  go_enter Try.func6, Try.ntmps6
  go_wp2_with fail
  refine HWK.out.mono ?_
  rintro e wo ⟨rfl, b1⟩
  have HB0 := Lib.hid b1
  replace HAA := Lib.hid (HAA.out.below b1)
  clear b1 HWK
  obtain ⟨lo, hlo⟩ : ∃ lo, lo = wo.heap.size := ⟨_, rfl⟩
  have HLO := Lib.hid hlo
  have HR0 := Lib.hid (show RsAt wo lo wo.heap.size (fun _ => False) [] from RsAt.nil _ _ _ _)
  clear hlo
  go_wp2_with fail
  refine (rs_new room 0 HR0.out HRO.out (Nat.le_refl _) (by rw [HLO.out]; exact Nat.le_refl _) (fun j h => h.elim)).mono ?_
  rintro e w1 ⟨p, rfl, hr, b1⟩
  have HR1 := Lib.hid (hr.cast (show _ = ([⟨p, room, [], 0⟩] : List Rr) from rfl))
  have HB1 := Lib.hid b1
  clear hr b1 HR0 r1 r2 r3 r4 r5
  go_wp2
  go_loopg [6, 7, 8, 9, 10, 11, 12, 13, 14, 15, 16, 17, 18, 19, 20, 30, 31, 32, 33, 34, 35, 36, 37, 38, 39, 40, 41, 42, 43, 44, 45, 46, 47, 48, 49, 50, 51, 52, 53, 54, 55, 56, 57, 58, 59, 60, 61, 62, 63, 64, 65, 66, 67, 68, 69, 70, 71, 72, 73, 74, 75, 76, 77, 78, 79, 80, 81, 82, 83, 84, 85, 86, 87, 88, 89, 90, 91, 92, 93, 94, 95, 96, 97, 98, 99, 100, 101, 102, 103, 104, 105, 106, 107, 108, 109, 110, 111, 112, 113, 114, 115, 116, 117, 118, 119, 120, 121, 122, 123, 124, 125, 126, 127, 128, 129, 130, 131, 132, 133, 134, 135, 136, 137, 138, 139, 140, 141, 142, 143, 144, 145, 146, 147, 148, 149, 150, 151, 152, 153, 154, 155, 156, 157, 158, 159, 160, 161, 162, 163, 164, 165, 166, 167, 168, 169, 170, 171, 172, 173, 174, 175, 176, 177, 178, 179, 180, 181, 182, 183, 184, 185, 186, 187, 188, 189, 190] 20 (fun gl b6 b7 b8 b9 b10 b11 b12 b13 b14 b15 b16 b17 b18 b19 b20 b30 b31 b32 b33 b34 b35 b36 b37 b38 b39 b40 b41 b42 b43 b44 b45 b46 b47 b48 b49 b50 b51 b52 b53 b54 b55 b56 b57 b58 b59 b60 b61 b62 b63 b64 b65 b66 b67 b68 b69 b70 b71 b72 b73 b74 b75 b76 b77 b78 b79 b80 b81 b82 b83 b84 b85 b86 b87 b88 b89 b90 b91 b92 b93 b94 b95 b96 b97 b98 b99 b100 b101 b102 b103 b104 b105 b106 b107 b108 b109 b110 b111 b112 b113 b114 b115 b116 b117 b118 b119 b120 b121 b122 b123 b124 b125 b126 b127 b128 b129 b130 b131 b132 b133 b134 b135 b136 b137 b138 b139 b140 b141 b142 b143 b144 b145 b146 b147 b148 b149 b150 b151 b152 b153 b154 b155 b156 b157 b158 b159 b160 b161 b162 b163 b164 b165 b166 b167 b168 b169 b170 b171 b172 b173 b174 b175 b176 b177 b178 b179 b180 b181 b182 b183 b184 b185 b186 b187 b188 b189 b190 wr => ∃ (i : Nat) (G : List Cls), b6 = .int .i64 i ∧ i ≤ n ∧ i ≤ 20 ∧ 20 - i ≤ gl ∧ Hid (RsAt wr lo wr.heap.size (fun _ => False) [⟨p, room, G, 0⟩]) ∧ Hid (Below wo.heap.size wo wr))
  case atStart => exact ⟨0, [], rfl, Nat.zero_le _, by omega, by omega, HR1, HB1⟩
  case round =>
    obtain ⟨i, G, rfl, hin, hi20, hgi, HR, HB⟩ := hrel
    clear HR1 HB1
    obtain ⟨wa, hwa⟩ : ∃ wa, wa = wr := ⟨_, rfl⟩
    subst hwa
    obtain ⟨tst, htst⟩ : ∃ b : Bool, b = decide (i < n ∧ i < 20) := ⟨_, rfl⟩
    have HTS := Lib.hid htst
    clear htst
    go_upto_region 7 with (fail)
    go_cut [37] (fun v37 wc => v37 = .bool tst ∧ Hid (wc = wa))
    case first =>
      by_cases h1 : i < n
      · by_cases h2 : i < 20
        · have g2 : (i : Int) < 20 := by omega
          have ht : tst = true := by rw [HTS.out, decide_eq_true (And.intro h1 h2)]
          go_wp2
          go_meet
          case rel => exact ⟨by rw [ht], Lib.hid rfl⟩
        · have g2 : ¬ (i : Int) < 20 := by omega
          have ht : tst = false := by rw [HTS.out, decide_eq_false (by omega)]
          go_wp2
          go_meet
          case rel => exact ⟨by rw [ht], Lib.hid rfl⟩
      · have ht : tst = false := by rw [HTS.out, decide_eq_false (by omega)]
        go_wp2
        go_meet
        case rel => exact ⟨by rw [ht], Lib.hid rfl⟩
    case rest =>
    obtain ⟨rfl, hwc⟩ := hcut
    have hwc' := hwc.out.symm
    subst hwc'
    cases htt : tst with
    | false =>
      clear HTS htt
      go_wp2
      go_ret
      exact ⟨rfl, HB0.out.trans (HB.out.mono HB0.out.size)⟩
    | true =>
      have hlt2 := of_decide_eq_true (HTS.out.symm.trans htt)
      have HLT := Lib.hid hlt2
      have hltn : i < n := hlt2.1
      clear HTS htt hlt2 hin hi20
      obtain ⟨act, hact⟩ : ∃ a, a = RcK AL i := ⟨_, rfl⟩
      obtain ⟨g, o, u, ea, hg, c0, hwh, c1, hlj, c2⟩ := (HAA.out.below HB.out).at (i := i) (by rw [← HNN.out]; exact hltn)
      rw [← hact] at c0 hwh hlj c2
      subst ea
      obtain ⟨ua, uc, hu⟩ := hlj.shape
      subst hu
      have HLJ := Lib.hid hlj
      obtain ⟨nl, hnl⟩ : ∃ x, x = act.LL.length := ⟨_, rfl⟩
      have HNL := Lib.hid hnl
      rw [← hnl] at c1
      clear hg hwh hlj hact hnl
      go_wp2_with fail
      rw [HNL.out]
      refine (lines_any wa act.what (.slice ua act.LL.length uc) act.lev act.LL HLJ.out).mono ?_
      rintro e wb ⟨v0, K, rfl, hK, hR1, b1⟩
      have HWA := Lib.hid HB.out.size
      have HRb := Lib.hid ((HR.out.below b1).mono (hi' := wa.heap.size) (Z' := fun j => wa.heap.size ≤ j ∧ j < wb.heap.size) (Nat.le_refl _) (fun j hj _ h => by omega))
      have HBb := Lib.hid (HB.out.trans (b1.mono HB.out.size))
      have HWAB := Lib.hid b1.size
      have HK := Lib.hid hK
      have HKR := Lib.hid hR1
      have HRL := Lib.hid (show ∀ x ∈ K, x.R.length ≤ 1000 from fun x hx => by have := (rows6_ok act.LL x.R (by rw [← hK]; exact List.mem_map_of_mem hx)).1; omega)
      have HKL := Lib.hid (show K.length ≤ 6 from by have h := congrArg List.length hK; rw [List.length_map, rows6_len] at h; omega)
      clear hK hR1 b1 c0 c1 c2 HR HB
      go_wp2_with fail
      refine (rs_push (i := 0) (S := fun j => wa.heap.size ≤ j ∧ j < wb.heap.size) HRb.out rfl (by rw [HLO.out]; exact HBb.out.size) (fun j h => h.2) HKR.out.see (fun j h => .inr (.inl h.1)) HRL.out (by have := HKL.out; omega)).mono ?_
      rintro e wd ⟨rfl, hr, b5⟩
      have HBD := Lib.hid b5.size
      have HWB := Lib.hid HWAB.out
      obtain ⟨G2, hG2⟩ : ∃ G2, G2 = lastN room (G ++ rws K) := ⟨_, rfl⟩
      have HR2 := Lib.hid (hr.cast (show _ = ([⟨p, room, G2, 0⟩] : List Rr) from by rw [hG2]; rfl))
      have HB2 := Lib.hid (show Below wo.heap.size wo wd from HBb.out.trans (b5.below (C := wo.heap.size) (fun j hj => by have := hj.1; rw [HLO.out] at this; exact this) HBb.out.size))
      have HLS := Lib.hid (show LsOk wd K from HKR.out.ok.buts b5 (HKR.out.foot.mono (fun b hb h => h.2.2 hb)))
      have HAP := Lib.hid HKR.out.apart
      have HFT := Lib.hid (show Foot K (fun j => wa.heap.size ≤ j ∧ j < wb.heap.size) from HKR.out.foot)
      have HHD := Lib.hid (show Hds wd v0 K from own_buts HKR.out.hds b5 (fun b hb h => h.2.2 (HKR.out.head b hb)))
      obtain ⟨va, vc, hv0⟩ := own_shape HHD.out
      obtain ⟨m, hmk⟩ : ∃ m, m = K.length := ⟨_, rfl⟩
      rw [← hmk] at hv0

      have HMK := Lib.hid hmk
      subst hv0
      clear hr b5 hG2 hmk HRb HBb HKR
      go_wp2_with fail
      refine (rs_all (i := 0) HR2.out rfl).mono ?_
      rintro e we ⟨vw, KW, rfl, hKW, hRW, b1⟩
      have HR3 := Lib.hid (HR2.out.below b1)
      have HB3 := Lib.hid (HB2.out.trans (b1.mono HB2.out.size))
      have HWS := Lib.hid (And.intro hKW hRW)
      replace HLS := Lib.hid (HLS.out.below b1)
      replace HHD := Lib.hid (show Hds we _ K from own_below HHD.out b1)
      have HSZ := Lib.hid b1.size
      clear hKW hRW b1 HR2 HB2
      have HLo := Lib.hid HLS.out.loose
      have HBu := Lib.hid (show Buts (Blk K) we we from Buts.refl _ _)
      go_wp2
      go_loopg [9, 10, 50, 51, 52, 53, 54, 55, 56, 57, 58, 59, 60, 61, 62, 63, 64, 65, 66, 67, 68, 69, 70, 71] m (fun gl b9 b10 b50 b51 b52 b53 b54 b55 b56 b57 b58 b59 b60 b61 b62 b63 b64 b65 b66 b67 b68 b69 b70 b71 wr => ∃ k : Nat, b9 = .int .i64 k ∧ k ≤ m ∧ m - k ≤ gl ∧ Hid (Loose wr K) ∧ Hid (Buts (Blk K) we wr))
      case atStart => exact ⟨0, rfl, Nat.zero_le _, Nat.sub_le _ _, HLo, HBu⟩
      case round =>
        obtain ⟨k, rfl, hk, hgk, HL0, HU0⟩ := hrel
        clear HLo HBu
        by_cases hkm : k < m
        · have HKM := Lib.hid hkm
          have hkK : k < K.length := by rw [← HMK.out]; exact hkm
          obtain ⟨g, gc0, ev, hst⟩ := HHD.out.stay HLS.out (by omega)

          injection ev with e1 e2 e3
          subst e1 e3
          clear e2
          obtain ⟨x, hx⟩ : ∃ x, x = K[k] := ⟨_, rfl⟩
          have HXM := Lib.hid (show x ∈ K by rw [hx]; exact List.getElem_mem hkK)
          obtain ⟨xa, xc, ex⟩ := (HLS.out x HXM.out).shape
          obtain ⟨xl, hxl⟩ : ∃ l, l = x.R.length := ⟨_, rfl⟩
          rw [← hxl] at ex
          have HXL := Lib.hid hxl
          have HEX := Lib.hid ex
          have HX1 := Lib.hid (show xl ≤ 1000 by rw [hxl]; exact HRL.out x HXM.out)
          have HCX := Lib.hid (show ∀ W', Buts (Blk K) we W' → W'.cell? ⟨g, k, none⟩ = some (.slice xa xl xc) from fun W' kb => by rw [← ex, hx]; exact hst W' kb k hkK)
          clear hkK hst hx ex hxl
          have HLo := HL0
          have HBu := HU0
          clear HL0 HU0
          go_wp2
          go_loopg [10, 56, 57, 58, 59, 60, 61, 62, 63, 64, 65, 66, 67, 68, 69, 70, 71] xl (fun gl b10 b56 b57 b58 b59 b60 b61 b62 b63 b64 b65 b66 b67 b68 b69 b70 b71 wr => ∃ c : Nat, b10 = .int .i64 c ∧ c ≤ xl ∧ xl - c ≤ gl ∧ Hid (Loose wr K) ∧ Hid (Buts (Blk K) we wr))
          case atStart => exact ⟨0, rfl, Nat.zero_le _, Nat.le_refl _, HLo, HBu⟩
          case round =>
            obtain ⟨c, rfl, hc, hgc, HL1, HU1⟩ := hrel
            clear HLo HBu
            have hh := HCX.out wr HU1.out
            by_cases hcl : c < xl
            · have HCLt := Lib.hid hcl
              obtain ⟨R1, hR1, hC1⟩ := HL1.out x HXM.out
              obtain ⟨b, cp, eb, _, _⟩ := hC1.here (by rw [hR1, ← HXL.out]; omega)
              rw [hR1, ← HXL.out, HEX.out] at eb
              injection eb with e1 e2 e3
              subst e1 e3
              clear e2
              have HCG := Lib.hid (show CRow wr 0 (.slice (some ⟨b, 0, none⟩) xl xc) R1 by have := hC1; rw [HEX.out] at this; exact this)
              have HLN := Lib.hid (And.intro (show xl = R1.length by rw [hR1, ← HXL.out]) hR1)
              have hcR : c < R1.length := by rw [← HLN.out.1]; exact hcl
              have yf := (CRow.at HCG.out (i := c) hcR).1
              obtain ⟨vf, hvf⟩ : ∃ vf, vf = (gc R1 c).ru := ⟨_, rfl⟩
              rw [← hvf] at yf
              have hf := HCG.out.frozen HLN.out.1 (c * 14 + 0)
              try rw [Nat.add_zero] at hf
              have HCR := Lib.hid hcR
              clear hvf hC1 hR1 hcR
              obtain ⟨w2, hw2⟩ : ∃ w2, w2 = wr.setCell ⟨b, c * 14, none⟩ (.int .i32 63) := ⟨_, rfl⟩
              have HW2 := Lib.hid hw2
              go_wp2
              rw [← hw2]
              clear hw2 yf hf
              have HL2 := Lib.hid (show Loose w2 K from by
                rw [HW2.out]
                exact HL1.out.put HAP.out HXM.out (by rw [HEX.out]; rfl) (R := R1.set c { gc R1 c with ru := 63 }) (by rw [HEX.out]; exact CRow.fld HCG.out HLN.out.1 (i := c) (j := 0) HCR.out (by decide) rfl) (by rw [List.length_set]; exact HLN.out.2))
              have HU2 := Lib.hid (show Buts (Blk K) we w2 from HU1.out.trans (by rw [HW2.out]; exact Buts.but (But.set wr b _ _) ⟨x, HXM.out, by rw [HEX.out]; rfl⟩))
              go_roundg (xl - (c + 1))
              case rel => exact ⟨c + 1, by (first | go_num | (refine congrArg _ ?_; unfold wrap64; have := HCLt.out; have := HX1.out; omega)), HCLt.out, Nat.le_refl _, HL2, HU2⟩
              case measure => have := HCLt.out; omega
            · clear hc hgc
              go_wp2
              go_roundg (m - (k + 1))
              case rel => exact ⟨k + 1, by (first | go_num | (refine congrArg _ ?_; unfold wrap64; have := HKM.out; have := HMK.out; have := HKL.out; omega)), HKM.out, Nat.le_refl _, HL1, HU1⟩
              case measure => have := HKM.out; omega
        · clear hk hgk
          obtain ⟨wf, hwf⟩ : ∃ wf, wf = wr := ⟨_, rfl⟩
          subst hwf
          have HRk := Lib.hid (HR3.out.buts HU0.out (fun j hj => by
            obtain ⟨y, hy, hb⟩ := hj
            exact .inr (.inr (HFT.out y hy j hb))))
          have HBk := Lib.hid (show Below wo.heap.size wo wf from HB3.out.trans (HU0.out.below (C := wo.heap.size) (fun j hj => by
            obtain ⟨y, hy, hb⟩ := hj
            have h1 := (HFT.out y hy j hb).1
            have h2 := HWA.out
            omega) HB3.out.size))
          have HWL := Lib.hid (show LIn (fun j => wd.heap.size ≤ j ∧ j < we.heap.size) wf vw KW from HWS.out.2.see.buts HU0.out (fun j hj hk => by
            obtain ⟨y, hy, hb⟩ := hk
            have h1 := (HFT.out y hy j hb).2
            have h2 := HBD.out
            omega))
          have HWR := Lib.hid (show rws KW = G2 from HWS.out.1)
          have HSF := Lib.hid (show we.heap.size ≤ wf.heap.size from HU0.out.size)
          clear HR3 HB3 HWS HU0 HL0 HLS HAP HFT HHD
          go_wp2_with fail
          refine (rs_all (i := 0) HRk.out rfl).mono ?_
          rintro e wg ⟨v2, K2, rfl, hK2, hR2, b1⟩
          have HR5 := Lib.hid ((HRk.out.below b1).mono (hi' := wd.heap.size) (Z' := fun _ => False) (Nat.le_refl _) (fun j _ _ h => h.elim))
          have HB5 := Lib.hid (HBk.out.trans (b1.mono HBk.out.size))
          have HW5 := Lib.hid (HWL.out.below b1)
          have HSG := Lib.hid b1.size
          have HSI := Lib.hid (show wd.heap.size ≤ wf.heap.size from Nat.le_trans HSZ.out HSF.out)
          have hln := HR5.out.len (i := 0) rfl
          have HGL := Lib.hid (show ∀ R ∈ G2, R.length ≤ 1000 from hln.2.2)
          obtain ⟨m2, hm2⟩ : ∃ m2, m2 = K2.length := ⟨_, rfl⟩
          have hmg : m2 = G2.length := by rw [hm2, ← (show rws K2 = G2 from hK2), List.length_map]
          have HM2 := Lib.hid (show m2 = G2.length ∧ m2 ≤ 1000 from ⟨hmg, by have h1 : G2.length ≤ room := hln.1; have h2 := HRO.out; omega⟩)
          have HM3 := Lib.hid hm2
          have HRL := Lib.hid (show ∀ x ∈ K2, x.R.length ≤ 1000 from fun x hx => hln.2.2 x.R (by rw [← (show rws K2 = G2 from hK2)]; exact List.mem_map_of_mem hx))
          have HS2 := Lib.hid hR2.ok
          have HAP := Lib.hid hR2.apart
          have HF2 := Lib.hid hR2.foot
          have HH2 := Lib.hid hR2.hds
          obtain ⟨va2, vc2, hv2⟩ := own_shape hR2.hds
          rw [← hm2] at hv2
          subst hv2
          have HLo := Lib.hid hR2.ok.loose
          have HBu := Lib.hid (show Buts (Blk K2) wg wg from Buts.refl _ _)
          clear hK2 hR2 b1 hln hmg hm2 HRk HBk HWL
          go_wp2
          go_loopg [12, 13, 14, 15, 16, 74, 75, 76, 77, 78, 79, 80, 81, 82, 83, 84, 85, 86, 87, 88, 89, 90, 91, 92, 93, 94, 95, 96, 97, 98, 99, 100, 101, 102, 103, 104, 105, 106, 107, 108, 109, 110, 111] m2 (fun gl b12 b13 b14 b15 b16 b74 b75 b76 b77 b78 b79 b80 b81 b82 b83 b84 b85 b86 b87 b88 b89 b90 b91 b92 b93 b94 b95 b96 b97 b98 b99 b100 b101 b102 b103 b104 b105 b106 b107 b108 b109 b110 b111 wr => ∃ k : Nat, b12 = .int .i64 k ∧ k ≤ m2 ∧ m2 - k ≤ gl ∧ Hid (Loose wr K2) ∧ Hid (Buts (Blk K2) wg wr))
          case atStart => exact ⟨0, rfl, Nat.zero_le _, Nat.sub_le _ _, HLo, HBu⟩
          case round =>
            obtain ⟨k, rfl, hk, hgk, HL0, HU0⟩ := hrel
            clear HLo HBu
            by_cases hkm : k < m2
            · have HKM := Lib.hid hkm
              have hkK : k < K2.length := by rw [← HM3.out]; exact hkm
              obtain ⟨g, gc0, ev, hst⟩ := HH2.out.stay HS2.out (by omega)

              injection ev with e1 e2 e3
              subst e1 e3
              clear e2
              obtain ⟨x, hx⟩ : ∃ x, x = K2[k] := ⟨_, rfl⟩
              have HXM := Lib.hid (show x ∈ K2 by rw [hx]; exact List.getElem_mem hkK)
              obtain ⟨xa, xc, ex⟩ := (HS2.out x HXM.out).shape
              obtain ⟨xl, hxl⟩ : ∃ l, l = x.R.length := ⟨_, rfl⟩
              rw [← hxl] at ex
              have HXL := Lib.hid hxl
              have HEX := Lib.hid ex
              have HX1 := Lib.hid (show xl ≤ 1000 by rw [hxl]; exact HRL.out x HXM.out)
              have HCX := Lib.hid (show ∀ W', Buts (Blk K2) wg W' → W'.cell? ⟨g, k, none⟩ = some (.slice xa xl xc) from fun W' kb => by rw [← ex, hx]; exact hst W' kb k hkK)
              clear hkK hst hx ex hxl
              have HLo := HL0
              have HBu := HU0
              clear HL0 HU0
              go_wp2
              go_loopg [13, 80, 81, 82, 83, 84, 85, 86, 87, 88, 89, 90, 91, 92, 93, 94, 95] xl (fun gl b13 b80 b81 b82 b83 b84 b85 b86 b87 b88 b89 b90 b91 b92 b93 b94 b95 wr => ∃ c : Nat, b13 = .int .i64 c ∧ c ≤ xl ∧ xl - c ≤ gl ∧ Hid (Loose wr K2) ∧ Hid (Buts (Blk K2) wg wr))
              case atStart => exact ⟨0, rfl, Nat.zero_le _, Nat.le_refl _, HLo, HBu⟩
              case round =>
                obtain ⟨c, rfl, hc, hgc, HL1, HU1⟩ := hrel
                clear HLo HBu
                have hh := HCX.out wr HU1.out
                by_cases hcl : c < xl
                · have HCLt := Lib.hid hcl
                  obtain ⟨R1, hR1, hC1⟩ := HL1.out x HXM.out
                  obtain ⟨b, cp, eb, _, _⟩ := hC1.here (by rw [hR1, ← HXL.out]; omega)
                  rw [hR1, ← HXL.out, HEX.out] at eb
                  injection eb with e1 e2 e3
                  subst e1 e3
                  clear e2
                  have HCG := Lib.hid (show CRow wr 0 (.slice (some ⟨b, 0, none⟩) xl xc) R1 by have := hC1; rw [HEX.out] at this; exact this)
                  have HLN := Lib.hid (And.intro (show xl = R1.length by rw [hR1, ← HXL.out]) hR1)
                  have hcR : c < R1.length := by rw [← HLN.out.1]; exact hcl
                  have yf := (CRow.at HCG.out (i := c) hcR).2.2.2.2.2.2.2.2.2.2.2.2.2
                  obtain ⟨vf, hvf⟩ : ∃ vf, vf = (gc R1 c).l := ⟨_, rfl⟩
                  rw [← hvf] at yf
                  have hf := HCG.out.frozen HLN.out.1 (c * 14 + 13)
                  try rw [Nat.add_zero] at hf
                  have HCR := Lib.hid hcR
                  clear hvf hC1 hR1 hcR
                  obtain ⟨w2, hw2⟩ : ∃ w2, w2 = wr.setCell ⟨b, c * 14 + 13, none⟩ (.int .u8 7) := ⟨_, rfl⟩
                  have HW2 := Lib.hid hw2
                  go_wp2
                  rw [← hw2]
                  clear hw2 yf hf
                  have HL2 := Lib.hid (show Loose w2 K2 from by
                    rw [HW2.out]
                    exact HL1.out.put HAP.out HXM.out (by rw [HEX.out]; rfl) (R := R1.set c { gc R1 c with l := 7 }) (by rw [HEX.out]; exact CRow.fld HCG.out HLN.out.1 (i := c) (j := 13) HCR.out (by decide) rfl) (by rw [List.length_set]; exact HLN.out.2))
                  have HU2 := Lib.hid (show Buts (Blk K2) wg w2 from HU1.out.trans (by rw [HW2.out]; exact Buts.but (But.set wr b _ _) ⟨x, HXM.out, by rw [HEX.out]; rfl⟩))
                  go_roundg (xl - (c + 1))
                  case rel => exact ⟨c + 1, by (first | go_num | (refine congrArg _ ?_; unfold wrap64; have := HCLt.out; have := HX1.out; omega)), HCLt.out, Nat.le_refl _, HL2, HU2⟩
                  case measure => have := HCLt.out; omega
                · clear hc hgc
                  have HLZ := HL1
                  have HUZ := HU1
                  clear HL1 HU1
                  obtain ⟨Xr, hgr, _⟩ := (HR5.out.buts HUZ.out (fun j hj => by
                    obtain ⟨y, hy, hb⟩ := hj
                    have h1 := (HF2.out y hy j hb).1
                    have h2 := HSI.out
                    exact .inr (.inl (by omega)))).get (i := 0) rfl
                  have HLI := Lib.hid (line_yes Xr wr p room k G2 0 hgr (by rw [← HM2.out.1]; exact HKM.out))
                  clear hgr HXM HXL HEX HX1 HCX HAP
                  go_wp2_with fail
                  refine HLI.out.mono ?_
                  rintro e wl ⟨u, rfl, ow, b1⟩
                  obtain ⟨xa, xc, ex⟩ := ow.shape
                  obtain ⟨x, hx⟩ : ∃ x : Ln, x = ⟨u, rowG G2 k⟩ := ⟨_, rfl⟩
                  obtain ⟨xl, hxl⟩ : ∃ l, l = x.R.length := ⟨_, rfl⟩
                  have ex2 : u = .slice xa xl xc := by rw [ex, hxl, hx]
                  have HXM := Lib.hid (show x ∈ [x] from List.mem_singleton.2 rfl)
                  have HXL := Lib.hid hxl
                  have HEX := Lib.hid (show x.v = .slice xa xl xc by rw [hx]; exact ex2)
                  have HX1 := Lib.hid (show xl ≤ 1000 by
                    rw [hxl, hx]
                    have hk : k < G2.length := by rw [← HM2.out.1]; exact HKM.out
                    have := HGL.out (rowG G2 k) (by show G2.getD k [] ∈ G2; rw [List.getD_eq_getElem?_getD, List.getElem?_eq_getElem hk]; exact List.getElem_mem hk)
                    exact this)
                  have HAP := Lib.hid (show Apart [x] from List.pairwise_singleton _ _)
                  have HLb := Lib.hid b1
                  have HOF := Lib.hid (show ∀ j, x.v.ownBlock = some j → wr.heap.size ≤ j from fun j hj => by rw [hx] at hj; exact (ow.lt j hj).1)
                  have HLo := Lib.hid (show Loose wl [x] from fun y hy => by
                    rw [List.mem_singleton.1 hy]
                    exact ⟨rowG G2 k, by rw [hx], by rw [hx]; exact ow.lower (Nat.zero_le _)⟩)
                  have HBu := Lib.hid (show Buts (Blk [x]) wl wl from Buts.refl _ _)
                  rw [ex2]
                  clear ow b1 ex hx hxl ex2 HLI hcl
                  go_wp2
                  go_loopg [16, 102, 103, 104, 105, 106, 107, 108, 109, 110, 111] xl (fun gl b16 b102 b103 b104 b105 b106 b107 b108 b109 b110 b111 wr => ∃ c : Nat, b16 = .int .i64 c ∧ c ≤ xl ∧ xl - c ≤ gl ∧ Hid (Loose wr [x]) ∧ Hid (Buts (Blk [x]) wl wr))
                  case atStart => exact ⟨0, rfl, Nat.zero_le _, Nat.le_refl _, HLo, HBu⟩
                  case round =>
                    obtain ⟨c, rfl, hc, hgc, HL1, HU1⟩ := hrel
                    clear HLo HBu

                    by_cases hcl : c < xl
                    · have HCLt := Lib.hid hcl
                      obtain ⟨R1, hR1, hC1⟩ := HL1.out x HXM.out
                      obtain ⟨b, cp, eb, _, _⟩ := hC1.here (by rw [hR1, ← HXL.out]; omega)
                      rw [hR1, ← HXL.out, HEX.out] at eb
                      injection eb with e1 e2 e3
                      subst e1 e3
                      clear e2
                      have HCG := Lib.hid (show CRow wr 0 (.slice (some ⟨b, 0, none⟩) xl xc) R1 by have := hC1; rw [HEX.out] at this; exact this)
                      have HLN := Lib.hid (And.intro (show xl = R1.length by rw [hR1, ← HXL.out]) hR1)
                      have hcR : c < R1.length := by rw [← HLN.out.1]; exact hcl
                      have yf := (CRow.at HCG.out (i := c) hcR).2.2.2.1
                      obtain ⟨vf, hvf⟩ : ∃ vf, vf = (gc R1 c).k := ⟨_, rfl⟩
                      rw [← hvf] at yf
                      have hf := HCG.out.frozen HLN.out.1 (c * 14 + 3)
                      try rw [Nat.add_zero] at hf
                      have HCR := Lib.hid hcR
                      clear hvf hC1 hR1 hcR
                      obtain ⟨w2, hw2⟩ : ∃ w2, w2 = wr.setCell ⟨b, c * 14 + 3, none⟩ (.int .u8 9) := ⟨_, rfl⟩
                      have HW2 := Lib.hid hw2
                      go_wp2
                      rw [← hw2]
                      clear hw2 yf hf
                      have HL2 := Lib.hid (show Loose w2 [x] from by
                        rw [HW2.out]
                        exact HL1.out.put HAP.out HXM.out (by rw [HEX.out]; rfl) (R := R1.set c { gc R1 c with k := 9 }) (by rw [HEX.out]; exact CRow.fld HCG.out HLN.out.1 (i := c) (j := 3) HCR.out (by decide) rfl) (by rw [List.length_set]; exact HLN.out.2))
                      have HU2 := Lib.hid (show Buts (Blk [x]) wl w2 from HU1.out.trans (by rw [HW2.out]; exact Buts.but (But.set wr b _ _) ⟨x, HXM.out, by rw [HEX.out]; rfl⟩))
                      go_roundg (xl - (c + 1))
                      case rel => exact ⟨c + 1, by (first | go_num | (refine congrArg _ ?_; unfold wrap64; have := HCLt.out; have := HX1.out; omega)), HCLt.out, Nat.le_refl _, HL2, HU2⟩
                      case measure => have := HCLt.out; omega
                    · clear hc hgc
                      have HLa := HLZ
                      have HUa := HUZ
                      clear HLZ HUZ
                      have HU9 := Lib.hid (show Buts (Blk K2) wg wr from (HUa.out.trans (Buts.of HLb.out)).trans' HU1.out (fun j hj hb => by
                        obtain ⟨y, hy, hyb⟩ := hb
                        rw [List.mem_singleton.1 hy] at hyb
                        have h1 := HOF.out j hyb
                        have h2 := HUa.out.size
                        omega))
                      have HL9 := Lib.hid (show Loose wr K2 from (HLa.out.buts (Buts.of HLb.out) (fun _ _ _ _ h => h)).buts HU1.out (fun y hy j hb hk => by
                        obtain ⟨z, hz, hzb⟩ := hk
                        rw [List.mem_singleton.1 hz] at hzb
                        have h1 := HOF.out j hzb
                        have h2 := HUa.out.size
                        have h3 := (HF2.out y hy j hb).2
                        omega))
                      clear HLa HUa HU1 HL1 HLb HOF
                      go_wp2
                      go_roundg (m2 - (k + 1))
                      case rel => exact ⟨k + 1, by (first | go_num | (refine congrArg _ ?_; unfold wrap64; have := HKM.out; have := HM2.out; omega)), HKM.out, Nat.le_refl _, HL9, HU9⟩
                      case measure => have := HKM.out; omega
            · clear hk hgk
              obtain ⟨wh, hwh⟩ : ∃ wh, wh = wr := ⟨_, rfl⟩
              subst hwh
              have HF5 := Lib.hid (show ∀ j, Blk K2 j → wf.heap.size ≤ j from fun j hj => by
                obtain ⟨y, hy, hb⟩ := hj
                exact (HF2.out y hy j hb).1)
              have HR6 := Lib.hid ((HR5.out.buts HU0.out (fun j hj => by have h1 := HF5.out j hj; have h2 := HSI.out; exact .inr (.inl (by omega)))).mono (hi' := wd.heap.size) (Z' := fun j => wd.heap.size ≤ j ∧ j < we.heap.size) (Nat.le_refl _) (fun j hj _ h => by omega))
              have HB6 := Lib.hid (show Below wo.heap.size wo wh from HB5.out.trans (HU0.out.below (C := wo.heap.size) (fun j hj => by have h1 := HF5.out j hj; have h2 := HSI.out; have h3 := HWA.out; have h4 := HBD.out; have h5 := HWB.out; omega) HB5.out.size))
              have HW6 := Lib.hid (show LIn (fun j => wd.heap.size ≤ j ∧ j < we.heap.size) wh vw KW from HW5.out.buts HU0.out (fun j hj hk => by have h1 := HF5.out j hk; have h2 := HSF.out; omega))
              have HSY := Lib.hid (show we.heap.size ≤ wh.heap.size from Nat.le_trans (Nat.le_trans HSF.out HSG.out) HU0.out.size)
              have HSD := Lib.hid (show wd.heap.size ≤ wh.heap.size from Nat.le_trans HSZ.out HSY.out)
              clear HR5 HB5 HW5 HU0 HL0 HS2 HAP HF2 HH2 HF5
              go_wp2_with fail
              refine (rs_copy (i := 0) HR6.out rfl HSD.out (by rw [HLO.out]; exact HB6.out.size) (fun j h => Nat.lt_of_lt_of_le h.2 HSY.out)).mono ?_
              rintro e wi ⟨q, rfl, hr, b1⟩
              have HR7 := Lib.hid (hr.cast (show _ = ([⟨p, room, G2, 0⟩, ⟨q, room, G2, 0⟩] : List Rr) from rfl))
              have HB7 := Lib.hid (HB6.out.trans (b1.mono HB6.out.size))
              have HW7 := Lib.hid (HW6.out.below b1)
              replace HSY := Lib.hid (Nat.le_trans HSY.out b1.size)
              clear hr b1 HR6 HB6 HW6 HSD
              go_wp2_with fail
              refine (rs_all (i := 0) HR7.out rfl).mono ?_
              rintro e wj ⟨v3, K3, rfl, hKx, hRx, b1⟩
              have HR8 := Lib.hid (HR7.out.below b1)
              have HB8 := Lib.hid (HB7.out.trans (b1.mono HB7.out.size))
              have HW8 := Lib.hid (HW7.out.below b1)
              have HXK3 := Lib.hid (And.intro hKx hRx)
              replace HSY := Lib.hid (Nat.le_trans HSY.out b1.size)
              clear hKx hRx b1 HR7 HB7 HW7
              have HLE := Lib.hid (show K3.length ≤ 10000 ∧ ∀ x ∈ K3, x.R.length ≤ 10000 from by
                have h2 : (rws K3).length = G2.length := by rw [HXK3.out.1]
                rw [List.length_map] at h2
                have h3 := HM2.out
                refine ⟨by omega, fun x hx => ?_⟩
                have h4 := HGL.out x.R (by have : x.R ∈ rws K3 := List.mem_map_of_mem hx; rw [HXK3.out.1] at this; exact this)
                omega)
              go_wp2_with fail
              refine (rsames_any _ _ wj _ _ K3 KW HXK3.out.2.see HW8.out HLE.out.1 HLE.out.2).mono ?_
              rintro e wk ⟨rfl, b1⟩
              rw [decide_eq_true (show rws K3 = rws KW from by rw [HXK3.out.1, HWR.out])]
              have HR9 := Lib.hid (HR8.out.below b1)
              have HB9 := Lib.hid (HB8.out.trans (b1.mono HB8.out.size))
              have HW9 := Lib.hid (HW8.out.below b1)
              replace HSY := Lib.hid (Nat.le_trans HSY.out b1.size)
              clear b1 HR8 HB8 HW8 HXK3 HLE
              go_wp2_with fail
              refine (rs_same (i := 0) (j := 1) HR9.out rfl rfl).mono ?_
              rintro e wm ⟨rfl, b1⟩
              rw [decide_eq_true ⟨rfl, rfl, rfl⟩]
              have HR10 := Lib.hid (HR9.out.below b1)
              have HB10 := Lib.hid (HB9.out.trans (b1.mono HB9.out.size))
              have HW10 := Lib.hid (HW9.out.below b1)
              replace HSY := Lib.hid (Nat.le_trans HSY.out b1.size)
              clear b1 HR9 HB9 HW9
              go_wp2_with fail
              refine (rs_raise (i := 1) HR10.out rfl (by rw [HLO.out]; exact HB10.out.size) (fun j h => Nat.lt_of_lt_of_le h.2 HSY.out) (.inl rfl) (.inr rfl)).mono ?_
              rintro e wn ⟨rfl, hr, b5⟩
              have HR11 := Lib.hid (hr.cast (show _ = ([⟨p, room, G2, 0⟩, ⟨q, room, G2, 1⟩] : List Rr) from rfl))
              have HB11 := Lib.hid (show Below wo.heap.size wo wn from HB10.out.trans (b5.below (C := wo.heap.size) (fun j hj => by have := hj.1; rw [HLO.out] at this; exact this) HB10.out.size))
              have HW11 := Lib.hid (HW10.out.buts b5 (fun j hj hk => hk.2.2 hj))
              replace HSY := Lib.hid (Nat.le_trans HSY.out b5.size)
              clear hr b5 HR10 HB10 HW10
              go_wp2_with fail
              refine (rs_all (i := 1) HR11.out rfl).mono ?_
              rintro e wp ⟨v4, K4, rfl, hKx, hRx, b1⟩
              have HR12 := Lib.hid (HR11.out.below b1)
              have HB12 := Lib.hid (HB11.out.trans (b1.mono HB11.out.size))
              have HW12 := Lib.hid (HW11.out.below b1)
              have HXK4 := Lib.hid (And.intro hKx hRx)
              replace HSY := Lib.hid (Nat.le_trans HSY.out b1.size)
              clear hKx hRx b1 HR11 HB11 HW11
              have HLE := Lib.hid (show K4.length ≤ 10000 ∧ ∀ x ∈ K4, x.R.length ≤ 10000 from by
                have h2 : (rws K4).length = G2.length := by rw [HXK4.out.1]
                rw [List.length_map] at h2
                have h3 := HM2.out
                refine ⟨by omega, fun x hx => ?_⟩
                have h4 := HGL.out x.R (by have : x.R ∈ rws K4 := List.mem_map_of_mem hx; rw [HXK4.out.1] at this; exact this)
                omega)
              go_wp2_with fail
              refine (rsames_any _ _ wp _ _ K4 KW HXK4.out.2.see HW12.out HLE.out.1 HLE.out.2).mono ?_
              rintro e wq ⟨rfl, b1⟩
              rw [decide_eq_true (show rws K4 = rws KW from by rw [HXK4.out.1, HWR.out])]
              have HR13 := Lib.hid (HR12.out.below b1)
              have HB13 := Lib.hid (HB12.out.trans (b1.mono HB12.out.size))
              have HW13 := Lib.hid (HW12.out.below b1)
              replace HSY := Lib.hid (Nat.le_trans HSY.out b1.size)
              clear b1 HR12 HB12 HW12 HXK4 HLE
              go_wp2_with fail
              refine (rs_label (i := 1) HR13.out rfl).mono ?_
              rintro e w' ⟨rfl, rfl⟩
              go_wp2_with fail
              refine (rs_label (i := 0) HR13.out rfl).mono ?_
              rintro e w' ⟨rfl, rfl⟩
              go_wp2_with fail
              refine (rs_lower (i := 1) 1 HR13.out rfl (by rw [HLO.out]; exact HB13.out.size) (fun j h => Nat.lt_of_lt_of_le h.2 HSY.out)).mono ?_
              rintro e ws ⟨rfl, hr, b5⟩
              have HR14 := Lib.hid (hr.cast (show _ = ([⟨p, room, G2, 0⟩, ⟨q, room, G2.map (toL 1), 1⟩] : List Rr) from rfl))
              have HB14 := Lib.hid (show Below wo.heap.size wo ws from HB13.out.trans (b5.below (C := wo.heap.size) (fun j hj => by have := hj.1; rw [HLO.out] at this; exact this) HB13.out.size))
              have HW14 := Lib.hid (HW13.out.buts b5 (fun j hj hk => hk.2.2 hj))
              replace HSY := Lib.hid (Nat.le_trans HSY.out b5.size)
              clear hr b5 HR13 HB13 HW13
              go_wp2_with fail
              refine (rs_all (i := 1) HR14.out rfl).mono ?_
              rintro e wt ⟨v5, K5, rfl, hKx, hRx, b1⟩
              have HB14s := Lib.hid HB14.out.size
              have HB15s := Lib.hid b1.size
              have HR15 := Lib.hid (HR14.out.below b1)
              have HB15 := Lib.hid (HB14.out.trans (b1.mono HB14.out.size))
              have HW15 := Lib.hid (HW14.out.below b1)
              have HXK5 := Lib.hid (And.intro hKx hRx)
              clear hKx hRx b1 HR14 HB14 HW14
              obtain ⟨m5, hm5⟩ : ∃ m5, m5 = K5.length := ⟨_, rfl⟩
              have hm5g : m5 = G2.length := by
                rw [hm5]
                have h := congrArg List.length HXK5.out.1
                rw [List.length_map] at h
                rw [h]
                exact List.length_map _
              have HM5 := Lib.hid (And.intro hm5 hm5g)
              have HS5 := Lib.hid HXK5.out.2.ok
              have HA5 := Lib.hid HXK5.out.2.apart
              have HF5 := Lib.hid HXK5.out.2.foot
              have HH5 := Lib.hid HXK5.out.2.hds
              obtain ⟨va5, vc5, hv5⟩ := own_shape HH5.out
              rw [← hm5] at hv5
              subst hv5
              obtain ⟨aw, cw, hvw, _⟩ := HW15.out.shape
              have hkw : KW.length = m5 := by
                have h := congrArg List.length HWR.out
                rw [List.length_map] at h
                rw [h, hm5g]
              rw [hkw] at hvw
              subst hvw
              have HKW := Lib.hid hkw
              have HCo := Lib.hid (HiC.start (G := G2) HS5.out HXK5.out.1)
              have HKE := Lib.hid HXK5.out.1
              have HBu := Lib.hid (show Buts (Blk K5) wt wt from Buts.refl _ _)
              clear hm5 hm5g hkw HXK5
              go_wp2
              go_loopg [19, 20, 150, 151, 152, 153, 154, 155, 156, 157, 158, 159, 160, 161, 162, 163, 164, 165, 166, 167, 168, 169, 170, 171, 172, 173, 174, 175, 176, 177, 178, 179] m5 (fun gl b19 b20 b150 b151 b152 b153 b154 b155 b156 b157 b158 b159 b160 b161 b162 b163 b164 b165 b166 b167 b168 b169 b170 b171 b172 b173 b174 b175 b176 b177 b178 b179 wr => ∃ k : Nat, b19 = .int .i64 k ∧ k ≤ m5 ∧ m5 - k ≤ gl ∧ Hid (HiC wr K5 G2 k 0) ∧ Hid (Buts (Blk K5) wt wr))
              case atStart => exact ⟨0, rfl, Nat.zero_le _, Nat.sub_le _ _, HCo, HBu⟩
              case round =>
                obtain ⟨k, rfl, hk, hgk, HC0, HU0⟩ := hrel
                clear HCo HBu
                by_cases hkm : k < m5
                · have HKM := Lib.hid hkm
                  have hkK : k < K5.length := by rw [← HM5.out.1]; exact hkm
                  obtain ⟨g, gc0, ev, hst⟩ := HH5.out.stay HS5.out (by omega)
                  injection ev with e1 e2 e3
                  subst e1 e3
                  clear e2
                  obtain ⟨x, hx⟩ : ∃ x, x = K5[k] := ⟨_, rfl⟩
                  have hxr : x.R = toL 1 (rowG G2 k) := by
                    have hg : k < G2.length := by rw [← HM5.out.2]; exact hkm
                    rw [hx, ← rowG_ln hkK, HKE.out]
                    unfold rowG
                    rw [List.getD_eq_getElem?_getD, List.getD_eq_getElem?_getD, List.getElem?_map, List.getElem?_eq_getElem hg]
                    rfl
                  obtain ⟨xa, xc, ex⟩ := (HS5.out x (by rw [hx]; exact List.getElem_mem hkK)).shape
                  obtain ⟨xl, hxl⟩ : ∃ l, l = x.R.length := ⟨_, rfl⟩
                  rw [← hxl] at ex
                  have HXL := Lib.hid (show xl = (rowG G2 k).length by rw [hxl, hxr, List.length_map])
                  have HEX := Lib.hid ex
                  have HXK := Lib.hid (show ∃ h : k < K5.length, x = K5[k]'h from ⟨hkK, hx⟩)
                  have HX1 := Lib.hid (show xl ≤ 1000 by
                    rw [HXL.out]
                    have hk2 : k < G2.length := by rw [← HM5.out.2]; exact hkm
                    exact HGL.out (rowG G2 k) (by show G2.getD k [] ∈ G2; rw [List.getD_eq_getElem?_getD, List.getElem?_eq_getElem hk2]; exact List.getElem_mem hk2))
                  have HCX := Lib.hid (show ∀ W', Buts (Blk K5) wt W' → W'.cell? ⟨g, k, none⟩ = some (.slice xa xl xc) from fun W' kb => by rw [← ex, hx]; exact hst W' kb k hkK)
                  clear hkK hst hx ex hxl hxr
                  go_wp2
                  go_loopg [20, 156, 157, 158, 159, 160, 161, 162, 163, 164, 165, 166, 167, 168, 169, 170, 171, 172, 173, 174, 175, 176, 177, 178, 179] xl (fun gl b20 b156 b157 b158 b159 b160 b161 b162 b163 b164 b165 b166 b167 b168 b169 b170 b171 b172 b173 b174 b175 b176 b177 b178 b179 wr => ∃ c : Nat, b20 = .int .i64 c ∧ c ≤ xl ∧ xl - c ≤ gl ∧ Hid (HiC wr K5 G2 k c) ∧ Hid (Buts (Blk K5) wt wr))
                  case atStart => exact ⟨0, rfl, Nat.zero_le _, Nat.sub_le _ _, HC0, HU0⟩
                  case round =>
                    obtain ⟨c, rfl, hc, hgc, HC1, HU1⟩ := hrel
                    clear HC0 HU0
                    have hh := HCX.out wr HU1.out
                    by_cases hcl : c < xl
                    · have HCLt := Lib.hid hcl
                      obtain ⟨hkK, hxk⟩ := HXK.out
                      have hC1 : CRow wr 0 x.v (bkM (rowG G2 k) c) := by
                        have h1 := HC1.out k hkK
                        rwa [if_neg (Nat.lt_irrefl _), if_pos rfl, ← hxk] at h1
                      obtain ⟨b, cp, eb, _, _⟩ := hC1.here (by rw [bkM_len, ← HXL.out]; omega)
                      rw [bkM_len, ← HXL.out, HEX.out] at eb
                      injection eb with e1 e2 e3
                      subst e1 e3
                      clear e2
                      have HCG := Lib.hid (show CRow wr 0 (.slice (some ⟨b, 0, none⟩) xl xc) (bkM (rowG G2 k) c) by have := hC1; rw [HEX.out] at this; exact this)
                      have HLN := Lib.hid (show xl = (bkM (rowG G2 k) c).length by rw [bkM_len, ← HXL.out])
                      have hW := HW15.out.buts HU1.out (fun j hj hq => by
                        obtain ⟨y, hy, hb⟩ := hq
                        have h1 := (HF5.out y hy j hb).1
                        have h2 := HSY.out
                        omega)
                      obtain ⟨bw, oww, eaw, hCw⟩ := hW.get (by rw [HKW.out]; omega)
                      subst eaw
                      have hkW : k < KW.length := by rw [HKW.out]; exact HKM.out
                      have hcw := hCw k hkW
                      obtain ⟨y, hy⟩ : ∃ y, y = KW[k] := ⟨_, rfl⟩
                      rw [← hy] at hcw
                      have hyr : y.R = rowG G2 k := by rw [hy, ← rowG_ln hkW, HWR.out]
                      have hyrow := hW.row y (by rw [hy]; exact List.getElem_mem hkW)
                      rw [hyr] at hyrow
                      obtain ⟨gy, oy, cy, ey, _, _, hCy⟩ := hyrow.open (by rw [← HXL.out]; omega)
                      rw [← HXL.out] at ey
                      rw [ey] at hcw
                      have hlab := (hCy c (by rw [← HXL.out]; exact hcl)).2.2.2.2.2.2.2.2.2.2.2.2.2
                      obtain ⟨vf, hvf⟩ : ∃ vf, vf = (gc (rowG G2 k) c).l := ⟨_, rfl⟩
                      rw [← hvf] at hlab
                      have HVF := Lib.hid hvf
                      have KEEP := Lib.hid (show ∀ W', Below wr.heap.size wr W' → (fun wx => wx.cell? ⟨g, k, none⟩ = some (.slice (some ⟨b, 0, none⟩) xl xc) ∧ wx.cell? ⟨bw, oww + k, none⟩ = some (.slice (some ⟨gy, oy, none⟩) xl cy) ∧ wx.cell? ⟨gy, oy + c * 14 + 13, none⟩ = some (.int .u8 vf)) W' from fun W' kb => ⟨(kb.cell (World.block_lt_of_cell? wr _ hh)).trans hh, (kb.cell (World.block_lt_of_cell? wr _ hcw)).trans hcw, (kb.cell (World.block_lt_of_cell? wr _ hlab)).trans hlab⟩)
                      clear hC1 hCw hcw hy hyr hyrow ey hCy hlab hvf hkW hW hkK hxk
                      go_upto_region 46 with (fail)
                      clear hh
                      refine region_but (S := (fun wx => wx.cell? ⟨g, k, none⟩ = some (.slice (some ⟨b, 0, none⟩) xl xc) ∧ wx.cell? ⟨bw, oww + k, none⟩ = some (.slice (some ⟨gy, oy, none⟩) xl cy) ∧ wx.cell? ⟨gy, oy + c * 14 + 13, none⟩ = some (.int .u8 vf))) 15 (by kernel_rfl) (KEEP.out _ ((Below.refl _ _).drew)) (fun hHeld => ?_)
                      obtain ⟨wz, hwz⟩ : ∃ X, X = wr.drew := ⟨_, rfl⟩
                      have HX := Lib.hid (show Below wr.heap.size wr wz by rw [hwz]; exact (Below.refl _ _).drew)
                      replace hHeld := KEEP.out _ HX.out
                      rw [← hwz]
                      clear hwz
                      refine ti 0 rfl (fun w hSw => by (try dsimp only at hSw); go_simp; try with_reducible rfl) ?_
                      go_frame
                      refine ti 1 rfl (fun w hSw => by (try dsimp only at hSw); go_simp; try with_reducible rfl) ?_
                      go_frame
                      refine ti 2 rfl (fun w hSw => by (try dsimp only at hSw); go_simp; try with_reducible rfl) ?_
                      go_frame
                      refine ti 3 rfl (fun w hSw => by (try dsimp only at hSw); go_simp; try with_reducible rfl) ?_
                      go_frame
                      refine ti 4 rfl (fun w hSw => by (try dsimp only at hSw); go_simp; try with_reducible rfl) ?_
                      go_frame
                      refine ti 5 rfl (fun w hSw => by (try dsimp only at hSw); go_simp; try with_reducible rfl) ?_
                      go_frame
                      refine ti 6 rfl (fun w hSw => by (try dsimp only at hSw); go_simp; try with_reducible rfl) ?_
                      go_frame
                      refine ti 7 rfl (fun w hSw => by (try dsimp only at hSw); go_simp; try with_reducible rfl) ?_
                      go_frame
                      refine ti 8 rfl (fun w hSw => by (try dsimp only at hSw); go_simp; try with_reducible rfl) ?_
                      go_frame
                      refine ti 9 rfl (fun w hSw => by (try dsimp only at hSw); go_simp; try with_reducible rfl) ?_
                      go_frame
                      refine ti 10 rfl (fun w hSw => by (try dsimp only at hSw); go_simp; try with_reducible rfl) ?_
                      go_frame
                      refine ti 11 rfl (fun w hSw => by (try dsimp only at hSw); go_simp; try with_reducible rfl) ?_
                      go_frame
                      refine ti 12 rfl (fun w hSw => by (try dsimp only at hSw); go_simp; try with_reducible rfl) ?_
                      go_frame
                      refine ti 13 rfl (fun w hSw => by (try dsimp only at hSw); go_simp; try with_reducible rfl) ?_
                      go_frame
                      refine ti 14 rfl (fun w hSw => by (try dsimp only at hSw); go_simp; try with_reducible rfl) ?_
                      go_frame
                      have HCZ := Lib.hid (HCG.out.below HX.out)
                      have yf := (CRow.at HCZ.out (i := c) (by rw [← HLN.out]; exact HCLt.out)).2.2.2.2.2.2.2.2.2.2.2.2.2
                      obtain ⟨vg, hvg⟩ : ∃ vg, vg = (gc (bkM (rowG G2 k) c) c).l := ⟨_, rfl⟩
                      rw [← hvg] at yf
                      have hf := HCZ.out.frozen HLN.out (c * 14 + 13)
                      obtain ⟨w2, hw2⟩ : ∃ w2, w2 = wz.setCell ⟨b, c * 14 + 13, none⟩ (.int .u8 vf) := ⟨_, rfl⟩
                      have HW2 := Lib.hid hw2
                      clear hvg
                      refine tx rfl (by kernel_rfl) (by kernel_rfl) (by kernel_rfl) (fun K hK => ?_)
                      go_simp
                      rw [← hw2]
                      refine hK.out _ _ ?_
                      clear hK K hw2 yf hf hHeld KEEP
                      try go_frame
                      have HC2 := Lib.hid (show HiC w2 K5 G2 k (c + 1) from by
                        obtain ⟨hkK, hxk⟩ := HXK.out
                        have hz : HiC wz K5 G2 k c := fun i hi => (HC1.out i hi).below HX.out
                        have hcR : c < (rowG G2 k).length := by rw [← HXL.out]; exact HCLt.out
                        rw [HW2.out]
                        refine hz.put HA5.out hkK (by rw [← hxk, HEX.out]; rfl) ?_
                        rw [← hxk, HEX.out, ← bkM_set hcR]
                        exact CRow.fld HCZ.out HLN.out (i := c) (j := 13) (by rw [bkM_len]; exact hcR) (by decide) (by rw [bkM_gc hcR, HVF.out]; rfl))
                      have HU2 := Lib.hid (show Buts (Blk K5) wt w2 from (HU1.out.trans (Buts.of HX.out)).trans (by
                        rw [HW2.out]
                        obtain ⟨hkK, hxk⟩ := HXK.out
                        exact Buts.but (But.set wz b _ _) ⟨x, by rw [hxk]; exact List.getElem_mem hkK, by rw [HEX.out]; rfl⟩))
                      go_wp2
                      go_roundg (xl - (c + 1))
                      case rel => exact ⟨c + 1, by (first | go_num | (refine congrArg _ ?_; unfold wrap64; have := HCLt.out; have := HX1.out; omega)), HCLt.out, Nat.le_refl _, HC2, HU2⟩
                      case measure => have := HCLt.out; omega
                    · have hce : c = (rowG G2 k).length := by rw [← HXL.out]; omega
                      have HC3 := Lib.hid (HC1.out.next hce)
                      clear hc hgc hce
                      go_wp2
                      go_roundg (m5 - (k + 1))
                      case rel => exact ⟨k + 1, by (first | go_num | (refine congrArg _ ?_; unfold wrap64; have := HKM.out; have := HM5.out.2; have := HM2.out; omega)), HKM.out, Nat.le_refl _, HC3, HU1⟩
                      case measure => have := HKM.out; omega
                · have hd5 : Hds wr (.slice va5 m5 vc5) K5 := own_buts HH5.out HU0.out (fun j hj hq => by
                    obtain ⟨y, hy, hb⟩ := hq
                    obtain ⟨cu, hcu⟩ := own_type (HS5.out y hy) hb
                    obtain ⟨cv, hcv⟩ := own_type HH5.out hj
                    exact type_ne hcv hcu (by decide) rfl)
                  obtain ⟨A, hA1, hA2, hA3⟩ := HC0.out.done (by have := HM5.out.1; omega) (by rw [← HM5.out.1, HM5.out.2]) hd5
                  have HA6 := Lib.hid (And.intro hA1 (And.intro hA2 hA3))
                  have HF6 := Lib.hid (show ∀ j, Blk K5 j → ws.heap.size ≤ j from fun j hj => by
                    obtain ⟨y, hy, hb⟩ := hj
                    exact (HF5.out y hy j hb).1)
                  have HR16 := Lib.hid (HR15.out.buts HU0.out (fun j hj => .inr (.inl (HF6.out j hj))))
                  have HB16 := Lib.hid (show Below wo.heap.size wo wr from HB15.out.trans (HU0.out.below (C := wo.heap.size) (fun j hj => by have h1 := HF6.out j hj; have h2 := HB14s.out; omega) HB15.out.size))
                  have HW16 := Lib.hid (HW15.out.buts HU0.out (fun j hj hq => by have h1 := HF6.out j hq; have h2 := HSY.out; omega))
                  have HZ16 := Lib.hid (Nat.le_trans HB15s.out HU0.out.size)
                  clear hk hgk hA1 hA2 hA3 hd5 HR15 HB15 HW15 HU0
                  go_wp2_with fail
                  refine (rsames_any _ _ wr _ _ A KW HA6.out.1 HW16.out (by rw [HA6.out.2.2]; have := HM5.out; have := HM2.out; omega) (fun y hy => by have h4 := HGL.out y.R (by have : y.R ∈ rws A := List.mem_map_of_mem hy; rw [HA6.out.2.1] at this; exact this); omega)).mono ?_
                  rintro e wu ⟨rfl, b1⟩
                  rw [decide_eq_true (show rws A = rws KW from by rw [HA6.out.2.1, HWR.out])]
                  have HR17 := Lib.hid (HR16.out.below b1)
                  have HB17 := Lib.hid (HB16.out.trans (b1.mono HB16.out.size))
                  have HW17 := Lib.hid (HW16.out.below b1)
                  replace HZ16 := Lib.hid (Nat.le_trans HZ16.out b1.size)
                  clear b1 HR16 HB16 HW16 HA6
                  go_wp2_with fail
                  refine (rs_all (i := 0) HR17.out rfl).mono ?_
                  rintro e wv ⟨v6, K6, rfl, hKx, hRx, b1⟩
                  have HR18 := Lib.hid (HR17.out.below b1)
                  have HB18 := Lib.hid (HB17.out.trans (b1.mono HB17.out.size))
                  have HW18 := Lib.hid (HW17.out.below b1)
                  have HXK6 := Lib.hid (And.intro hKx hRx)
                  replace HZ16 := Lib.hid (Nat.le_trans HZ16.out b1.size)
                  clear hKx hRx b1 HR17 HB17 HW17
                  have HLE := Lib.hid (show K6.length ≤ 10000 ∧ ∀ x ∈ K6, x.R.length ≤ 10000 from by
                    have h2 : (rws K6).length = G2.length := by rw [HXK6.out.1]
                    rw [List.length_map] at h2
                    have h3 := HM2.out
                    refine ⟨by omega, fun x hx => ?_⟩
                    have h4 := HGL.out x.R (by have : x.R ∈ rws K6 := List.mem_map_of_mem hx; rw [HXK6.out.1] at this; exact this)
                    omega)
                  go_wp2_with fail
                  refine (rsames_any _ _ wv _ _ K6 KW HXK6.out.2.see HW18.out HLE.out.1 HLE.out.2).mono ?_
                  rintro e wy ⟨rfl, b1⟩
                  rw [decide_eq_true (show rws K6 = rws KW from by rw [HXK6.out.1, HWR.out])]
                  have HR19 := Lib.hid (HR18.out.below b1)
                  have HB19 := Lib.hid (HB18.out.trans (b1.mono HB18.out.size))
                  replace HZ16 := Lib.hid (Nat.le_trans HZ16.out b1.size)
                  clear b1 HR18 HB18 HW18 HXK6 HLE
                  have HR20 := Lib.hid (show RsAt wy lo wy.heap.size (fun _ => False) [⟨p, room, G2, 0⟩] from HR19.out.head.mono HZ16.out (fun j _ _ h => h.elim))
                  clear HR19
                  go_wp2
                  go_roundg (20 - (i + 1))
                  case rel =>
                    have := HLT.out
                    exact ⟨i + 1, G2, by (first | go_num | (refine congrArg _ ?_; unfold wrap64; omega)), by omega, by omega, Nat.le_refl _, HR20, HB19⟩
                  case measure => have := HLT.out; omega
end Go.Proofs.Ytnefamgjlhdffaa.Lab
