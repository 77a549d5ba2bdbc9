/- Cuts of rows of lines; RingLast. -/
import Derived.Test.YtnefamgjlhdffaaRgWorks
import Derived.Test.YtnefamgjlhdffaaRgOpen
set_option linter.unusedVariables false
namespace Go.Proofs.Ytnefamgjlhdffaa.Lab
open Go Go.RowKit

theorem hds_both (ad : Option Addr) (n c i j : Nat) (hij : i ≤ j) (hj : j ≤ n) (hc : n ≤ c) : ∃ ad', (∀ w, (Instr.sliceAt 27 (.slice ad n c) (some (.int .i64 (i : Nat))) (some (.int .i64 (j : Nat))) none).run Try.prog w = .ok (.slice ad' (j - i) (c - i)) w) ∧ (∀ g o, ad = some ⟨g, o, none⟩ → 0 < j - i → ad' = some ⟨g, o + i, none⟩) := by
  refine ⟨if c = i then ad else ad.map fun a => a.add i, fun w => ?_, fun g o e h0 => ?_⟩
  · rw [run_sliceAt_slice w 27 _ _ _ _ unH, run_slice_lh (P := Try.prog) (w := w) (t := 27) (ht := unH) (kl := .i64) (kh := .i64) (l := (i : Int)) (h := (j : Int)) (h0 := by omega) (h1 := by omega) (h2 := by omega), elH, szH]
    simp only [Result.andThen, sliced, Int.toNat_natCast, Nat.mul_one]
  · subst e
    rw [if_neg (by omega), Option.map_some, Addr.add_mid]
theorem LIn.cut {S : Nat → Prop} {w : World} {ad ad' : Option Addr} {n c i j : Nat} {H : List Ln} (h : LIn S w (.slice ad n c) H) (hij : i ≤ j) (hj : j ≤ H.length) (hat : ∀ g o, ad = some ⟨g, o, none⟩ → 0 < j - i → ad' = some ⟨g, o + i, none⟩) : LIn S w (.slice ad' (j - i) (c - i)) ((H.drop i).take (j - i)) := by
  obtain ⟨a0, c0, e, h1, h2, h3⟩ := h.sh
  injection e with e1 e2 e3
  have hl : ((H.drop i).take (j - i)).length = j - i := by rw [List.length_take, List.length_drop]; omega
  refine ⟨⟨ad', c - i, by rw [hl], by rw [hl]; omega, by omega, fun h0 => ?_⟩, fun x hx => h.row x (List.mem_of_mem_drop (List.mem_of_mem_take hx)), h.foot.sub (fun x hx => List.mem_of_mem_drop (List.mem_of_mem_take hx))⟩
  rw [hl] at h0
  obtain ⟨g, o, ea, hg, hS, hcell⟩ := h3 (by omega)
  refine ⟨g, o + i, hat g o (by rw [e1]; exact ea) (by omega), hg, hS, fun k hk => ?_⟩
  rw [hl] at hk
  have e4 : ((H.drop i).take (j - i))[k]'(by rw [hl]; exact hk) = H[i + k]'(by omega) := by
    rw [List.getElem_take, List.getElem_drop]
  rw [e4, Nat.add_assoc]
  exact hcell (i + k) (by omega)
theorem LIn.from {S : Nat → Prop} {w : World} {ad ad' : Option Addr} {n c i : Nat} {H : List Ln} (h : LIn S w (.slice ad n c) H) (hi : i ≤ H.length) (hat : ∀ g o, ad = some ⟨g, o, none⟩ → 0 < H.length - i → ad' = some ⟨g, o + i, none⟩) : LIn S w (.slice ad' (H.length - i) (c - i)) (H.drop i) := by
  have := h.cut (j := H.length) hi (Nat.le_refl _) hat
  rwa [List.take_of_length_le (by rw [List.length_drop]; omega)] at this
/-- The rows of the first N lines. -/
def rowsN (N : Nat) (LL : List Lj) : List Cls := (LL.take N).map Lj.row
theorem rowsN_ok (N : Nat) (LL : List Lj) : ∀ R ∈ rowsN N LL, R.length ≤ 30 ∧ Wh R ∧ Lv R ∧ AllR R := fun R hR => by
  obtain ⟨x, _, rfl⟩ := List.mem_map.1 hR
  obtain ⟨h1, h2, h3⟩ := rowM_whole x.cols x.ds
  exact ⟨by rw [h3]; omega, h1, h2, drR_row _ _⟩

theorem i64_id {n : Nat} (h : n ≤ 1000) : IntKind.i64.wrap (n : Int) = (n : Int) := by rw [IntKind.wrap_i64]; omega
theorem u8_id {n : Nat} (h : n < 256) : IntKind.u8.wrap (n : Int) = (n : Int) := by rw [IntKind.wrap_u8]; omega
theorem i64_add {a b c : Nat} (h : c = a + b) (hc : c ≤ 1000) : IntKind.i64.wrap ((a : Int) + (b : Int)) = (c : Int) := by rw [IntKind.wrap_i64]; omega
theorem w64_add {a b c : Nat} (h : c = a + b) (hc : c ≤ 1000) : wrap64 ((a : Int) + (b : Int)) = (c : Int) := by unfold wrap64; omega
theorem i64_sub {a b c : Nat} (h : c = a - b) (hb : b ≤ a) (hc : a ≤ 1000) : IntKind.i64.wrap ((a : Int) - (b : Int)) = (c : Int) := by rw [IntKind.wrap_i64]; omega
theorem w64_sub {a b c : Nat} (h : c = a - b) (hb : b ≤ a) (hc : a ≤ 1000) : wrap64 ((a : Int) - (b : Int)) = (c : Int) := by unfold wrap64; omega
theorem tmod_nat {a b c : Nat} (h : c = a % b) : Int.tmod (a : Int) (b : Int) = (c : Int) := by rw [Int.tmod_eq_emod_of_nonneg (by omega), h]; exact (Int.natCast_emod a b).symm
theorem min_nat {a b c : Nat} (h : c = min a b) : min (a : Int) (b : Int) = (c : Int) := by omega
theorem ns_at {w : World} {v : Value} {L : List Nat} (h : NsIn w v L) : ∃ a c, v = .slice a L.length c ∧ L.length ≤ maxLen ∧ ∀ i, i < L.length → ∃ g o x, a = some ⟨g, o, none⟩ ∧ x < 256 ∧ w.cell? ⟨g, o + i, none⟩ = some (.int .u8 (x : Nat)) := by
  obtain ⟨a, c, e, h1, h2, h3⟩ := h
  refine ⟨a, c, e, h1, fun i hi => ?_⟩
  obtain ⟨g, o, ea, _, hC⟩ := h3 (by omega)
  exact ⟨g, o, L[i], ea, h2 _ (List.getElem_mem hi), hC i hi⟩
theorem ns_get {w : World} {a : Option Addr} {n c i : Nat} {L : List Nat} (h : NsIn w (.slice a n c) L) (hi : i < L.length) : ∃ g o x, a = some ⟨g, o, none⟩ ∧ x < 256 ∧ w.cell? ⟨g, o + i, none⟩ = some (.int .u8 (x : Nat)) := by
  obtain ⟨a', c', e, _, h3⟩ := ns_at h
  injection e with e1 _ _
  rw [e1]
  exact h3 i hi
set_option maxHeartbeats 8000000 in
set_option maxRecDepth 100000 in
theorem last_any (w : World) (most : Nat) (lv pv : Value) (LL : List Lj) (P : List Nat) (hm : most < 256) (hL : LjsIn w lv LL) (hP : NsIn w pv P) :
    Calls Try.prog 4 #[.int .u8 (most : Nat), lv, pv] w fun e w' => e = .returned (.bool true) ∧ Below w.heap.size w w' := by
  obtain ⟨la, lc, rfl⟩ := hL.shape
  obtain ⟨n, hn⟩ : ∃ n, n = LL.length := ⟨_, rfl⟩
  have HNN := Lib.hid hn
  obtain ⟨pa, pc, rfl, hpm, _⟩ := ns_at hP
  obtain ⟨np, hnp⟩ : ∃ n, n = P.length := ⟨_, rfl⟩
  have HNP := Lib.hid (And.intro hnp hpm)
  have HL := Lib.hid hL
  have HPP := Lib.hid hP
  have HWK := Lib.hid (works_any w)
  obtain ⟨room, hroom⟩ : ∃ r, r = most % 12 := ⟨_, rfl⟩
  have HRO := Lib.hid (show room < 12 by omega)
  have r1 : Int.tmod (most : Int) 12 = (room : Int) := by rw [Int.tmod_eq_emod_of_nonneg (by omega)]; omega
  have r2 : IntKind.u8.wrap (room : Int) = (room : Int) := by rw [IntKind.wrap_u8]; omega
  have r3 : IntKind.i64.wrap (room : Int) = (room : Int) := by rw [IntKind.wrap_i64]; omega
  rw [← hn] at HL ⊢
  rw [← hnp] at HPP ⊢
  clear hL hP hn hnp hpm hroom hm
  go_enter Try.func4, Try.ntmps4
  go_wp2_with fail
  refine HWK.out.mono ?_
  rintro e w0 ⟨rfl, b1⟩
  have HB0 := Lib.hid b1
  replace HL := Lib.hid (HL.out.below b1)
  replace HPP := Lib.hid (HPP.out.below b1)
  clear b1 HWK
  go_wp2
  clear r1 r2 r3
  have HP0 := Lib.hid (show MkAt w0 w0 (.slice none 0 0) [] from ⟨World.ownsRow_nil _ _ _ 1, LsOk.nil _, Apart.nil, Foot.nil _, Below.refl _ _⟩)
  go_loopg [8, 9, 22, 23, 24, 25, 26, 27, 28, 29, 30, 31, 32, 33, 34, 35, 36, 37, 38, 39] 40 (fun gl b8 b9 b22 b23 b24 b25 b26 b27 b28 b29 b30 b31 b32 b33 b34 b35 b36 b37 b38 b39 wr => ∃ (k : Nat) (v : Value) (K : List Ln), b8 = v ∧ b9 = .int .i64 k ∧ k ≤ 40 ∧ k ≤ n ∧ 40 - k ≤ gl ∧ Hid (rws K = (LL.take k).map Lj.row) ∧ Hid (MkAt w0 wr v K))
  case atStart => exact ⟨0, _, [], rfl, rfl, by omega, by omega, by omega, Lib.hid rfl, HP0⟩
  case round =>
    obtain ⟨k, v, K, rfl, rfl, hk6, hkn, hgk, HK, HP⟩ := hrel
    clear HP0
    obtain ⟨va, vc, hv⟩ := own_shape HP.out.1
    have hkl : K.length = k := by
      have := congrArg List.length HK.out
      rw [List.length_map, List.length_map, List.length_take, ← HNN.out] at this
      omega
    have HKL := Lib.hid hkl
    rw [hkl] at hv
    subst hv
    clear hkl
    obtain ⟨tst, htst⟩ : ∃ b : Bool, b = decide (k < n ∧ k < 40) := ⟨_, rfl⟩
    have HTS := Lib.hid htst
    clear htst
    go_upto_region 6 with (fail)
    go_cut [29] (fun v29 wc => v29 = .bool tst ∧ Hid (wc = wr))
    case first =>
      by_cases h1 : k < n
      · by_cases h2 : k < 40
        · have g2 : (k : Int) < 40 := by omega
          have ht : tst = true := by rw [HTS.out, decide_eq_true (And.intro h1 h2)]
          go_wp2
          go_meet
          case rel => exact ⟨by rw [ht], Lib.hid rfl⟩
        · have g2 : ¬ (k : Int) < 40 := by omega
          have ht : tst = false := by rw [HTS.out, decide_eq_false (by omega)]
          go_wp2
          go_meet
          case rel => exact ⟨by rw [ht], Lib.hid rfl⟩
      · have ht : tst = false := by rw [HTS.out, decide_eq_false (by omega)]
        go_wp2
        go_meet
        case rel => exact ⟨by rw [ht], Lib.hid rfl⟩
    case rest =>
    obtain ⟨rfl, hwc⟩ := hcut
    have hwc' := hwc.out.symm
    subst hwc'
    cases htt : tst with
    | true =>
      have hlt2 := of_decide_eq_true (HTS.out.symm.trans htt)
      clear HTS htt
      obtain ⟨g, o, u, ea, hg, c0, c256, cu, hd⟩ := (HL.out.below HP.out.2.2.2.2).at (i := k) (by rw [← HNN.out]; exact hlt2.1)
      subst ea
      obtain ⟨ua, uc, hu⟩ := hd.shape
      subst hu
      obtain ⟨x, hx⟩ : ∃ x, x = LjK LL k := ⟨_, rfl⟩
      rw [← hx] at c0 c256 cu hd
      obtain ⟨nd, hnd⟩ : ∃ m, m = x.ds.length := ⟨_, rfl⟩
      rw [← hnd] at cu
      have HND := Lib.hid hnd
      have HD := Lib.hid (And.intro hd c256)
      have HLT := Lib.hid hlt2
      have hltn : k < n := hlt2.1
      have HTK := Lib.hid (show (LL.take (k + 1)).map Lj.row = (LL.take k).map Lj.row ++ [x.row] by
        have hk : k < LL.length := by rw [← HNN.out]; exact hlt2.1
        rw [List.take_succ_eq_append_getElem hk, hx, LjK_eq hk, List.map_append]
        rfl)
      clear hd c256 hx hnd hg hlt2
      go_wp2_with fail
      rw [HND.out]
      refine (rrow_any wr x.cols (.slice ua x.ds.length uc) x.ds HD.out.2 HD.out.1).mono ?_
      rintro e w2 ⟨r, rfl, ow, b2⟩
      obtain ⟨ra, rc, hr⟩ := ow.shape
      subst hr
      have HO := Lib.hid ow
      have HB2 := Lib.hid b2
      clear ow b2 c0 cu
      obtain ⟨q8, hq8⟩ : ∃ q, q = w2.heap.size := ⟨_, rfl⟩
      obtain ⟨w8, hw8⟩ : ∃ X, X = w2.alloc (.cells #[.slice ra (x.row).length rc] 38) := ⟨_, rfl⟩
      have HB8 := Lib.hid (show Below w2.heap.size w2 w8 by rw [hw8]; exact (Below.refl _ _).alloc (Nat.le_refl _) _)
      have HI8 := Lib.hid (show w8.cell? ⟨q8, 0, none⟩ = some (.slice ra (x.row).length rc) by rw [hw8, hq8]; simp)
      have HX := Lib.hid (show Below wr.heap.size wr w8 from HB2.out.trans (HB8.out.mono HB2.out.size))
      have HSW := Lib.hid (show w0.heap.size ≤ wr.heap.size from HP.out.2.2.2.2.size)
      go_wp2_with (at_builtin; rw [← hw8, ← hq8]; clear hw8 hq8; refine wpList_append_lnb rfl (.tmp 32) (.tmp 38) rfl w0.heap.size (.slice va k vc) k (vls K) rfl (by have := own_below HP.out.1 HX.out; rw [HKL.out] at this; exact this) q8 (.slice ra (x.row).length rc) rfl HI8.out rfl (by omega) (Nat.le_trans HSW.out HX.out.size) ?_)
      intro v9 w9 ow9 gr9
      obtain ⟨a9, c9, e9⟩ := own_shape ow9
      subst e9
      have HP9 := Lib.hid (show MkAt w0 w9 (.slice a9 (k + 1) c9) (K ++ [⟨.slice ra (x.row).length rc, x.row⟩]) from by
        have hown := own_below HP.out.1 HX.out
        rw [HKL.out] at hown
        have hO8 := HO.out.below HB8.out
        refine ⟨?_, ?_, HP.out.2.2.1.add (X := fun j => j < wr.heap.size) HP.out.2.1.lt (fun b hb hlt => by have := (hO8.lt b hb).1; omega), HP.out.2.2.2.1.append (Foot.one fun b hb => Nat.le_trans HSW.out (hO8.lt b hb).1), ?_⟩
        · rw [List.length_append, HKL.out, List.length_singleton, show vls (K ++ [⟨.slice ra (x.row).length rc, x.row⟩]) = vls K ++ [.slice ra (x.row).length rc] by simp [vls]]
          exact ow9
        · refine ((HP.out.2.1.below HX.out).append (LsOk.one (hO8.lower (Nat.zero_le _)))).past gr9 (fun g' hg' => ?_)
          obtain ⟨cu, hcu⟩ := own_type hown hg'
          exact ⟨cu, _, _, hcu, by decide⟩
        · exact (HP.out.2.2.2.2.trans (HX.out.mono HP.out.2.2.2.2.size)).grown gr9 (Nat.le_trans HSW.out HX.out.size) (fun j hj => (hown.lt j hj).1))
      clear ow9 gr9
      go_wp2
      go_roundg (40 - (k + 1))
      case rel =>
        have hlt := HLT.out
        refine ⟨k + 1, _, _, rfl, by (first | go_num | (refine congrArg _ ?_; unfold wrap64; omega)), by omega, by omega, Nat.le_refl _, Lib.hid ?_, HP9⟩
        rw [rws_append, HK.out, HTK.out]
        rfl
      case measure => have := HLT.out; omega
    | false =>
      have hge := of_decide_eq_false (HTS.out.symm.trans htt)
      have HK40 := Lib.hid (show rws K = rowsN 40 LL from by
        rw [HK.out]
        unfold rowsN
        have hn := HNN.out
        by_cases h : k = 40
        · rw [h]
        · rw [List.take_of_length_le (by omega), List.take_of_length_le (by omega)])
      have HKM := Lib.hid (show k ≤ 40 from hk6)
      clear HTS htt hge hgk hkn HK HL hk6
      obtain ⟨wo, hwo⟩ : ∃ wo, wo = wr := ⟨_, rfl⟩
      subst hwo
      have HRL := Lib.hid (show ∀ x ∈ K, x.R.length ≤ 30 from fun x hx => (rowsN_ok 40 LL x.R (by rw [← HK40.out]; exact List.mem_map_of_mem hx)).1)
      replace HB0 := Lib.hid (show Below w.heap.size w wo from HB0.out.trans (HP.out.2.2.2.2.mono HB0.out.size))
      have HPW := Lib.hid (HPP.out.below HP.out.2.2.2.2)
      have HA := Lib.hid (show LIn (fun j => j < wo.heap.size) wo (.slice va k vc) K from HP.out.rows.see.mono (fun j hj => hj.2))
      have hvc : k ≤ vc := by
        obtain ⟨a0, c0, e, h, _⟩ := HA.out.sh
        injection e with _ _ e3
        rw [HKL.out] at h
        omega
      have HVC := Lib.hid hvc
      clear HP HPP hvc
      obtain ⟨lo, hlo⟩ : ∃ lo, lo = wo.heap.size := ⟨_, rfl⟩
      have HLO := Lib.hid hlo
      rw [← hlo] at HA
      have HR0 := Lib.hid (show RsAt wo lo wo.heap.size (fun _ => False) [] from RsAt.nil _ _ _ _)
      clear hlo
      go_wp2_with fail
      refine (rs_new room 0 HR0.out (by have := HRO.out; omega) (Nat.le_refl _) (by rw [HLO.out]; exact Nat.le_refl _) (fun j h => h.elim)).mono ?_
      rintro e w1 ⟨p1, rfl, hr, b1⟩
      have HR1 := Lib.hid hr
      have HB1 := Lib.hid b1
      clear hr b1 HR0
      go_wp2_with fail
      refine (rs_new room 0 HR1.out (by have := HRO.out; omega) (Nat.le_refl _) (by rw [HLO.out]; exact HB1.out.size) (fun j h => h.elim)).mono ?_
      rintro e w2 ⟨p2, rfl, hr, b1⟩
      have HR2 := Lib.hid hr
      have HB2 := Lib.hid (HB1.out.trans (b1.mono HB1.out.size))
      clear hr b1 HR1 HB1
      go_wp2_with fail
      refine (rs_new room 0 HR2.out (by have := HRO.out; omega) (Nat.le_refl _) (by rw [HLO.out]; exact HB2.out.size) (fun j h => h.elim)).mono ?_
      rintro e w3 ⟨p3, rfl, hr, b1⟩
      have HR3 := Lib.hid (hr.cast (show _ = ([⟨p1, room, lastN room (rws (K.take 0)), 0⟩, ⟨p2, room, lastN room (rws (K.take 0)), 0⟩, ⟨p3, room, [], 0⟩] : List Rr) from by rw [List.take_zero, show rws [] = [] from rfl, lastN_few (Nat.zero_le _)]; rfl))
      have HB3 := Lib.hid (HB2.out.trans (b1.mono HB2.out.size))
      clear hr b1 HR2 HB2
      go_wp2
      go_loopg [13, 14, 15, 56, 57, 58, 59, 60, 61, 62, 63, 64, 65, 66, 67, 68, 69, 70, 71, 72, 73, 74, 75, 76, 77, 78, 79, 80, 81, 82, 83, 84, 85, 86, 87, 88, 89, 90, 91, 92, 93, 94, 95, 96, 97, 98, 99, 100, 101, 102, 103, 104, 105, 106, 107, 108, 109, 110, 111, 112, 113, 114] k (fun gl b13 b14 b15 b56 b57 b58 b59 b60 b61 b62 b63 b64 b65 b66 b67 b68 b69 b70 b71 b72 b73 b74 b75 b76 b77 b78 b79 b80 b81 b82 b83 b84 b85 b86 b87 b88 b89 b90 b91 b92 b93 b94 b95 b96 b97 b98 b99 b100 b101 b102 b103 b104 b105 b106 b107 b108 b109 b110 b111 b112 b113 b114 wr => ∃ (i a : Nat), b13 = .int .i64 a ∧ b14 = .int .i64 i ∧ i ≤ a ∧ a ≤ k ∧ k - i ≤ gl ∧ Hid (RsAt wr lo wr.heap.size (fun _ => False) [⟨p1, room, lastN room (rws (K.take i)), 0⟩, ⟨p2, room, lastN room (rws (K.take a)), 0⟩, ⟨p3, room, [], 0⟩]) ∧ Hid (Below wo.heap.size wo wr))
      case atStart => exact ⟨0, 0, rfl, rfl, Nat.le_refl _, Nat.zero_le _, by omega, HR3, HB3⟩
      case round =>
        obtain ⟨i, a, rfl, rfl, hia, hak, hgi, HR, HB⟩ := hrel
        clear HR3 HB3
        have HA1 := Lib.hid (HA.out.below HB.out)
        by_cases hlt : i < k
        · have hiK : i < K.length := by rw [HKL.out]; exact hlt
          obtain ⟨b, o, ea, hC⟩ := HA1.out.get (by omega)
          obtain ⟨x, hx⟩ : ∃ x, x = K[i] := ⟨_, rfl⟩
          have hci := hC i hiK
          rw [← hx] at hci
          subst ea
          have hxm : x ∈ K := by rw [hx]; exact List.getElem_mem hiK
          have HTK := Lib.hid (show K.take (i + 1) = K.take i ++ [x] by rw [List.take_succ_eq_append_getElem hiK, hx])
          have HXR := Lib.hid (show RowIn wr x.v x.R ∧ x.R.length ≤ 1000 ∧ (∀ b, x.v.ownBlock = some b → b < lo) from ⟨HA1.out.row x hxm, by have := HRL.out x hxm; omega, fun b hb => HA1.out.foot x hxm b hb⟩)
          obtain ⟨xa, xc, ex⟩ := HXR.out.1.shape
          rw [ex] at hci
          have HXV := Lib.hid ex
          obtain ⟨xl, hxl⟩ : ∃ xl, xl = x.R.length := ⟨_, rfl⟩
          rw [← hxl] at hci HXV
          have HLT := Lib.hid hlt
          clear hC hx hxm ex hiK hxl
          obtain ⟨q, hq⟩ : ∃ q, q = wr.heap.size := ⟨_, rfl⟩
          obtain ⟨w4, hw4⟩ : ∃ X, X = wr.alloc (.cells #[.slice xa xl xc] 38) := ⟨_, rfl⟩
          have HB4 := Lib.hid (show Below wr.heap.size wr w4 by rw [hw4]; exact (Below.refl _ _).alloc (Nat.le_refl _) _)
          have HI := Lib.hid (show LIn (fun j => j < lo ∨ wr.heap.size ≤ j) w4 (.slice (some ⟨q, 0, none⟩) 1 1) [x] from by
            have := LIn.lit wr [x] (fun j => j < lo ∨ wr.heap.size ≤ j) q hq (.inr (by rw [hq]; exact Nat.le_refl _)) (fun y hy => by rw [List.mem_singleton.1 hy]; exact HXR.out.1) (Foot.one fun b hb => .inl (HXR.out.2.2 b hb)) (by exact (show 1 ≤ 1000 by decide))
            rw [hw4, ← HXV.out]
            exact this)
          go_wp2_with fail
          rw [← hw4, ← hq]
          clear hw4 hq hci
          refine (rs_push (i := 0) (S := fun j => j < lo ∨ wr.heap.size ≤ j) (HR.out.below HB4.out) rfl (by rw [HLO.out]; exact Nat.le_trans HB.out.size HB4.out.size) (fun j h => h.elim) HI.out (fun j h => h.elim .inl (fun h => .inr (.inl h))) (fun y hy => by rw [List.mem_singleton.1 hy]; exact HXR.out.2.1) (by exact (show 1 ≤ 100000 by decide))).mono ?_
          rintro e w5 ⟨rfl, hr, b5⟩
          have HR5 := Lib.hid (hr.cast (show _ = ([⟨p1, room, lastN room (rws (K.take (i + 1))), 0⟩, ⟨p2, room, lastN room (rws (K.take a)), 0⟩, ⟨p3, room, [], 0⟩] : List Rr) from congrArg (fun G => ([⟨p1, room, G, 0⟩, ⟨p2, room, lastN room (rws (K.take a)), 0⟩, ⟨p3, room, [], 0⟩] : List Rr)) (show lastN room (lastN room (rws (K.take i)) ++ rws [x]) = lastN room (rws (K.take (i + 1))) from by rw [HTK.out, rws_append, lastN_app])))
          have HB5 := Lib.hid (show Below wo.heap.size wo w5 from (HB.out.trans (HB4.out.mono HB.out.size)).trans (b5.below (C := wo.heap.size) (fun j hj => by have := hj.1; rw [HLO.out] at this; exact this) (HB.out.trans (HB4.out.mono HB.out.size)).size))
          clear hr b5 HI HR HB HB4 HA1 HTK HXR HXV
          obtain ⟨ml, hml⟩ : ∃ ml, ml = (lastN room (rws (K.take (i + 1)))).length := ⟨_, rfl⟩
          have hml2 : ml = min (i + 1) room := by
            rw [hml, lastN_len, List.length_map, List.length_take, HKL.out]
            have := HLT.out
            omega
          have HLE := Lib.hid (show Calls Try.prog 23 #[pV p1] w5 fun e w' => e = .returned (.int .i64 (ml : Nat)) ∧ w5 = w' from by
            rw [hml]
            exact rs_len (i := 0) HR5.out rfl)
          clear hml
          go_wp2_with fail
          refine HLE.out.mono ?_
          rintro e w' ⟨rfl, rfl⟩
          have u1 : ¬ (ml : Int) > (room : Int) := by omega
          have u1n : ¬ room < ml := by omega
          have hik : i + 1 ≤ 1000 := by have := HLT.out; have := HKM.out; omega
          have u2 : min (room : Int) ((i : Int) + 1) = (ml : Int) := min_nat (a := room) (b := i + 1) (by rw [hml2, Nat.min_comm])
          have u3 : IntKind.i64.wrap ((i : Int) + 1) = (i : Int) + 1 := i64_add (a := i) (b := 1) (c := i + 1) rfl hik
          have u4 : wrap64 ((i : Int) + 1) = (i : Int) + 1 := w64_add (a := i) (b := 1) (c := i + 1) rfl hik
          clear hml2
          go_wp2_with fail
          refine HLE.out.mono ?_
          rintro e w' ⟨rfl, rfl⟩
          clear HLE
          go_upto_if 84 with (fail)
          clear u1 u1n u2
          by_cases hie : i = a
          · subst hie
            have HLK := Lib.hid (show k - i ≤ gk from hgi)
            clear hia hgi
            go_upto_if 87 with (fail)
            go_cut [15] (fun v15 wc => ∃ m : Nat, v15 = .int .i64 (m : Nat) ∧ 1 ≤ m ∧ m ≤ 9 ∧ Hid (wc = w5))
            case first =>
              by_cases h0 : 0 < np
              · obtain ⟨ip, hip⟩ : ∃ ip, ip = i % np := ⟨_, rfl⟩
                have hlp : ip < np := by rw [hip]; exact Nat.mod_lt _ h0
                obtain ⟨g, o2, x, ea, hx, hc⟩ := ns_get (HPW.out.below HB5.out) (i := ip) (by rw [← HNP.out.1]; exact hlp)
                subst ea
                obtain ⟨x9, hx9⟩ : ∃ x9, x9 = x % 9 := ⟨_, rfl⟩
                have hx98 : x9 < 9 := by omega
                obtain ⟨y9, hy9⟩ : ∃ y9, y9 = 1 + x9 := ⟨_, rfl⟩
                have HY := Lib.hid (show 1 ≤ y9 ∧ y9 ≤ 9 by omega)
                have hy1 : y9 ≤ 1000 := by omega
                have hx1 : x9 < 256 := by omega
                have hx2 : x9 ≤ 1000 := by omega
                have hip1 : ip ≤ 1000 := by have := Nat.mod_le i np; omega
                have q0 : (np : Int) > 0 := by omega
                have q1 : Int.tmod (i : Int) (np : Int) = (ip : Int) := tmod_nat hip
                have q2 : Int.tmod (x : Int) 9 = (x9 : Int) := tmod_nat (b := 9) hx9
                have q3 : IntKind.i64.wrap (1 + (x9 : Int)) = (y9 : Int) := i64_add (a := 1) hy9 hy1
                have q4 : IntKind.u8.wrap (x9 : Int) = (x9 : Int) := u8_id hx1
                have q5 : IntKind.i64.wrap (x9 : Int) = (x9 : Int) := i64_id hx2
                have q6 : wrap64 (1 + (x9 : Int)) = (y9 : Int) := w64_add (a := 1) hy9 hy1
                have q8 : IntKind.i64.wrap (ip : Int) = (ip : Int) := i64_id hip1
                clear hip hx9 hy9 hx98 hy1 hx2 hip1
                go_wp2
                go_meet
                case rel => exact ⟨y9, rfl, HY.out.1, HY.out.2, Lib.hid rfl⟩
              · have q0 : ¬ (np : Int) > 0 := by omega
                go_wp2
                go_meet
                case rel => exact ⟨1, rfl, by omega, by omega, Lib.hid rfl⟩
            case rest =>
            obtain ⟨m, rfl, hm1, hm9, hwc⟩ := hcut
            have hwc' := hwc.out.symm
            subst hwc'
            obtain ⟨d, hd⟩ : ∃ d, d = k - i := ⟨_, rfl⟩
            obtain ⟨nn, hnn⟩ : ∃ nn, nn = min m d := ⟨_, rfl⟩
            obtain ⟨j, hj⟩ : ∃ j, j = i + nn := ⟨_, rfl⟩
            have HJ := Lib.hid (show i < j ∧ j ≤ k ∧ k ≤ 40 by have := HLT.out; have := HKM.out; omega)
            have hk40 : k ≤ 1000 := by have := HKM.out; omega
            have hik2 : i ≤ k := by have := HLT.out; omega
            have hj40 : j ≤ 1000 := by have := HJ.out; omega
            obtain ⟨ad, hcut, hat⟩ := hds_both (some ⟨b, o, none⟩) k vc i j (by have := HJ.out; omega) (by have := HJ.out; omega) HVC.out
            have HAT := Lib.hid hat
            have HA5 := Lib.hid (HA.out.below HB5.out)
            have HIJ := Lib.hid (show K.take j = K.take i ++ (K.drop i).take nn from by
              rw [← List.take_add, ← hj])
            obtain ⟨cc, hcc⟩ : ∃ cc, cc = vc - i := ⟨_, rfl⟩
            have hnj : j - i = nn := by omega
            have HCU := Lib.hid (show LIn (fun j => j < lo) w5 (.slice ad nn cc) ((K.drop i).take nn) from by
              have := HA5.out.cut (i := i) (j := j) (by have := HJ.out; omega) (by rw [HKL.out]; have := HJ.out; omega) HAT.out
              rw [hnj, ← hcc] at this
              exact this)
            have hnn40 : nn ≤ 40 := by have := HJ.out; omega
            have HNK := Lib.hid (show ((K.drop i).take nn).length ≤ 100000 by rw [List.length_take]; omega)
            have HRLC := Lib.hid (show ∀ y ∈ (K.drop i).take nn, y.R.length ≤ 1000 from fun y hy => by have := HRL.out y (List.mem_of_mem_drop (List.mem_of_mem_take hy)); omega)
            clear hnn40
            have v1 : IntKind.i64.wrap ((k : Int) - (i : Int)) = (d : Int) := i64_sub hd hik2 hk40
            have v2 : wrap64 ((k : Int) - (i : Int)) = (d : Int) := w64_sub hd hik2 hk40
            have v3 : min (m : Int) (d : Int) = (nn : Int) := min_nat hnn
            have v4 : IntKind.i64.wrap ((i : Int) + (nn : Int)) = (j : Int) := i64_add hj hj40
            have v5 : wrap64 ((i : Int) + (nn : Int)) = (j : Int) := w64_add hj hj40
            rw [hnj, ← hcc] at hcut
            clear hat hd hnn hj hm1 hm9 hcc hnj HA5 hk40 hik2 hj40
            go_wp2_with fail
            refine (rs_push (i := 1) (S := fun j => j < lo) HR5.out rfl (by rw [HLO.out]; exact HB5.out.size) (fun j h => h.elim) HCU.out (fun j h => .inl h) HRLC.out HNK.out).mono ?_
            rintro e w6 ⟨rfl, hr, b6⟩
            have HR6 := Lib.hid (hr.cast (show _ = ([⟨p1, room, lastN room (rws (K.take (i + 1))), 0⟩, ⟨p2, room, lastN room (rws (K.take j)), 0⟩, ⟨p3, room, [], 0⟩] : List Rr) from congrArg (fun G => ([⟨p1, room, lastN room (rws (K.take (i + 1))), 0⟩, ⟨p2, room, G, 0⟩, ⟨p3, room, [], 0⟩] : List Rr)) (show lastN room (lastN room (rws (K.take i)) ++ rws ((K.drop i).take nn)) = lastN room (rws (K.take j)) from by rw [HIJ.out, rws_append, lastN_app])))
            have HB6 := Lib.hid (show Below wo.heap.size wo w6 from HB5.out.trans (b6.below (C := wo.heap.size) (fun j hj => by have := hj.1; rw [HLO.out] at this; exact this) HB5.out.size))
            clear hr b6 HR5 HB5 HAT HCU HIJ hcut v1 v2 v3 HNK HRLC
            go_wp2
            clear v4 v5 u3
            go_roundg (k - (i + 1))
            case rel =>
              have hj := HJ.out
              clear u4
              exact ⟨i + 1, j, rfl, by (first | go_num | (refine congrArg _ ?_; unfold wrap64; omega)), by omega, by omega, by omega, HR6, HB6⟩
            case measure => have := HLT.out; have := HLK.out; omega
          · have f1 : ((i : Int) == (a : Int)) = false := by simp; omega
            go_wp2
            go_roundg (k - (i + 1))
            case rel => exact ⟨i + 1, a, rfl, by (first | go_num | (refine congrArg _ ?_; unfold wrap64; omega)), by omega, by omega, by omega, HR5, HB5⟩
            case measure => have := HLT.out; omega
        · obtain rfl : i = k := by omega
          obtain rfl : a = i := by omega
          clear hia hak hgi hlt
          have HRZ := Lib.hid (HR.out.cast (show _ = ([⟨p1, room, lastN room (rws K), 0⟩, ⟨p2, room, lastN room (rws K), 0⟩, ⟨p3, room, [], 0⟩] : List Rr) from by rw [List.take_of_length_le (by rw [HKL.out]; exact Nat.le_refl _)]))
          clear HR
          go_wp2_with fail
          refine (rs_push (i := 2) (S := fun j => j < lo) HRZ.out rfl (by rw [HLO.out]; exact HB.out.size) (fun j h => h.elim) HA1.out (fun j h => .inl h) (fun y hy => by have := HRL.out y hy; omega) (by rw [HKL.out]; have := HKM.out; omega)).mono ?_
          rintro e w6 ⟨rfl, hr, b6⟩
          have HR6 := Lib.hid (hr.cast (show _ = ([⟨p1, room, lastN room (rws K), 0⟩, ⟨p2, room, lastN room (rws K), 0⟩, ⟨p3, room, lastN room (rws K), 0⟩] : List Rr) from rfl))
          have HB6 := Lib.hid (show Below wo.heap.size wo w6 from HB.out.trans (b6.below (C := wo.heap.size) (fun j hj => by have := hj.1; rw [HLO.out] at this; exact this) HB.out.size))
          clear hr b6 HRZ HB HA1
          obtain ⟨s, hs⟩ : ∃ s, s = min a room := ⟨_, rfl⟩
          obtain ⟨i0, hi0⟩ : ∃ i0, i0 = a - s := ⟨_, rfl⟩
          have ha40 : a ≤ 1000 := by have := HKM.out; omega
          have hsa : s ≤ a := by omega
          obtain ⟨ad, hcut, hat⟩ := hds_from va a vc i0 (by omega) HVC.out
          have hai : a - i0 = s := by omega
          obtain ⟨cc, hcc⟩ : ∃ cc, cc = vc - i0 := ⟨_, rfl⟩
          have HW := Lib.hid (show LIn (fun j => j < lo) wo (.slice ad s cc) (K.drop i0) from by
            have := HA.out.from (i := i0) (ad' := ad) (by rw [HKL.out]; omega) (by rw [HKL.out]; exact hat)
            rw [HKL.out, hai, ← hcc] at this
            exact this)
          have HLN := Lib.hid (show rws (K.drop i0) = lastN room (rws K) from by
            unfold lastN rws
            rw [List.map_drop, List.length_map, HKL.out, ← hs, ← hi0])
          rw [hai, ← hcc] at hcut
          have v1 : min (a : Int) (room : Int) = (s : Int) := min_nat hs
          have v2 : IntKind.i64.wrap ((a : Int) - (s : Int)) = (i0 : Int) := i64_sub hi0 hsa ha40
          have v3 : wrap64 ((a : Int) - (s : Int)) = (i0 : Int) := w64_sub hi0 hsa ha40
          clear hs hi0 ha40 hsa hat hai hcc
          go_wp2_with fail
          refine (rs_all (i := 0) HR6.out rfl).mono ?_
          rintro e w7 ⟨v7, K7, rfl, hK7, r7, b7⟩
          have HR7 := Lib.hid (HR6.out.below b7)
          have HB7 := Lib.hid (HB6.out.trans (b7.mono HB6.out.size))
          have HK7 := Lib.hid (And.intro hK7 r7)
          clear hK7 r7 b7 HR6 HB6 hcut v1 v2 v3
          have HLK := Lib.hid (show K7.length ≤ 10000 ∧ ∀ x ∈ K7, x.R.length ≤ 10000 from by
            have h1 := HR7.out.len (i := 0) rfl
            have h2 : (rws K7).length ≤ room := by rw [HK7.out.1]; exact h1.1
            have h3 : room ≤ 1000 := h1.2.1
            rw [List.length_map] at h2
            refine ⟨by omega, fun x hx => ?_⟩
            have h4 := h1.2.2 x.R (by have : x.R ∈ rws K7 := List.mem_map_of_mem hx; rw [HK7.out.1] at this; exact this)
            omega)
          go_wp2_with fail
          refine (rsames_any _ _ w7 _ _ K7 (K.drop i0) HK7.out.2.see (HW.out.below HB7.out) HLK.out.1 HLK.out.2).mono ?_
          rintro e w8 ⟨rfl, b8⟩
          rw [decide_eq_true (show rws K7 = rws (K.drop i0) from by rw [HK7.out.1, HLN.out])]
          have HR8 := Lib.hid (HR7.out.below b8)
          have HB8 := Lib.hid (HB7.out.trans (b8.mono HB7.out.size))
          clear b8 HR7 HB7 HK7 HLK
          go_wp2_with fail
          refine (rs_same (i := 0) (j := 1) HR8.out rfl rfl).mono ?_
          rintro e w9 ⟨rfl, b9⟩
          rw [decide_eq_true ⟨rfl, rfl, rfl⟩]
          have HR9 := Lib.hid (HR8.out.below b9)
          have HB9 := Lib.hid (HB8.out.trans (b9.mono HB8.out.size))
          clear b9 HR8 HB8
          go_wp2_with fail
          refine (rs_same (i := 0) (j := 2) HR9.out rfl rfl).mono ?_
          rintro e w10 ⟨rfl, b9⟩
          rw [decide_eq_true ⟨rfl, rfl, rfl⟩]
          have HR10 := Lib.hid (HR9.out.below b9)
          have HB10 := Lib.hid (HB9.out.trans (b9.mono HB9.out.size))
          clear b9 HR9 HB9
          go_wp2_with fail
          refine (rs_all (i := 2) HR10.out rfl).mono ?_
          rintro e w11 ⟨v11, K11, rfl, hK7, r7, b7⟩
          have HR11 := Lib.hid (HR10.out.below b7)
          have HB11 := Lib.hid (HB10.out.trans (b7.mono HB10.out.size))
          have HK11 := Lib.hid (And.intro hK7 r7)
          clear hK7 r7 b7 HR10 HB10
          have HLK := Lib.hid (show K11.length ≤ 10000 ∧ ∀ x ∈ K11, x.R.length ≤ 10000 from by
            have h1 := HR11.out.len (i := 2) rfl
            have h2 : (rws K11).length ≤ room := by rw [HK11.out.1]; exact h1.1
            have h3 : room ≤ 1000 := h1.2.1
            rw [List.length_map] at h2
            refine ⟨by omega, fun x hx => ?_⟩
            have h4 := h1.2.2 x.R (by have : x.R ∈ rws K11 := List.mem_map_of_mem hx; rw [HK11.out.1] at this; exact this)
            omega)
          go_wp2_with fail
          refine (rsames_any _ _ w11 _ _ K11 (K.drop i0) HK11.out.2.see (HW.out.below HB11.out) HLK.out.1 HLK.out.2).mono ?_
          rintro e w12 ⟨rfl, b12⟩
          rw [decide_eq_true (show rws K11 = rws (K.drop i0) from by rw [HK11.out.1, HLN.out])]
          have HBZ := Lib.hid (show Below w.heap.size w w12 from HB0.out.trans ((HB11.out.trans (b12.mono HB11.out.size)).mono HB0.out.size))
          clear b12
          go_wp2
          go_ret
          exact ⟨rfl, HBZ.out⟩
end Go.Proofs.Ytnefamgjlhdffaa.Lab
