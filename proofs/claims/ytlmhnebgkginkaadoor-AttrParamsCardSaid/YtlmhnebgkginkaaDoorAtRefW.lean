/- The reference's digits, Write of rows of one number each, and Format. -/
import Derived.Test.YtlmhnebgkginkaaDoorAtRefP
import Derived.Test.YtlmhnebgkginkaaDoorAtForm
import Derived.Deep.CutBlock
import Derived.Deep.DeepCutAuto
namespace Go.Proofs.YtlmhnebgkginkaaDoor.Lab
open Go Go.RowKit

def strW (l : List UInt8) : ByteArray := ⟨l.toArray⟩
theorem strW_data (l : List UInt8) : (strW l).data.toList = l := by simp [strW]
theorem strW_size (l : List UInt8) : (strW l).size = l.length := by
  show l.toArray.size = _
  simp
theorem ba_ext {a b : ByteArray} (h : a.data.toList = b.data.toList) : a = b := by
  cases a with
  | mk a =>
    cases b with
    | mk b =>
      simp at h
      rw [h]
theorem cat_list (a b : ByteArray) : (a ++ b).data.toList = a.data.toList ++ b.data.toList := by simp
theorem ret_ba {a b : ByteArray} (h : a.data.toList = b.data.toList) : Ending.returned (.string a) = .returned (.string b) := by rw [ba_ext h]
theorem dec_lenW (u : Nat) : (Lib.decDigits u).length ≤ u + 1 := by
  induction u using Nat.strongRecOn with
  | _ u ih =>
    by_cases h10 : u < 10
    · rw [Lib.decDigits, dif_pos h10]
      simp
    · rw [Lib.decDigits, dif_neg h10, List.length_append]
      have := ih (u / 10) (by omega)
      simp
      omega
set_option maxHeartbeats 2000000 in
set_option maxRecDepth 100000 in
theorem rdigits_any : ∀ u : Nat, u ≤ 1000000 → ∀ (x : Int) (w : World), x = (u : Int) → Calls Tryd.prog 59 #[.int .i64 x] w fun e w' => e = .returned (.string (strW (Lib.decDigits u))) ∧ Below w.heap.size w w' := by
  intro u
  induction u using Nat.strongRecOn with
  | _ u ih =>
    intro hu x w hx
    subst hx
    obtain ⟨m, hm⟩ : ∃ m, u % 10 = m := ⟨_, rfl⟩
    obtain ⟨h, hh⟩ : ∃ h, u / 10 = h := ⟨_, rfl⟩
    have hm10 : m < 10 := by omega
    have t1 : Int.tmod (u : Int) 10 = (m : Int) := by rw [← hm]; rfl
    have t2 : (u : Int) % 10 = (m : Int) := by omega
    have d1 : Int.tdiv (u : Int) 10 = (h : Int) := by rw [← hh]; rfl
    have d2 : (u : Int) / 10 = (h : Int) := by omega
    have hcv := run_convert_bytes_back (P := Tryd.prog) (w.alloc (.cells #[.int .u8 (48 + (m : Int))] 5)) 92 9 5 ⟨w.heap.size, 0, none⟩ 1 [UInt8.ofNat (48 + m)] Tryd.underlying92 Tryd.underlying5 Tryd.underlying9 (by
      intro j hj
      have hj' : j < 1 := hj
      obtain rfl : j = 0 := by omega
      have e : (((UInt8.ofNat (48 + m)).toNat : Nat) : Int) = 48 + (m : Int) := by rw [dig_char m hm10]; omega
      simp [Addr.add]
      have e2 := dig_char m hm10
      rw [UInt8.toNat_ofNat'] at e2
      omega)
    simp only [List.length_singleton] at hcv
    have IH := Lib.hid (fun (hge : 10 ≤ u) => ih h (by omega) (by omega))
    have HDG := Lib.hid (show Lib.decDigits u = if u < 10 then [UInt8.ofNat (48 + m)] else Lib.decDigits h ++ [UInt8.ofNat (48 + m)] by
      by_cases h10 : u < 10
      · rw [if_pos h10, Lib.decDigits, dif_pos h10]
        have : m = u := by omega
        rw [this]
      · rw [if_neg h10, Lib.decDigits, dif_neg h10, hm, hh])
    have hhl := dec_lenW h
    have hh6 : h ≤ 1000000 := by omega
    clear hm hh ih
    by_cases h10 : u < 10
    · have HV := HDG.out
      rw [if_pos h10] at HV
      have HVV := Lib.hid HV
      clear HDG HV hhl hh6
      go_enter Tryd.func59, Tryd.ntmps59
      go_wp2
      go_ret
      exact ⟨ret_ba (by rw [strW_data, HVV.out]; simp), (Below.refl _ _).alloc (Nat.le_refl _) _⟩
    · have HV := HDG.out
      rw [if_neg h10] at HV
      have HVV := Lib.hid HV
      clear HDG HV
      go_enter Tryd.func59, Tryd.ntmps59
      go_wp2_with fail
      refine (IH.out (by omega) _ _ rfl).mono ?_
      rintro e w2 ⟨rfl, b2⟩
      obtain ⟨X, hX⟩ : ∃ X, X = strW (Lib.decDigits h) := ⟨_, rfl⟩
      rw [← hX]
      have hsX : X.size ≤ 1000001 := by rw [hX, strW_size]; omega
      have HX := Lib.hid hX
      clear hX hhl
      have n1 : ¬ 9223372036854775807 < X.size + 1 := by omega
      have HB := Lib.hid (((Below.refl w.heap.size w).alloc (Nat.le_refl _) (.cells #[.int .u8 (48 + (m : Int))] 5)).trans (b2.mono (by simp)))
      clear b2
      go_wp2
      go_ret
      exact ⟨ret_ba (by rw [cat_list, HX.out, strW_data, strW_data, HVV.out]; simp), HB.out⟩
/-- Rows of one number each, as bytes. -/
def ones (l : List Int) : Rws := l.map fun x => [x]
theorem allT_snoc (l : List Int) (x : Int) : allT (ones (l ++ [x])) = allT (ones l) ++ ((if l.length = 0 then [] else [59]) ++ numT x) := by
  unfold allT ones
  rw [List.map_append, List.map_singleton, joinT_snoc, List.length_map]
  have e : rowT [x] = numT x := by simp [rowT, joinT]
  rw [e]
  by_cases h : l.length = 0
  · simp [h]
  · simp [h]
theorem numT_dec (u : Nat) : numT (u : Int) = Lib.decDigits u := by
  unfold numT
  rw [if_neg (by omega), Lib.itoa_nonneg]
set_option maxHeartbeats 8000000 in
set_option maxRecDepth 100000 in
theorem rwrite_any (w : World) (X : Nat → Prop) (v : Value) (l : List Int) (hl : ∀ x ∈ l, 0 ≤ x ∧ x ≤ 255) (hn40 : l.length ≤ 40) (h : MatAt w X v (ones l)) :
    Calls Tryd.prog 42 #[v] w fun e w' => e = .returned (.string (strW (allT (ones l)))) ∧ Below w.heap.size w w' := by
  obtain ⟨a, c, rfl⟩ := h.shape
  obtain ⟨n, hn⟩ : ∃ n, n = (ones l).length := ⟨_, rfl⟩
  have HM := Lib.hid h
  rw [← hn] at HM ⊢
  have hnl : n = l.length := by rw [hn]; simp [ones]
  have HN := Lib.hid hnl
  have HNO := Lib.hid hn
  have HL := Lib.hid hl
  have hn4 : n ≤ 40 := by omega
  have HB0 := Lib.hid (Below.refl w.heap.size w)
  clear hn hnl hl hn40 h
  go_enter Tryd.func42, Tryd.ntmps42
  go_wp2
  go_loopg [3, 4] (n + 2) (fun gq s i wr => ∃ (k : Nat) (Sx : ByteArray), gq + k = n + 2 ∧ k ≤ n ∧ i = .int .i64 k ∧ s = .string Sx ∧ Hid (Sx.data.toList = allT (ones (l.take k))) ∧ Sx.size ≤ 300 * k ∧ Hid (Below w.heap.size w wr))
  case atStart => exact ⟨0, ⟨#[]⟩, rfl, Nat.zero_le _, rfl, rfl, Lib.hid rfl, Nat.zero_le _, HB0⟩
  case round =>
    obtain ⟨k, Sx, hgk, hkn, rfl, rfl, HS, hsz, HB⟩ := hrel
    obtain ⟨wo, rfl⟩ : ∃ wo : World, wo = wr := ⟨_, rfl⟩
    clear HB0
    by_cases hlt : k < n
    · have hlti : (k : Int) < n := by omega
      have hk1 : IntKind.i64.wrap ((k : Int) + 1) = (k : Int) + 1 := by rw [IntKind.wrap_i64]; omega
      obtain ⟨g, o, c2, e1, _, _, _, hg, h1⟩ := HM.out.open (by rw [← HNO.out]; omega)
      injection e1 with e1 e3 e4
      subst e1
      obtain ⟨u1, hu1, N1⟩ := h1 k (by rw [← HNO.out]; exact hlt)
      obtain ⟨x, hx⟩ : ∃ x, x = l.getD k 0 := ⟨_, rfl⟩
      have hrow : (ones l).getD k [] = [x] := by
        have hk' : k < l.length := by rw [← HN.out]; exact hlt
        rw [hx]
        unfold ones
        simp [List.getD_eq_getElem?_getD, hk']
      rw [hrow] at N1
      obtain ⟨g1, o1, c1, rfl, _, _, _, hg1, hc1⟩ := N1.open (by simp)
      have x1 := (HB.out.cell (p := ⟨g, o + k, none⟩) hg).trans hu1
      have x2 := (HB.out.cell (p := ⟨g1, o1 + 0, none⟩) hg1).trans (hc1 0 (by simp))
      simp only [Nat.add_zero, List.getD_cons_zero] at x2
      have hxb : 0 ≤ x ∧ x ≤ 255 := HL.out x (by rw [hx]; exact getD_mem 0 (by rw [← HN.out]; exact hlt))
      obtain ⟨u, hux⟩ : ∃ u : Nat, x = (u : Int) := ⟨x.toNat, by omega⟩
      subst hux
      have hu255 : u ≤ 255 := by omega
      have HT := Lib.hid (show allT (ones (l.take (k + 1))) = allT (ones (l.take k)) ++ ((if k = 0 then [] else [59]) ++ Lib.decDigits u) by
        have hk' : k < l.length := by rw [← HN.out]; exact hlt
        rw [List.take_succ_eq_append_getElem hk', allT_snoc, ← numT_dec, hx, List.getD_eq_getElem?_getD, List.getElem?_eq_getElem hk', List.length_take, show min k l.length = k by omega]
        rfl)
      have C := Lib.hid (fun W => rdigits_any u (by omega) (u : Int) W rfl)
      have hdl := dec_lenW u
      clear h1 e3 e4 hu1 N1 hx hrow hc1 hg hg1 hxb
      go_upto_if 13 with (fail)
      go_cut [3] (fun s wc => ∃ Y : ByteArray, s = .string Y ∧ Hid (Y.data.toList = Sx.data.toList ++ (if k = 0 then [] else [59])) ∧ Y.size ≤ Sx.size + 1 ∧ Hid (wc = wo))
      case first =>
        by_cases hk0 : k = 0
        · have f1 : decide ((k : Int) > 0) = false := by simp; omega
          have f2 : ¬ (0 : Int) < k := by omega
          have f3 : decide ((0 : Int) < k) = false := by simp; omega
          have HY := Lib.hid (show Sx.data.toList = Sx.data.toList ++ (if k = 0 then [] else [59]) by rw [if_pos hk0, List.append_nil])
          clear hk0
          go_wp2
          go_meet
          case rel => exact ⟨Sx, rfl, HY, by omega, Lib.hid rfl⟩
        · have f1 : decide ((k : Int) > 0) = true := by simp; omega
          have f2 : (0 : Int) < k := by omega
          have f3 : decide ((0 : Int) < k) = true := by simp; omega
          have s1 : ¬ 9223372036854775807 < Sx.size + 1 := by omega
          have HY := Lib.hid (show (Sx ++ ⟨#[59]⟩).data.toList = Sx.data.toList ++ (if k = 0 then [] else [59]) by rw [if_neg hk0, cat_list])
          have HYS := Lib.hid (show (Sx ++ ⟨#[59]⟩).size ≤ Sx.size + 1 by rw [ByteArray.size_append]; exact Nat.le_refl _)
          clear hk0
          go_wp2
          go_meet
          case rel => exact ⟨_, rfl, HY, HYS.out, Lib.hid rfl⟩
      case rest =>
        obtain ⟨Y, rfl, HY, hys, hwc⟩ := hcut
        have hwc' := hwc.out.symm
        subst hwc'
        have hys2 : Y.size ≤ 300 * k + 1 := by omega
        go_wp2
        refine wp_loop_rounds 3 ?_
        rw [rounds_succ]
        go_wp2_with fail
        refine (C.out _).mono ?_
        rintro e w3 ⟨rfl, b3⟩
        obtain ⟨D, hD⟩ : ∃ D, D = strW (Lib.decDigits u) := ⟨_, rfl⟩
        rw [← hD]
        have hsD : D.size ≤ 256 := by rw [hD, strW_size]; omega
        have s2 : ¬ 9223372036854775807 < Y.size + D.size := by omega
        have HSN := Lib.hid (show (Y ++ D).data.toList = allT (ones (l.take (k + 1))) by rw [cat_list, HY.out, HS.out, HT.out, hD, strW_data, List.append_assoc])
        have HSZ := Lib.hid (show (Y ++ D).size ≤ 300 * (k + 1) by rw [ByteArray.size_append]; omega)
        have HB3 := Lib.hid (HB.out.trans (b3.mono HB.out.size))
        have y1 := (b3.cell (p := ⟨g, o + k, none⟩) (World.block_lt_of_cell? (a := ⟨g, o + k, none⟩) _ x1)).trans x1
        clear hD b3 HY HS HT hdl C
        go_wp2
        rw [rounds_succ]
        go_wp2
        go_roundg (gk - 1)
        case rel => exact ⟨k + 1, Y ++ D, by omega, by omega, by go_num, rfl, HSN, HSZ.out, HB3⟩
        case measure => omega
    · have hlti : ¬ (k : Int) < n := by omega
      have hltd : decide ((k : Int) < (n : Int)) = false := by simp; omega
      have HTE := Lib.hid (show l.take k = l from List.take_of_length_le (by rw [← HN.out]; omega))
      go_wp2
      go_ret
      exact ⟨ret_ba (by rw [HS.out, HTE.out, strW_data]), HB.out⟩
set_option maxHeartbeats 1000000 in
theorem rformat_any (w : World) (a : At) (ha : a.ok) : Calls Tryd.prog 22 #[attV a] w fun e w' => e = .returned (.string ⟨(allT (paramsM a)).toArray⟩) ∧ Below w.heap.size w w' := by
  obtain ⟨w0, hw0⟩ : ∃ w0, w0 = w.alloc (.cells #[.int .u8 a.fg.k, .int .u8 a.fg.r, .int .u8 a.fg.g, .int .u8 a.fg.b, .int .u8 a.bg.k, .int .u8 a.bg.r, .int .u8 a.bg.g, .int .u8 a.bg.b, .int .u16 (a.fl : Nat)] 26) := ⟨_, rfl⟩
  have b0 : Below w.heap.size w w0 := by rw [hw0]; exact (Below.refl _ _).alloc (Nat.le_refl _) _
  have HA := Lib.hid (show AtAt w0 w.heap.size a by rw [hw0]; exact AtAt.newAt w _ rfl a _)
  have HB := Lib.hid b0
  have HOK := Lib.hid ha
  clear b0 ha
  obtain ⟨y0, ⟨y1, y2, y3, y4, y5, y6, y7, y8, y9⟩, yf⟩ := HA.out
  go_enter Tryd.func22, Tryd.ntmps22
  go_wp2_with fail
  rw [← hw0]
  clear hw0
  refine (rparams_any w0 a HOK.out).mono ?_
  rintro e w1 ⟨v, rfl, R1, b1⟩
  have HR := Lib.hid R1.mat
  have HB1 := Lib.hid (HB.out.trans (b1.mono HB.out.size))
  clear y0 y1 y2 y3 y4 y5 y6 y7 y8 y9 yf R1 b1
  go_wp2_with fail
  refine (rwrite_any w1 _ v (numsM a) (numsM_bd HOK.out) (by have := numsM_len a; omega) HR.out).mono ?_
  rintro e w2 ⟨rfl, b2⟩
  have HB2 := Lib.hid (HB1.out.trans (b2.mono HB1.out.size))
  clear b2
  go_wp2
  go_ret
  exact ⟨rfl, HB2.out⟩
end Go.Proofs.YtlmhnebgkginkaaDoor.Lab
