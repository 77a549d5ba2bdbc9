/- The reference's Encode, of one rune: UTF-8 by sums. -/
import Derived.Test.YtclaopidjfekmaaDoorToPrm
import Derived.Test.YtclaopidjfekmaaDoorToTRow
namespace Go.Proofs.YtclaopidjfekmaaDoor.Lab
open Go Go.RowKit

theorem u8_nat {n : Nat} (h : n < 256) : ((UInt8.ofNat n).toNat : Int) = (n : Int) := by
  rw [UInt8.toNat_ofNat']
  omega
theorem valid_iff {c : Nat} : Utf8.valid (c : Int) = true ↔ (c < 55296 ∨ 57344 ≤ c ∧ c ≤ 1114111) := by
  simp only [Utf8.valid, Bool.or_eq_true, Bool.and_eq_true, decide_eq_true_eq]
  omega

set_option maxHeartbeats 4000000 in
set_option maxRecDepth 100000 in
theorem rsequence_any (c : Nat) (x : Int) (hx : x = (c : Int)) (hv : Utf8.valid (c : Int) = true) (w : World) :
    Calls Tryd.prog 71 #[.int .i32 x] w fun e w' => ∃ v, e = .returned v ∧ w'.ownsRow w.heap.size 5 1 v (encR c).length (Lib.byteCells (encR c)) ∧ Below w.heap.size w w' := by
  subst hx
  have hr := valid_iff.1 hv
  have HV := Lib.hid hv
  have HE := Lib.hid (show encR (c : Int) = if c < 128 then [UInt8.ofNat c] else if c < 2048 then [UInt8.ofNat (192 + c / 64), UInt8.ofNat (128 + c % 64)] else if c < 65536 then [UInt8.ofNat (224 + c / 4096), UInt8.ofNat (128 + c / 64 % 64), UInt8.ofNat (128 + c % 64)]
      else [UInt8.ofNat (240 + c / 262144), UInt8.ofNat (128 + c / 4096 % 64), UInt8.ofNat (128 + c / 64 % 64), UInt8.ofNat (128 + c % 64)] by
    unfold encR Utf8.encode
    simp only [hv, if_true, Int.toNat_natCast]
    split
    · rfl
    · split
      · rfl
      · split
        · rfl
        · rfl)
  clear hv
  by_cases h128 : c < 128
  · have HL := Lib.hid (show encR (c : Int) = [UInt8.ofNat (c)] by rw [HE.out,  if_pos h128])
    have HC := Lib.hid (show Lib.byteCells (encR (c : Int)) = ([.int .u8 ((c : Int))] : List Value) by rw [HL.out]; simp only [Lib.byteCells, List.map_cons, List.map_nil]; rw [u8_nat (n := c) (by omega)])
    have HN := Lib.hid (show (encR (c : Int)).length = 1 by rw [HL.out]; rfl)
    clear HE  HL
    go_enter Tryd.func71, Tryd.ntmps71
    go_wp2_with fail
    refine (ris_any _ _).mono ?_
    rintro e w2 ⟨rfl, rfl⟩
    rw [HV.out]
    clear hr HV
    have t128 : decide ((c : Int) < 128) = true := by simp; omega
    have m256 : (c : Int) % 256 = (c : Int) := by omega
    clear h128
    go_wp2
    go_ret
    refine ⟨_, rfl, ?_, (Below.refl _ _).alloc (Nat.le_refl _) _⟩
    rw [HN.out, HC.out]
    have h := World.ownsRow_lit (base := w.heap.size) (e := 5) (size := 1) w #[.int .u8 ((c : Int))] 1 (Nat.le_refl _) (by simp [maxLen]) (by simp)
    simpa using h
  by_cases h2048 : c < 2048
  · obtain ⟨a, ha⟩ : ∃ a, c / 64 = a := ⟨_, rfl⟩
    have hab : a < 32 := by omega
    obtain ⟨b, hb⟩ : ∃ b, c % 64 = b := ⟨_, rfl⟩
    have hbb : b < 64 := by omega
    have f0 : Int.tdiv (c : Int) 64 = (a : Int) := by rw [Int.tdiv_eq_ediv_of_nonneg (by omega)]; omega
    have f1 : (c : Int) / 64 = (a : Int) := by omega
    have f2 : Int.tmod (c : Int) 64 = (b : Int) := by rw [Int.tmod_eq_emod_of_nonneg (by omega)]; omega
    have f3 : (c : Int) % 64 = (b : Int) := by omega
    have HL := Lib.hid (show encR (c : Int) = [UInt8.ofNat (192 + a), UInt8.ofNat (128 + b)] by rw [HE.out, if_neg h128, if_pos h2048]; rw [hb, ha])
    have HC := Lib.hid (show Lib.byteCells (encR (c : Int)) = ([.int .u8 (192 + (a : Int)), .int .u8 (128 + (b : Int))] : List Value) by rw [HL.out]; simp only [Lib.byteCells, List.map_cons, List.map_nil]; rw [u8_nat (n := 192 + a) (by omega), u8_nat (n := 128 + b) (by omega)]; push_cast; rfl)
    have HN := Lib.hid (show (encR (c : Int)).length = 2 by rw [HL.out]; rfl)
    clear HE ha hb HL
    go_enter Tryd.func71, Tryd.ntmps71
    go_wp2_with fail
    refine (ris_any _ _).mono ?_
    rintro e w2 ⟨rfl, rfl⟩
    rw [HV.out]
    clear hr HV
    have t128 : decide ((c : Int) < 128) = false := by simp; omega
    have t2048 : decide ((c : Int) < 2048) = true := by simp; omega
    clear h128 h2048
    go_wp2
    go_ret
    refine ⟨_, rfl, ?_, (Below.refl _ _).alloc (Nat.le_refl _) _⟩
    rw [HN.out, HC.out]
    have h := World.ownsRow_lit (base := w.heap.size) (e := 5) (size := 1) w #[.int .u8 (192 + (a : Int)), .int .u8 (128 + (b : Int))] 2 (Nat.le_refl _) (by simp [maxLen]) (by simp)
    simpa using h
  by_cases h65536 : c < 65536
  · obtain ⟨a, ha⟩ : ∃ a, c / 4096 = a := ⟨_, rfl⟩
    have hab : a < 16 := by omega
    obtain ⟨e, he⟩ : ∃ e, c / 64 = e := ⟨_, rfl⟩
    have heb : e < 1024 := by omega
    obtain ⟨b, hb⟩ : ∃ b, c / 64 % 64 = b := ⟨_, rfl⟩
    have hbb : b < 64 := by omega
    obtain ⟨d, hd⟩ : ∃ d, c % 64 = d := ⟨_, rfl⟩
    have hdb : d < 64 := by omega
    have f0 : Int.tdiv (c : Int) 4096 = (a : Int) := by rw [Int.tdiv_eq_ediv_of_nonneg (by omega)]; omega
    have f1 : (c : Int) / 4096 = (a : Int) := by omega
    have f2 : Int.tdiv (c : Int) 64 = (e : Int) := by rw [Int.tdiv_eq_ediv_of_nonneg (by omega)]; omega
    have f3 : (c : Int) / 64 = (e : Int) := by omega
    have f4 : Int.tmod (e : Int) 64 = (b : Int) := by rw [Int.tmod_eq_emod_of_nonneg (by omega)]; omega
    have f5 : (e : Int) % 64 = (b : Int) := by omega
    have f6 : Int.tmod (c : Int) 64 = (d : Int) := by rw [Int.tmod_eq_emod_of_nonneg (by omega)]; omega
    have f7 : (c : Int) % 64 = (d : Int) := by omega
    have HL := Lib.hid (show encR (c : Int) = [UInt8.ofNat (224 + a), UInt8.ofNat (128 + b), UInt8.ofNat (128 + d)] by rw [HE.out, if_neg h128, if_neg h2048, if_pos h65536]; rw [hd, hb, ha])
    have HC := Lib.hid (show Lib.byteCells (encR (c : Int)) = ([.int .u8 (224 + (a : Int)), .int .u8 (128 + (b : Int)), .int .u8 (128 + (d : Int))] : List Value) by rw [HL.out]; simp only [Lib.byteCells, List.map_cons, List.map_nil]; rw [u8_nat (n := 224 + a) (by omega), u8_nat (n := 128 + b) (by omega), u8_nat (n := 128 + d) (by omega)]; push_cast; rfl)
    have HN := Lib.hid (show (encR (c : Int)).length = 3 by rw [HL.out]; rfl)
    clear HE ha he hb hd HL
    go_enter Tryd.func71, Tryd.ntmps71
    go_wp2_with fail
    refine (ris_any _ _).mono ?_
    rintro e w2 ⟨rfl, rfl⟩
    rw [HV.out]
    clear hr HV
    have t128 : decide ((c : Int) < 128) = false := by simp; omega
    have t2048 : decide ((c : Int) < 2048) = false := by simp; omega
    have t65536 : decide ((c : Int) < 65536) = true := by simp; omega
    clear h128 h2048 h65536
    go_wp2
    go_ret
    refine ⟨_, rfl, ?_, (Below.refl _ _).alloc (Nat.le_refl _) _⟩
    rw [HN.out, HC.out]
    have h := World.ownsRow_lit (base := w.heap.size) (e := 5) (size := 1) w #[.int .u8 (224 + (a : Int)), .int .u8 (128 + (b : Int)), .int .u8 (128 + (d : Int))] 3 (Nat.le_refl _) (by simp [maxLen]) (by simp)
    simpa using h
  obtain ⟨a, ha⟩ : ∃ a, c / 262144 = a := ⟨_, rfl⟩
  have hab : a < 5 := by omega
  obtain ⟨g, hg⟩ : ∃ g, c / 4096 = g := ⟨_, rfl⟩
  have hgb : g < 512 := by omega
  obtain ⟨b, hb⟩ : ∃ b, c / 4096 % 64 = b := ⟨_, rfl⟩
  have hbb : b < 64 := by omega
  obtain ⟨e, he⟩ : ∃ e, c / 64 = e := ⟨_, rfl⟩
  have heb : e < 20000 := by omega
  obtain ⟨d, hd⟩ : ∃ d, c / 64 % 64 = d := ⟨_, rfl⟩
  have hdb : d < 64 := by omega
  obtain ⟨f, hf⟩ : ∃ f, c % 64 = f := ⟨_, rfl⟩
  have hfb : f < 64 := by omega
  have f0 : Int.tdiv (c : Int) 262144 = (a : Int) := by rw [Int.tdiv_eq_ediv_of_nonneg (by omega)]; omega
  have f1 : (c : Int) / 262144 = (a : Int) := by omega
  have f2 : Int.tdiv (c : Int) 4096 = (g : Int) := by rw [Int.tdiv_eq_ediv_of_nonneg (by omega)]; omega
  have f3 : (c : Int) / 4096 = (g : Int) := by omega
  have f4 : Int.tmod (g : Int) 64 = (b : Int) := by rw [Int.tmod_eq_emod_of_nonneg (by omega)]; omega
  have f5 : (g : Int) % 64 = (b : Int) := by omega
  have f6 : Int.tdiv (c : Int) 64 = (e : Int) := by rw [Int.tdiv_eq_ediv_of_nonneg (by omega)]; omega
  have f7 : (c : Int) / 64 = (e : Int) := by omega
  have f8 : Int.tmod (e : Int) 64 = (d : Int) := by rw [Int.tmod_eq_emod_of_nonneg (by omega)]; omega
  have f9 : (e : Int) % 64 = (d : Int) := by omega
  have f10 : Int.tmod (c : Int) 64 = (f : Int) := by rw [Int.tmod_eq_emod_of_nonneg (by omega)]; omega
  have f11 : (c : Int) % 64 = (f : Int) := by omega
  have HL := Lib.hid (show encR (c : Int) = [UInt8.ofNat (240 + a), UInt8.ofNat (128 + b), UInt8.ofNat (128 + d), UInt8.ofNat (128 + f)] by rw [HE.out, if_neg h128, if_neg h2048, if_neg h65536]; rw [hf, hd, hb, ha])
  have HC := Lib.hid (show Lib.byteCells (encR (c : Int)) = ([.int .u8 (240 + (a : Int)), .int .u8 (128 + (b : Int)), .int .u8 (128 + (d : Int)), .int .u8 (128 + (f : Int))] : List Value) by rw [HL.out]; simp only [Lib.byteCells, List.map_cons, List.map_nil]; rw [u8_nat (n := 240 + a) (by omega), u8_nat (n := 128 + b) (by omega), u8_nat (n := 128 + d) (by omega), u8_nat (n := 128 + f) (by omega)]; push_cast; rfl)
  have HN := Lib.hid (show (encR (c : Int)).length = 4 by rw [HL.out]; rfl)
  clear HE ha hg hb he hd hf HL
  go_enter Tryd.func71, Tryd.ntmps71
  go_wp2_with fail
  refine (ris_any _ _).mono ?_
  rintro e w2 ⟨rfl, rfl⟩
  rw [HV.out]
  clear hr HV
  have t128 : decide ((c : Int) < 128) = false := by simp; omega
  have t2048 : decide ((c : Int) < 2048) = false := by simp; omega
  have t65536 : decide ((c : Int) < 65536) = false := by simp; omega
  clear h128 h2048 h65536
  go_wp2
  go_ret
  refine ⟨_, rfl, ?_, (Below.refl _ _).alloc (Nat.le_refl _) _⟩
  rw [HN.out, HC.out]
  have h := World.ownsRow_lit (base := w.heap.size) (e := 5) (size := 1) w #[.int .u8 (240 + (a : Int)), .int .u8 (128 + (b : Int)), .int .u8 (128 + (d : Int)), .int .u8 (128 + (f : Int))] 4 (Nat.le_refl _) (by simp [maxLen]) (by simp)
  simpa using h

set_option maxHeartbeats 4000000 in
set_option maxRecDepth 100000 in
theorem rencode_any (g cp c : Nat) (x : Int) (hx : x = (c : Int)) (hv : Utf8.valid (c : Int) = true) (w : World) (hg : w.cell? ⟨g, 0, none⟩ = some (.int .i32 x)) :
    Calls Tryd.prog 56 #[.slice (some ⟨g, 0, none⟩) 1 cp] w fun e w' => e = .returned (.string (strL (encR c))) ∧ Below w.heap.size w w' := by
  subst hx
  have HV := Lib.hid hv
  have HG := Lib.hid hg
  have HL := Lib.hid (encR_len hv)
  obtain ⟨ib, hi, hz0, hz1, hz2⟩ := info_parts infoU8
  clear hv hg
  go_enter Tryd.func56, Tryd.ntmps56
  go_wp2
  go_loopw [3, 4] (fun vl i wr => ∃ (k : Nat) (l : List UInt8), k ≤ 1 ∧ i = .int .i64 k ∧ Hid (l = if k = 0 then [] else encR c) ∧ Hid (wr.ownsRow w.heap.size 5 1 vl l.length (Lib.byteCells l)) ∧ Hid (Below w.heap.size w wr)) (fun _ i _ => 1 - (intOf i).toNat)
  case atStart => exact ⟨0, [], by omega, rfl, Lib.hid rfl, Lib.hid (World.ownsRow_nil _ _ _ 1), Lib.hid (Below.refl _ _)⟩
  case round =>
    obtain ⟨wo, rfl⟩ : ∃ wo : World, wo = wr := ⟨_, rfl⟩
    obtain ⟨k, l, hk, rfl, HE, HO, HB⟩ := hrel
    by_cases hlt : k < 1
    · obtain rfl : k = 0 := by omega
      have hl0 : l = [] := HE.out
      subst hl0
      have c0 := Keeps.of HB.out _ _ _ HG.out
      go_wp2_with fail
      refine (rsequence_any c _ rfl HV.out _).mono ?_
      rintro e w3 ⟨v3, rfl, ho3, b3⟩
      have ho := row_below HO.out b3
      have HB3 := Lib.hid (HB.out.trans (b3.mono HB.out.size))
      have hs3 := HB3.out.size
      obtain ⟨n, hn⟩ : ∃ n, (encR (c : Int)).length = n := ⟨_, rfl⟩
      have hn4 : n ≤ 4 := by rw [← hn]; exact HL.out.2
      have HN := Lib.hid hn
      rw [hn] at ho3
      clear b3 hn c0
      go_wp2_with (at_builtin; refine wpList_append_row rfl (.tmp 11) (.tmp 16) 39 rfl w.heap.size 5 ib (.int .u8 0) 1 1 Tryd.underlying39 hi hz0 hz1 hz2 rfl (by decide) _ 0 _ rfl ho wo.heap.size n v3 (Lib.byteCells (encR c)) rfl ho3 ?c2 ?c3 ?c4 hs3 ?_)
      case c2 => intro u hu; obtain ⟨b, _, rfl⟩ := List.mem_map.1 hu; rfl
      case c3 => unfold maxLen; omega
      case c4 => omega
      intro v5 w5 own5 grow5
      have HB5 := Lib.hid (HB3.out.grown grow5 hs3 (fun j hj => (ho.lt j hj).1))
      have HO5 := Lib.hid (show w5.ownsRow w.heap.size 5 1 v5 (encR (c : Int)).length (Lib.byteCells (encR c)) by rw [HN.out]; simpa [Lib.byteCells] using own5)
      clear own5 grow5 ho ho3
      go_wp2
      go_roundw
      case rel => exact ⟨1, encR c, by omega, by go_num, Lib.hid rfl, HO5, HB5⟩
      case measure => simp [intOf]
    · obtain rfl : k = 1 := by omega
      have hl0 : l = encR c := HE.out
      have HE2 := Lib.hid hl0
      have cv := own_text HO.out
      clear hl0
      go_wp2
      go_ret
      exact ⟨by rw [HE2.out]; rfl, HB.out⟩
end Go.Proofs.YtclaopidjfekmaaDoor.Lab
