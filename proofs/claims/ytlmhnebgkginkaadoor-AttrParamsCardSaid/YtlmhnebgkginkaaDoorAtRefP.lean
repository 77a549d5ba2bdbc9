/- The reference's color and Params. -/
import Derived.Test.YtlmhnebgkginkaaDoorAtRefA
import Derived.Test.YtlmhnebgkginkaaDoorAtPar
import Derived.Deep.CutBlock
import Derived.Deep.DeepCutAuto
namespace Go.Proofs.YtlmhnebgkginkaaDoor.Lab
open Go Go.RowKit

set_option maxHeartbeats 4000000 in
theorem rcolor_any (w : World) (c : Cl) (more : Nat) (hm : more ≤ 100) (hc : c.ok) : Calls Tryd.prog 40 #[colV c, .int .i64 (more : Nat)] w (TellOut w (tellM c more)) := by
  obtain ⟨⟨hk0, hk1⟩, ⟨hr0, hr1⟩, ⟨hg0, hg1⟩, ⟨hb0, hb1⟩⟩ := hc
  obtain ⟨w0, hw0⟩ : ∃ w0, w0 = w.alloc (.cells #[.int .u8 c.k, .int .u8 c.r, .int .u8 c.g, .int .u8 c.b] 23) := ⟨_, rfl⟩
  have b0 : Below w.heap.size w w0 := by rw [hw0]; exact (Below.refl _ _).alloc (Nat.le_refl _) _
  have HB := Lib.hid b0
  obtain ⟨y0, ⟨y1, y2, y3, y4⟩, yf⟩ : w.heap.size < w0.heap.size ∧ (w0.cell? ⟨w.heap.size, 0, none⟩ = some (.int .u8 c.k) ∧ w0.cell? ⟨w.heap.size, 1, none⟩ = some (.int .u8 c.r) ∧ w0.cell? ⟨w.heap.size, 2, none⟩ = some (.int .u8 c.g) ∧ w0.cell? ⟨w.heap.size, 3, none⟩ = some (.int .u8 c.b)) ∧ True := by
    rw [hw0]
    exact ⟨by simp, ⟨by simp, by simp, by simp, by simp⟩, trivial⟩
  obtain ⟨k, hk⟩ : ∃ k, k = c.k := ⟨_, rfl⟩
  obtain ⟨r, hr⟩ : ∃ r, r = c.r := ⟨_, rfl⟩
  obtain ⟨g, hg⟩ : ∃ g, g = c.g := ⟨_, rfl⟩
  obtain ⟨b, hb⟩ : ∃ b, b = c.b := ⟨_, rfl⟩
  have HT := Lib.hid (show tellM c more = if k = 2 then [38 + (more : Int), 2, r, g, b] else if k = 1 then (if r < 8 then [30 + (more : Int) + r] else if r < 16 then [82 + (more : Int) + r] else [38 + (more : Int), 5, r]) else [] by rw [hk, hr, hg, hb]; rfl)
  rw [← hk] at y1
  rw [← hr] at y2 hr0 hr1
  rw [← hg] at y3 hg0 hg1
  rw [← hb] at y4 hb0 hb1
  have e38 : IntKind.i64.wrap (38 + (more : Int)) = 38 + (more : Int) := by rw [IntKind.wrap_i64]; omega
  have e30 : IntKind.i64.wrap (30 + (more : Int)) = 30 + (more : Int) := by rw [IntKind.wrap_i64]; omega
  have e82 : IntKind.i64.wrap (82 + (more : Int)) = 82 + (more : Int) := by rw [IntKind.wrap_i64]; omega
  have e30r : IntKind.i64.wrap (30 + (more : Int) + r) = 30 + (more : Int) + r := by rw [IntKind.wrap_i64]; omega
  have e82r : IntKind.i64.wrap (82 + (more : Int) + r) = 82 + (more : Int) + r := by rw [IntKind.wrap_i64]; omega
  have er : IntKind.i64.wrap r = r := by rw [IntKind.wrap_i64]; omega
  have eg : IntKind.i64.wrap g = g := by rw [IntKind.wrap_i64]; omega
  have eb : IntKind.i64.wrap b = b := by rw [IntKind.wrap_i64]; omega
  have HLIT := Lib.hid (fun (l : List Int) (hl : l.length ≤ 1000) => IRow.lit w0 l l.length w0.heap.size rfl rfl hl)
  have HBL := Lib.hid (fun (o : Obj) => HB.out.alloc HB.out.size o)
  clear hk hr hg hb hk0 hk1
  by_cases h2 : k = 2
  · have HE := Lib.hid (show tellM c more = [38 + (more : Int), 2, r, g, b] by rw [HT.out, if_pos h2])
    subst h2
    go_enter Tryd.func40, Tryd.ntmps40
    go_upto_region 1 with (fail)
    rw [← hw0]
    clear hw0
    go_wp2
    go_ret
    exact ⟨_, rfl, by rw [HE.out]; exact own_lower0 (HLIT.out [38 + (more : Int), 2, r, g, b] (by simp)) HB.out.size, HBL.out _⟩
  have n2 : (k == 2) = false := by simp [h2]
  by_cases h1 : k = 1
  · subst h1
    by_cases h8 : r < 8
    · have HE := Lib.hid (show tellM c more = [30 + (more : Int) + r] by rw [HT.out, if_neg h2, if_pos rfl, if_pos h8])
      go_enter Tryd.func40, Tryd.ntmps40
      go_upto_region 1 with (fail)
      rw [← hw0]
      clear hw0
      go_wp2
      go_ret
      exact ⟨_, rfl, by rw [HE.out]; exact own_lower0 (HLIT.out [30 + (more : Int) + r] (by simp)) HB.out.size, HBL.out _⟩
    · have d8 : decide (r < 8) = false := by simp; omega
      by_cases h16 : r < 16
      · have HE := Lib.hid (show tellM c more = [82 + (more : Int) + r] by rw [HT.out, if_neg h2, if_pos rfl, if_neg h8, if_pos h16])
        go_enter Tryd.func40, Tryd.ntmps40
        go_upto_region 1 with (fail)
        rw [← hw0]
        clear hw0
        go_wp2
        go_ret
        exact ⟨_, rfl, by rw [HE.out]; exact own_lower0 (HLIT.out [82 + (more : Int) + r] (by simp)) HB.out.size, HBL.out _⟩
      · have d16 : decide (r < 16) = false := by simp; omega
        have HE := Lib.hid (show tellM c more = [38 + (more : Int), 5, r] by rw [HT.out, if_neg h2, if_pos rfl, if_neg h8, if_neg h16])
        go_enter Tryd.func40, Tryd.ntmps40
        go_upto_region 1 with (fail)
        rw [← hw0]
        clear hw0
        go_wp2
        go_ret
        exact ⟨_, rfl, by rw [HE.out]; exact own_lower0 (HLIT.out [38 + (more : Int), 5, r] (by simp)) HB.out.size, HBL.out _⟩
  have n1 : (k == 1) = false := by simp [h1]
  have n1' : (k != 1) = true := by simp [h1]
  have HE := Lib.hid (show tellM c more = [] by rw [HT.out, if_neg h2, if_neg h1])
  go_enter Tryd.func40, Tryd.ntmps40
  go_upto_region 1 with (fail)
  rw [← hw0]
  clear hw0
  go_wp2
  go_ret
  exact ⟨_, rfl, by rw [HE.out]; exact World.ownsRow_nil _ _ _ 1, HB.out⟩


def kOf (n : Nat) : Nat := (bitN.filter fun p => decide (p.2 < (n : Int))).length
theorem and_bit (f k : Nat) : (f &&& 2 ^ k ≠ 0) ↔ f / 2 ^ k % 2 = 1 := by
  have e : f.testBit k = decide (f / 2 ^ k % 2 = 1) := Nat.testBit_eq_decide_div_mod_eq
  by_cases h : f / 2 ^ k % 2 = 1
  · rw [decide_eq_true h] at e
    refine ⟨fun _ => h, fun _ h0 => ?_⟩
    have := congrArg (fun x => x.testBit k) h0
    simp [Nat.testBit_and, e, Nat.testBit_two_pow_self] at this
  · rw [decide_eq_false h] at e
    refine ⟨fun h0 => absurd ?_ h0, fun h1 => absurd h1 h⟩
    refine Nat.eq_of_testBit_eq fun i => ?_
    rw [Nat.testBit_and, Nat.zero_testBit]
    by_cases hi : k = i
    · subst hi
      rw [e]
      rfl
    · rw [Nat.testBit_two_pow_of_ne hi]
      simp
theorem flag_step (f n : Nat) (h0 : 1 ≤ n) (h1 : n ≤ 21) : flagK f (kOf (n + 1)) = flagK f (kOf n) ++ (if flagN n ≠ 0 ∧ f &&& flagN n ≠ 0 then [(n : Int)] else []) := by
  have hc : n = 1 ∨ n = 2 ∨ n = 3 ∨ n = 4 ∨ n = 5 ∨ n = 6 ∨ n = 7 ∨ n = 8 ∨ n = 9 ∨ n = 10 ∨ n = 11 ∨ n = 12 ∨ n = 13 ∨ n = 14 ∨ n = 15 ∨ n = 16 ∨ n = 17 ∨ n = 18 ∨ n = 19 ∨ n = 20 ∨ n = 21 := by omega
  rcases hc with rfl | rfl | rfl | rfl | rfl | rfl | rfl | rfl | rfl | rfl | rfl | rfl | rfl | rfl | rfl | rfl | rfl | rfl | rfl | rfl | rfl
  · rw [show kOf (1 + 1) = 0 + 1 by decide, show kOf 1 = 0 by decide, flagK_succ f 0 (by decide), show flagN (1 : Nat) = 2 ^ 0 by decide]
    have := and_bit f 0
    by_cases h : f / 2 ^ 0 % 2 = 1
    · rw [if_pos (show f / 2 ^ bitN[0].1 % 2 = 1 from h), if_pos ⟨by decide, this.2 h⟩]
      rfl
    · rw [if_neg (show ¬ f / 2 ^ bitN[0].1 % 2 = 1 from h), if_neg (fun h' => h (this.1 h'.2))]
  · rw [show kOf (2 + 1) = 1 + 1 by decide, show kOf 2 = 1 by decide, flagK_succ f 1 (by decide), show flagN (2 : Nat) = 2 ^ 1 by decide]
    have := and_bit f 1
    by_cases h : f / 2 ^ 1 % 2 = 1
    · rw [if_pos (show f / 2 ^ bitN[1].1 % 2 = 1 from h), if_pos ⟨by decide, this.2 h⟩]
      rfl
    · rw [if_neg (show ¬ f / 2 ^ bitN[1].1 % 2 = 1 from h), if_neg (fun h' => h (this.1 h'.2))]
  · rw [show kOf (3 + 1) = 2 + 1 by decide, show kOf 3 = 2 by decide, flagK_succ f 2 (by decide), show flagN (3 : Nat) = 2 ^ 2 by decide]
    have := and_bit f 2
    by_cases h : f / 2 ^ 2 % 2 = 1
    · rw [if_pos (show f / 2 ^ bitN[2].1 % 2 = 1 from h), if_pos ⟨by decide, this.2 h⟩]
      rfl
    · rw [if_neg (show ¬ f / 2 ^ bitN[2].1 % 2 = 1 from h), if_neg (fun h' => h (this.1 h'.2))]
  · rw [show kOf (4 + 1) = 3 + 1 by decide, show kOf 4 = 3 by decide, flagK_succ f 3 (by decide), show flagN (4 : Nat) = 2 ^ 3 by decide]
    have := and_bit f 3
    by_cases h : f / 2 ^ 3 % 2 = 1
    · rw [if_pos (show f / 2 ^ bitN[3].1 % 2 = 1 from h), if_pos ⟨by decide, this.2 h⟩]
      rfl
    · rw [if_neg (show ¬ f / 2 ^ bitN[3].1 % 2 = 1 from h), if_neg (fun h' => h (this.1 h'.2))]
  · rw [show kOf (5 + 1) = 4 + 1 by decide, show kOf 5 = 4 by decide, flagK_succ f 4 (by decide), show flagN (5 : Nat) = 2 ^ 4 by decide]
    have := and_bit f 4
    by_cases h : f / 2 ^ 4 % 2 = 1
    · rw [if_pos (show f / 2 ^ bitN[4].1 % 2 = 1 from h), if_pos ⟨by decide, this.2 h⟩]
      rfl
    · rw [if_neg (show ¬ f / 2 ^ bitN[4].1 % 2 = 1 from h), if_neg (fun h' => h (this.1 h'.2))]
  · rw [show kOf (6 + 1) = kOf 6 by decide, if_neg (fun h => h.1 (by decide)), List.append_nil]
  · rw [show kOf (7 + 1) = 5 + 1 by decide, show kOf 7 = 5 by decide, flagK_succ f 5 (by decide), show flagN (7 : Nat) = 2 ^ 5 by decide]
    have := and_bit f 5
    by_cases h : f / 2 ^ 5 % 2 = 1
    · rw [if_pos (show f / 2 ^ bitN[5].1 % 2 = 1 from h), if_pos ⟨by decide, this.2 h⟩]
      rfl
    · rw [if_neg (show ¬ f / 2 ^ bitN[5].1 % 2 = 1 from h), if_neg (fun h' => h (this.1 h'.2))]
  · rw [show kOf (8 + 1) = 6 + 1 by decide, show kOf 8 = 6 by decide, flagK_succ f 6 (by decide), show flagN (8 : Nat) = 2 ^ 6 by decide]
    have := and_bit f 6
    by_cases h : f / 2 ^ 6 % 2 = 1
    · rw [if_pos (show f / 2 ^ bitN[6].1 % 2 = 1 from h), if_pos ⟨by decide, this.2 h⟩]
      rfl
    · rw [if_neg (show ¬ f / 2 ^ bitN[6].1 % 2 = 1 from h), if_neg (fun h' => h (this.1 h'.2))]
  · rw [show kOf (9 + 1) = 7 + 1 by decide, show kOf 9 = 7 by decide, flagK_succ f 7 (by decide), show flagN (9 : Nat) = 2 ^ 7 by decide]
    have := and_bit f 7
    by_cases h : f / 2 ^ 7 % 2 = 1
    · rw [if_pos (show f / 2 ^ bitN[7].1 % 2 = 1 from h), if_pos ⟨by decide, this.2 h⟩]
      rfl
    · rw [if_neg (show ¬ f / 2 ^ bitN[7].1 % 2 = 1 from h), if_neg (fun h' => h (this.1 h'.2))]
  · rw [show kOf (10 + 1) = kOf 10 by decide, if_neg (fun h => h.1 (by decide)), List.append_nil]
  · rw [show kOf (11 + 1) = kOf 11 by decide, if_neg (fun h => h.1 (by decide)), List.append_nil]
  · rw [show kOf (12 + 1) = kOf 12 by decide, if_neg (fun h => h.1 (by decide)), List.append_nil]
  · rw [show kOf (13 + 1) = kOf 13 by decide, if_neg (fun h => h.1 (by decide)), List.append_nil]
  · rw [show kOf (14 + 1) = kOf 14 by decide, if_neg (fun h => h.1 (by decide)), List.append_nil]
  · rw [show kOf (15 + 1) = kOf 15 by decide, if_neg (fun h => h.1 (by decide)), List.append_nil]
  · rw [show kOf (16 + 1) = kOf 16 by decide, if_neg (fun h => h.1 (by decide)), List.append_nil]
  · rw [show kOf (17 + 1) = kOf 17 by decide, if_neg (fun h => h.1 (by decide)), List.append_nil]
  · rw [show kOf (18 + 1) = kOf 18 by decide, if_neg (fun h => h.1 (by decide)), List.append_nil]
  · rw [show kOf (19 + 1) = kOf 19 by decide, if_neg (fun h => h.1 (by decide)), List.append_nil]
  · rw [show kOf (20 + 1) = kOf 20 by decide, if_neg (fun h => h.1 (by decide)), List.append_nil]
  · rw [show kOf (21 + 1) = 8 + 1 by decide, show kOf 21 = 8 by decide, flagK_succ f 8 (by decide), show flagN (21 : Nat) = 2 ^ 8 by decide]
    have := and_bit f 8
    by_cases h : f / 2 ^ 8 % 2 = 1
    · rw [if_pos (show f / 2 ^ bitN[8].1 % 2 = 1 from h), if_pos ⟨by decide, this.2 h⟩]
      rfl
    · rw [if_neg (show ¬ f / 2 ^ bitN[8].1 % 2 = 1 from h), if_neg (fun h' => h (this.1 h'.2))]
theorem flagN_lt (n : Int) : flagN n < 65536 := by
  unfold flagN
  repeat' split
  all_goals decide
set_option maxHeartbeats 8000000 in
set_option maxRecDepth 100000 in
theorem rparams_any (w : World) (a : At) (ha : a.ok) : Calls Tryd.prog 20 #[attV a] w (ParOut w (paramsM a)) := by
  obtain ⟨w0, hw0⟩ : ∃ w0, w0 = w.alloc (.cells #[.int .u8 a.fg.k, .int .u8 a.fg.r, .int .u8 a.fg.g, .int .u8 a.fg.b, .int .u8 a.bg.k, .int .u8 a.bg.r, .int .u8 a.bg.g, .int .u8 a.bg.b, .int .u16 (a.fl : Nat)] 26) := ⟨_, rfl⟩
  have b0 : Below w.heap.size w w0 := by rw [hw0]; exact (Below.refl _ _).alloc (Nat.le_refl _) _
  have hA0 : AtAt w0 w.heap.size a := by rw [hw0]; exact AtAt.newAt w _ rfl a _
  obtain ⟨w1, hw1⟩ : ∃ w1, w1 = w0.alloc (.cells #[.int .i64 0] 3) := ⟨_, rfl⟩
  have b1 : Below w0.heap.size w0 w1 := by rw [hw1]; exact (Below.refl _ _).alloc (Nat.le_refl _) _
  have HA := Lib.hid (hA0.below b1)
  have HB := Lib.hid (b0.trans (b1.mono b0.size))
  have HI := Lib.hid (show IRow w1 (w.heap.size + 1) (.slice (some ⟨w.heap.size + 1, 0, none⟩) 1 1) (0 :: flagK a.fl (kOf 1)) by rw [hw1]; exact own_lower0 (IRow.lit w0 [0] 1 (w.heap.size + 1) rfl (by rw [hw0]; simp) (by decide)) (by rw [hw0]; simp))
  have HOK := Lib.hid ha
  obtain ⟨ib, hi, hz0, hz1, hz2⟩ := info_parts infoInt
  obtain ⟨jb, ji, jz0, jz1, jz2⟩ := info_parts infoRow
  clear b0 b1 hA0 ha
  go_enter Tryd.func20, Tryd.ntmps20
  go_upto_region 2 with (fail)
  rw [← hw0, ← hw1]
  clear hw0 hw1
  go_wp2
  go_loopg [3, 4] 23 (fun gq v i wr => ∃ n : Nat, gq + n = 24 ∧ 1 ≤ n ∧ n ≤ 22 ∧ i = .int .i64 n ∧ Hid (IRow wr (w.heap.size + 1) v (0 :: flagK a.fl (kOf n))) ∧ Hid (AtAt wr w.heap.size a) ∧ Hid (Below w.heap.size w wr))
  case atStart => exact ⟨1, rfl, by decide, by decide, rfl, HI, HA, HB⟩
  case round =>
    obtain ⟨n, hgn, hn1, hn22, rfl, HI, HA, HB⟩ := hrel
    obtain ⟨wo, rfl⟩ : ∃ wo : World, wo = wr := ⟨_, rfl⟩
    by_cases hlt : n ≤ 21
    · have hlti : (n : Int) ≤ 21 := by omega
      have hk1 : IntKind.i64.wrap ((n : Int) + 1) = (n : Int) + 1 := by rw [IntKind.wrap_i64]; omega
      have hfl : a.fl < 65536 := HOK.out.2.2
      obtain ⟨f, hf⟩ : ∃ f, f = a.fl := ⟨_, rfl⟩
      have HF := Lib.hid hf
      have HKEEP := Lib.hid (show ∀ W : World, Below wo.heap.size wo W → W.cell? ⟨w.heap.size, 8, none⟩ = some (.int .u16 (f : Nat)) from fun W hb => by rw [hf]; exact (HA.out.below hb).2.1.2.2.2.2.2.2.2.2)
      rw [← hf] at hfl HI
      have hkn : kOf n ≤ 9 := Nat.le_trans (List.length_filter_le _ _) (by decide)
      have hlen := flagK_len f (kOf n)
      obtain ⟨ad, cc, rfl⟩ := HI.out.shape
      obtain ⟨l0, hl0⟩ : ∃ l0, l0 = 0 :: flagK f (kOf n) := ⟨_, rfl⟩
      have hl1 : l0.length ≤ 20 := by rw [hl0]; simp; omega
      have HL0 := Lib.hid hl0
      rw [← hl0] at HI
      obtain ⟨nl, hnl⟩ : ∃ nl, nl = l0.length := ⟨_, rfl⟩
      have hI0 : wo.ownsRow (w.heap.size + 1) 3 1 (.slice ad nl cc) nl (intsV l0) := by rw [hnl]; exact HI.out
      have HNL := Lib.hid hnl
      have hnl2 : nl ≤ 20 := by omega
      have hls : (0 :: flagK f (kOf n)).length = nl := by rw [hnl, hl0]
      rw [hls]
      have HS := Lib.hid (flag_step f n hn1 hlt)
      obtain ⟨fn, hfn⟩ : ∃ fn, fn = flagN n := ⟨_, rfl⟩
      have C := Lib.hid (show ∀ W, Calls Tryd.prog 39 #[.int .i64 (n : Int)] W fun e w' => e = .returned (.int .u16 (fn : Nat)) ∧ W = w' from fun W => by rw [hfn]; exact rflag_any n W)
      have hf16 : fn < 65536 := by rw [hfn]; exact flagN_lt _
      rw [← hfn] at HS
      obtain ⟨nm, hnm⟩ : ∃ nm, nm = f &&& fn := ⟨_, rfl⟩
      have hbit : bits .and .u16 (f : Int) (fn : Int) = (nm : Int) := by rw [hnm]; exact u16_and_nat f fn hfl hf16
      rw [← hnm] at HS
      have HI0 := Lib.hid hI0
      clear hf hl0 hnl hl1 hlen hls hfn hnm hkn hI0 hfl
      have BB : Below wo.heap.size wo wo.drew := ⟨rfl, rfl, rfl, Nat.le_refl _, fun _ _ => rfl⟩
      by_cases hz : fn = 0
      · have z1 : ((fn : Int) != 0) = false := by simp [hz]
        have HIN := Lib.hid (show ∀ W, Below wo.heap.size wo W → IRow W (w.heap.size + 1) (.slice ad nl cc) (0 :: flagK a.fl (kOf (n + 1))) from fun W hb => by
          rw [← HF.out, HS.out, if_neg (fun h => h.1 hz), List.append_nil, ← HL0.out]
          unfold IRow
          rw [← HNL.out]
          exact own_below HI0.out hb)
        clear hz HI
        go_upto_region 5 with (fail)
        refine wp_region_held_drew (S := fun w' => w'.cell? ⟨w.heap.size, 8, none⟩ = some (.int .u16 (f : Nat))) (by kernel_rfl) ?_ (fun hHeld => ?_)
        · exact HKEEP.out _ BB
        obtain ⟨u0, hu0⟩ : ∃ u0, u0 = wo.drew := ⟨_, rfl⟩
        rw [← hu0] at BB hHeld ⊢
        clear hu0
        have HX := Lib.hid BB
        clear BB
        refine take_at (i := 0) (v := ?_) rfl (by kernel_rfl) (by kernel_rfl) (by kernel_rfl) (fun _ _ _ h => h) (by kernel_rfl) (by assumption) ?_ ?_
        rotate_left
        · (intro w hSw; (try dsimp only at hSw); go_simp; try with_reducible rfl)
        simp only [Act.put, List.setIfInBounds_toArray, List.set_cons_zero, List.set_cons_succ]
        refine do_at (i := 1) rfl (by kernel_rfl) (by kernel_rfl) (fun K hK => ?_)
        go_simp
        refine (C.out _).mono ?_
        rintro e u1 ⟨rfl, hwe⟩
        subst hwe
        go_wp2_with fail
        refine hK.out _ _ ?_ (fun hHeld => ?_)
        · exact HKEEP.out _ HX.out
        clear hK K
        try simp only [Act.put, List.setIfInBounds_toArray, List.set_cons_zero, List.set_cons_succ]
        refine take_at (i := 2) (v := ?_) rfl (by kernel_rfl) (by kernel_rfl) (by kernel_rfl) (fun _ _ _ h => h) (by kernel_rfl) (by assumption) ?_ ?_
        rotate_left
        · (intro w hSw; (try dsimp only at hSw); go_simp; try with_reducible rfl)
        simp only [Act.put, List.setIfInBounds_toArray, List.set_cons_zero, List.set_cons_succ]
        refine take_at (i := 3) (v := ?_) rfl (by kernel_rfl) (by kernel_rfl) (by kernel_rfl) (fun _ _ _ h => h) (by kernel_rfl) (by assumption) ?_ ?_
        rotate_left
        · (intro w hSw; (try dsimp only at hSw); go_simp; try with_reducible rfl)
        simp only [Act.put, List.setIfInBounds_toArray, List.set_cons_zero, List.set_cons_succ]
        refine skip_at (i := 4) rfl (by kernel_rfl) (by kernel_rfl) (by kernel_rfl) (fun _ _ _ h => h) (by kernel_rfl) (by assumption) ?_
        simp only [Act.put, List.setIfInBounds_toArray, List.set_cons_zero, List.set_cons_succ]
        refine skip_at (i := 5) rfl (by kernel_rfl) (by kernel_rfl) (by kernel_rfl) (fun _ _ _ h => h) (by kernel_rfl) (by assumption) ?_
        simp only [Act.put, List.setIfInBounds_toArray, List.set_cons_zero, List.set_cons_succ]
        refine skip_at (i := 6) rfl (by kernel_rfl) (by kernel_rfl) (by kernel_rfl) (fun _ _ _ h => h) (by kernel_rfl) (by assumption) ?_
        simp only [Act.put, List.setIfInBounds_toArray, List.set_cons_zero, List.set_cons_succ]
        refine skip_at (i := 7) rfl (by kernel_rfl) (by kernel_rfl) (by kernel_rfl) (fun _ _ _ h => h) (by kernel_rfl) (by assumption) ?_
        simp only [Act.put, List.setIfInBounds_toArray, List.set_cons_zero, List.set_cons_succ]
        refine skip_at (i := 8) rfl (by kernel_rfl) (by kernel_rfl) (by kernel_rfl) (fun _ _ _ h => h) (by kernel_rfl) (by assumption) ?_
        simp only [Act.put, List.setIfInBounds_toArray, List.set_cons_zero, List.set_cons_succ]
        refine skip_at (i := 9) rfl (by kernel_rfl) (by kernel_rfl) (by kernel_rfl) (fun _ _ _ h => h) (by kernel_rfl) (by assumption) ?_
        simp only [Act.put, List.setIfInBounds_toArray, List.set_cons_zero, List.set_cons_succ]
        refine take_at (i := 10) (v := ?_) rfl (by kernel_rfl) (by kernel_rfl) (by kernel_rfl) (fun _ _ _ h => h) (by kernel_rfl) (by assumption) ?_ ?_
        rotate_left
        · (intro w hSw; (try dsimp only at hSw); go_simp; try with_reducible rfl)
        simp only [Act.put, List.setIfInBounds_toArray, List.set_cons_zero, List.set_cons_succ]
        refine wpAnyH_done (by kernel_rfl) ?_ _
        have HIX := Lib.hid (HIN.out _ HX.out)
        have HAX := Lib.hid (HA.out.below HX.out)
        have HBX := Lib.hid (HB.out.trans (HX.out.mono HB.out.size))
        clear HIN HKEEP hHeld
        go_wp2
        go_roundg (gk - 1)
        case rel => exact ⟨n + 1, by omega, by omega, by omega, by go_num, HIX, HAX, HBX⟩
        case measure => omega
      · have z1 : ((fn : Int) != 0) = true := by simp; omega
        by_cases hz2' : nm = 0
        · have z2 : ((nm : Int) != 0) = false := by simp [hz2']
          have HIN := Lib.hid (show ∀ W, Below wo.heap.size wo W → IRow W (w.heap.size + 1) (.slice ad nl cc) (0 :: flagK a.fl (kOf (n + 1))) from fun W hb => by
            rw [← HF.out, HS.out, if_neg (fun h => h.2 hz2'), List.append_nil, ← HL0.out]
            unfold IRow
            rw [← HNL.out]
            exact own_below HI0.out hb)
          clear hz hz2' HI
          go_upto_region 5 with (fail)
          refine wp_region_held_drew (S := fun w' => w'.cell? ⟨w.heap.size, 8, none⟩ = some (.int .u16 (f : Nat))) (by kernel_rfl) ?_ (fun hHeld => ?_)
          · exact HKEEP.out _ BB
          obtain ⟨u0, hu0⟩ : ∃ u0, u0 = wo.drew := ⟨_, rfl⟩
          rw [← hu0] at BB hHeld ⊢
          clear hu0
          have HX := Lib.hid BB
          clear BB
          refine take_at (i := 0) (v := ?_) rfl (by kernel_rfl) (by kernel_rfl) (by kernel_rfl) (fun _ _ _ h => h) (by kernel_rfl) (by assumption) ?_ ?_
          rotate_left
          · (intro w hSw; (try dsimp only at hSw); go_simp; try with_reducible rfl)
          simp only [Act.put, List.setIfInBounds_toArray, List.set_cons_zero, List.set_cons_succ]
          refine do_at (i := 1) rfl (by kernel_rfl) (by kernel_rfl) (fun K hK => ?_)
          go_simp
          refine (C.out _).mono ?_
          rintro e u1 ⟨rfl, hwe⟩
          subst hwe
          go_wp2_with fail
          refine hK.out _ _ ?_ (fun hHeld => ?_)
          · exact HKEEP.out _ HX.out
          clear hK K
          try simp only [Act.put, List.setIfInBounds_toArray, List.set_cons_zero, List.set_cons_succ]
          refine take_at (i := 2) (v := ?_) rfl (by kernel_rfl) (by kernel_rfl) (by kernel_rfl) (fun _ _ _ h => h) (by kernel_rfl) (by assumption) ?_ ?_
          rotate_left
          · (intro w hSw; (try dsimp only at hSw); go_simp; try with_reducible rfl)
          simp only [Act.put, List.setIfInBounds_toArray, List.set_cons_zero, List.set_cons_succ]
          refine take_at (i := 3) (v := ?_) rfl (by kernel_rfl) (by kernel_rfl) (by kernel_rfl) (fun _ _ _ h => h) (by kernel_rfl) (by assumption) ?_ ?_
          rotate_left
          · (intro w hSw; (try dsimp only at hSw); go_simp; try with_reducible rfl)
          simp only [Act.put, List.setIfInBounds_toArray, List.set_cons_zero, List.set_cons_succ]
          refine take_at (i := 4) (v := ?_) rfl (by kernel_rfl) (by kernel_rfl) (by kernel_rfl) (fun _ _ _ h => h) (by kernel_rfl) (by assumption) ?_ ?_
          rotate_left
          · (intro w hSw; (try dsimp only at hSw); go_simp; try with_reducible rfl)
          simp only [Act.put, List.setIfInBounds_toArray, List.set_cons_zero, List.set_cons_succ]
          refine take_at (i := 5) (v := ?_) rfl (by kernel_rfl) (by kernel_rfl) (by kernel_rfl) (fun _ _ _ h => h) (by kernel_rfl) (by assumption) ?_ ?_
          rotate_left
          · (intro w hSw; (try dsimp only at hSw); go_simp; try with_reducible rfl)
          simp only [Act.put, List.setIfInBounds_toArray, List.set_cons_zero, List.set_cons_succ]
          refine take_at (i := 6) (v := ?_) rfl (by kernel_rfl) (by kernel_rfl) (by kernel_rfl) (fun _ _ _ h => h) (by kernel_rfl) (by assumption) ?_ ?_
          rotate_left
          · (intro w hSw; (try dsimp only at hSw); go_simp; try with_reducible rfl)
          simp only [Act.put, List.setIfInBounds_toArray, List.set_cons_zero, List.set_cons_succ]
          refine do_at (i := 7) rfl (by kernel_rfl) (by kernel_rfl) (fun K hK => ?_)
          go_simp
          refine (C.out _).mono ?_
          rintro e u1 ⟨rfl, hwe⟩
          subst hwe
          go_wp2_with fail
          refine hK.out _ _ ?_ (fun hHeld => ?_)
          · exact HKEEP.out _ HX.out
          clear hK K
          try simp only [Act.put, List.setIfInBounds_toArray, List.set_cons_zero, List.set_cons_succ]
          refine take_at (i := 8) (v := ?_) rfl (by kernel_rfl) (by kernel_rfl) (by kernel_rfl) (fun _ _ _ h => h) (by kernel_rfl) (by assumption) ?_ ?_
          rotate_left
          · (intro w hSw; (try dsimp only at hSw); go_simp; try with_reducible rfl)
          simp only [Act.put, List.setIfInBounds_toArray, List.set_cons_zero, List.set_cons_succ]
          refine take_at (i := 9) (v := ?_) rfl (by kernel_rfl) (by kernel_rfl) (by kernel_rfl) (fun _ _ _ h => h) (by kernel_rfl) (by assumption) ?_ ?_
          rotate_left
          · (intro w hSw; (try dsimp only at hSw); go_simp; try with_reducible rfl)
          simp only [Act.put, List.setIfInBounds_toArray, List.set_cons_zero, List.set_cons_succ]
          refine take_at (i := 10) (v := ?_) rfl (by kernel_rfl) (by kernel_rfl) (by kernel_rfl) (fun _ _ _ h => h) (by kernel_rfl) (by assumption) ?_ ?_
          rotate_left
          · (intro w hSw; (try dsimp only at hSw); go_simp; try with_reducible rfl)
          simp only [Act.put, List.setIfInBounds_toArray, List.set_cons_zero, List.set_cons_succ]
          refine wpAnyH_done (by kernel_rfl) ?_ _
          have HIX := Lib.hid (HIN.out _ HX.out)
          have HAX := Lib.hid (HA.out.below HX.out)
          have HBX := Lib.hid (HB.out.trans (HX.out.mono HB.out.size))
          clear HIN HKEEP hHeld
          go_wp2
          go_roundg (gk - 1)
          case rel => exact ⟨n + 1, by omega, by omega, by omega, by go_num, HIX, HAX, HBX⟩
          case measure => omega
        · have z2 : ((nm : Int) != 0) = true := by simp; omega
          have HSP := Lib.hid (show 0 :: flagK a.fl (kOf (n + 1)) = l0 ++ [(n : Int)] by rw [← HF.out, HS.out, if_pos ⟨hz, hz2'⟩, HL0.out]; rfl)
          clear hz hz2' HI
          go_upto_region 5 with (fail)
          refine wp_region_held_drew (S := fun w' => w'.cell? ⟨w.heap.size, 8, none⟩ = some (.int .u16 (f : Nat))) (by kernel_rfl) ?_ (fun hHeld => ?_)
          · exact HKEEP.out _ BB
          obtain ⟨u0, hu0⟩ : ∃ u0, u0 = wo.drew := ⟨_, rfl⟩
          rw [← hu0] at BB hHeld ⊢
          clear hu0
          have HX := Lib.hid BB
          clear BB
          refine take_at (i := 0) (v := ?_) rfl (by kernel_rfl) (by kernel_rfl) (by kernel_rfl) (fun _ _ _ h => h) (by kernel_rfl) (by assumption) ?_ ?_
          rotate_left
          · (intro w hSw; (try dsimp only at hSw); go_simp; try with_reducible rfl)
          simp only [Act.put, List.setIfInBounds_toArray, List.set_cons_zero, List.set_cons_succ]
          refine do_at (i := 1) rfl (by kernel_rfl) (by kernel_rfl) (fun K hK => ?_)
          go_simp
          refine (C.out _).mono ?_
          rintro e u1 ⟨rfl, hwe⟩
          subst hwe
          go_wp2_with fail
          refine hK.out _ _ ?_ (fun hHeld => ?_)
          · exact HKEEP.out _ HX.out
          clear hK K
          try simp only [Act.put, List.setIfInBounds_toArray, List.set_cons_zero, List.set_cons_succ]
          refine take_at (i := 2) (v := ?_) rfl (by kernel_rfl) (by kernel_rfl) (by kernel_rfl) (fun _ _ _ h => h) (by kernel_rfl) (by assumption) ?_ ?_
          rotate_left
          · (intro w hSw; (try dsimp only at hSw); go_simp; try with_reducible rfl)
          simp only [Act.put, List.setIfInBounds_toArray, List.set_cons_zero, List.set_cons_succ]
          refine take_at (i := 3) (v := ?_) rfl (by kernel_rfl) (by kernel_rfl) (by kernel_rfl) (fun _ _ _ h => h) (by kernel_rfl) (by assumption) ?_ ?_
          rotate_left
          · (intro w hSw; (try dsimp only at hSw); go_simp; try with_reducible rfl)
          simp only [Act.put, List.setIfInBounds_toArray, List.set_cons_zero, List.set_cons_succ]
          refine take_at (i := 4) (v := ?_) rfl (by kernel_rfl) (by kernel_rfl) (by kernel_rfl) (fun _ _ _ h => h) (by kernel_rfl) (by assumption) ?_ ?_
          rotate_left
          · (intro w hSw; (try dsimp only at hSw); go_simp; try with_reducible rfl)
          simp only [Act.put, List.setIfInBounds_toArray, List.set_cons_zero, List.set_cons_succ]
          refine take_at (i := 5) (v := ?_) rfl (by kernel_rfl) (by kernel_rfl) (by kernel_rfl) (fun _ _ _ h => h) (by kernel_rfl) (by assumption) ?_ ?_
          rotate_left
          · (intro w hSw; (try dsimp only at hSw); go_simp; try with_reducible rfl)
          simp only [Act.put, List.setIfInBounds_toArray, List.set_cons_zero, List.set_cons_succ]
          refine take_at (i := 6) (v := ?_) rfl (by kernel_rfl) (by kernel_rfl) (by kernel_rfl) (fun _ _ _ h => h) (by kernel_rfl) (by assumption) ?_ ?_
          rotate_left
          · (intro w hSw; (try dsimp only at hSw); go_simp; try with_reducible rfl)
          simp only [Act.put, List.setIfInBounds_toArray, List.set_cons_zero, List.set_cons_succ]
          refine do_at (i := 7) rfl (by kernel_rfl) (by kernel_rfl) (fun K hK => ?_)
          go_simp
          refine (C.out _).mono ?_
          rintro e u1 ⟨rfl, hwe⟩
          subst hwe
          go_wp2_with fail
          refine hK.out _ _ ?_ (fun hHeld => ?_)
          · exact HKEEP.out _ HX.out
          clear hK K
          try simp only [Act.put, List.setIfInBounds_toArray, List.set_cons_zero, List.set_cons_succ]
          refine take_at (i := 8) (v := ?_) rfl (by kernel_rfl) (by kernel_rfl) (by kernel_rfl) (fun _ _ _ h => h) (by kernel_rfl) (by assumption) ?_ ?_
          rotate_left
          · (intro w hSw; (try dsimp only at hSw); go_simp; try with_reducible rfl)
          simp only [Act.put, List.setIfInBounds_toArray, List.set_cons_zero, List.set_cons_succ]
          refine take_at (i := 9) (v := ?_) rfl (by kernel_rfl) (by kernel_rfl) (by kernel_rfl) (fun _ _ _ h => h) (by kernel_rfl) (by assumption) ?_ ?_
          rotate_left
          · (intro w hSw; (try dsimp only at hSw); go_simp; try with_reducible rfl)
          simp only [Act.put, List.setIfInBounds_toArray, List.set_cons_zero, List.set_cons_succ]
          refine take_at (i := 10) (v := ?_) rfl (by kernel_rfl) (by kernel_rfl) (by kernel_rfl) (fun _ _ _ h => h) (by kernel_rfl) (by assumption) ?_ ?_
          rotate_left
          · (intro w hSw; (try dsimp only at hSw); go_simp; try with_reducible rfl)
          simp only [Act.put, List.setIfInBounds_toArray, List.set_cons_zero, List.set_cons_succ]
          refine wpAnyH_done (by kernel_rfl) ?_ _
          have hI0 := own_below HI0.out HX.out
          have HAX := Lib.hid (HA.out.below HX.out)
          have HBX := Lib.hid (HB.out.trans (HX.out.mono HB.out.size))
          clear HKEEP hHeld HA HB
          go_wp2_with (at_builtin; refine wpList_append_own _ rfl (.tmp 23) (.tmp 25) 50 rfl (w.heap.size + 1) 3 ib (.int .i64 0) 1 8 Tryd.underlying50 hi hz0 hz1 hz2 rfl (by decide) (.slice ad nl cc) nl (intsV l0) rfl (hI0.alloc _) ⟨u0.heap.size, 0, none⟩ 1 1 [.int .i64 (n : Int)] rfl rfl ?c1 ?c2 ?c3 ?c4 ?c5 ?_)
          case c1 => exact new_cells u0 [.int .i64 (n : Int)] 3 _ rfl
          case c2 => simp [Value.oneCell']
          case c3 => unfold maxLen; omega
          case c4 => omega
          case c5 => have := HAX.out.1; simp; omega
          intro v' w2 own2 grow2 _
          have b2 : Below w.heap.size w w2 := (HBX.out.alloc HBX.out.size _).grown grow2 (by have := HBX.out.size; simp; omega) (fun j hj => Nat.le_of_succ_le (hI0.lt j hj).1)
          have HIN := Lib.hid (show IRow w2 (w.heap.size + 1) v' (0 :: flagK a.fl (kOf (n + 1))) by
            rw [HSP.out]
            unfold IRow
            rw [List.length_append, ← HNL.out]
            simpa [intsV] using own2)
          have HAN := Lib.hid (show AtAt w2 w.heap.size a from (HAX.out.past _).same grow2.size (grow2.block _ (by have := HAX.out.1; simp; omega) (fun e => by have := (hI0.lt _ e.symm).1; omega)))
          have HB2 := Lib.hid b2
          clear own2 grow2 b2 hI0 HS HAX HBX
          go_wp2
          go_roundg (gk - 1)
          case rel => exact ⟨n + 1, by omega, by omega, by omega, by go_num, HIN, HAN, HB2⟩
          case measure => omega
    · obtain rfl : n = 22 := by omega
      clear hlt hgn hn1 hn22
      rw [show kOf 22 = 9 by decide] at HI
      obtain ⟨ad, cc, rfl⟩ := HI.out.shape
      obtain ⟨l0, hl0⟩ : ∃ l0, l0 = 0 :: flagK a.fl 9 := ⟨_, rfl⟩
      rw [← hl0] at HI ⊢
      obtain ⟨nl, hnl⟩ : ∃ nl, nl = l0.length := ⟨_, rfl⟩
      have hnl2 : nl ≤ 10 := by rw [hnl, hl0]; have := flagK_len a.fl 9; simp; omega
      obtain ⟨t1, ht1⟩ : ∃ t, t = tellM a.fg 0 := ⟨_, rfl⟩
      obtain ⟨t2, ht2⟩ : ∃ t, t = tellM a.bg 10 := ⟨_, rfl⟩
      have HNM := Lib.hid (show numsM a = l0 ++ t1 ++ t2 by rw [hl0, ht1, ht2]; rfl)
      have ht1l : t1.length ≤ 5 := by rw [ht1]; exact tellM_len _ _
      have ht2l : t2.length ≤ 5 := by rw [ht2]; exact tellM_len _ _
      have CF := Lib.hid (show ∀ W, Calls Tryd.prog 40 #[colV a.fg, .int .i64 0] W (TellOut W t1) from fun W => by rw [ht1]; exact rcolor_any W a.fg 0 (by decide) HOK.out.1)
      have CG := Lib.hid (show ∀ W, Calls Tryd.prog 40 #[colV a.bg, .int .i64 10] W (TellOut W t2) from fun W => by rw [ht2]; exact rcolor_any W a.bg 10 (by decide) HOK.out.2.1)
      have HI0 := Lib.hid (show wo.ownsRow (w.heap.size + 1) 3 1 (.slice ad nl cc) nl (intsV l0) by rw [hnl]; exact HI.out)
      have HNL := Lib.hid hnl
      rw [← hnl]
      clear hl0 hnl ht1 ht2 HI HOK
      have HBX := Lib.hid (HB.out.trans (Below.mono (show Below wo.heap.size wo wo.drew from ⟨rfl, rfl, rfl, Nat.le_refl _, fun _ _ => rfl⟩) HB.out.size))
      have HAX := Lib.hid (HA.out.below (show Below wo.heap.size wo wo.drew from ⟨rfl, rfl, rfl, Nat.le_refl _, fun _ _ => rfl⟩))
      have HIX := Lib.hid (own_below HI0.out (show Below wo.heap.size wo wo.drew from ⟨rfl, rfl, rfl, Nat.le_refl _, fun _ _ => rfl⟩))
      clear HA HB HI0
      go_upto_region 7 with (fail)
      refine wp_region_held_drew (S := fun w' => w'.cell? ⟨w.heap.size, 0, none⟩ = some (.int .u8 a.fg.k) ∧ w'.cell? ⟨w.heap.size, 1, none⟩ = some (.int .u8 a.fg.r) ∧ w'.cell? ⟨w.heap.size, 2, none⟩ = some (.int .u8 a.fg.g) ∧ w'.cell? ⟨w.heap.size, 3, none⟩ = some (.int .u8 a.fg.b) ∧ w'.cell? ⟨w.heap.size, 4, none⟩ = some (.int .u8 a.bg.k) ∧ w'.cell? ⟨w.heap.size, 5, none⟩ = some (.int .u8 a.bg.r) ∧ w'.cell? ⟨w.heap.size, 6, none⟩ = some (.int .u8 a.bg.g) ∧ w'.cell? ⟨w.heap.size, 7, none⟩ = some (.int .u8 a.bg.b) ∧ w'.cell? ⟨w.heap.size, 8, none⟩ = some (.int .u16 (a.fl : Nat))) (by kernel_rfl) ?_ (fun hHeld => ?_)
      · exact HAX.out.2.1
      obtain ⟨u0, hu0⟩ : ∃ u0, u0 = wo.drew := ⟨_, rfl⟩
      rw [← hu0] at HAX HBX HIX hHeld ⊢
      clear hu0
      refine take_at (i := 0) (v := ?_) rfl (by kernel_rfl) (by kernel_rfl) (by kernel_rfl) (fun _ _ _ h => h) (by kernel_rfl) (by assumption) ?_ ?_
      rotate_left
      · (intro w hSw; (try dsimp only at hSw); go_simp; try with_reducible rfl)
      simp only [Act.put, List.setIfInBounds_toArray, List.set_cons_zero, List.set_cons_succ]
      refine take_at (i := 1) (v := ?_) rfl (by kernel_rfl) (by kernel_rfl) (by kernel_rfl) (fun _ _ _ h => h) (by kernel_rfl) (by assumption) ?_ ?_
      rotate_left
      · (intro w hSw; (try dsimp only at hSw); go_simp; try with_reducible rfl)
      simp only [Act.put, List.setIfInBounds_toArray, List.set_cons_zero, List.set_cons_succ]
      refine take_at (i := 2) (v := ?_) rfl (by kernel_rfl) (by kernel_rfl) (by kernel_rfl) (fun _ _ _ h => h) (by kernel_rfl) (by assumption) ?_ ?_
      rotate_left
      · (intro w hSw; (try dsimp only at hSw); go_simp; try with_reducible rfl)
      simp only [Act.put, List.setIfInBounds_toArray, List.set_cons_zero, List.set_cons_succ]
      refine take_at (i := 5) (v := ?_) rfl (by kernel_rfl) (by kernel_rfl) (by kernel_rfl) (fun _ _ _ h => h) (by kernel_rfl) (by assumption) ?_ ?_
      rotate_left
      · (intro w hSw; (try dsimp only at hSw); go_simp; try with_reducible rfl)
      simp only [Act.put, List.setIfInBounds_toArray, List.set_cons_zero, List.set_cons_succ]
      refine take_at (i := 6) (v := ?_) rfl (by kernel_rfl) (by kernel_rfl) (by kernel_rfl) (fun _ _ _ h => h) (by kernel_rfl) (by assumption) ?_ ?_
      rotate_left
      · (intro w hSw; (try dsimp only at hSw); go_simp; try with_reducible rfl)
      simp only [Act.put, List.setIfInBounds_toArray, List.set_cons_zero, List.set_cons_succ]
      refine do_at (i := 3) rfl (by kernel_rfl) (by kernel_rfl) (fun K hK => ?_)
      go_simp
      refine (CF.out _).mono ?_
      rintro e u1 ⟨v1, rfl, I1, bb⟩
      replace HBX := Lib.hid (HBX.out.trans (bb.mono HBX.out.size))
      replace HAX := Lib.hid (HAX.out.below bb)
      replace HIX := Lib.hid (own_below HIX.out bb)
      obtain ⟨ad1, cc1, rfl⟩ := I1.shape
      obtain ⟨n1, hn1⟩ : ∃ n, n = t1.length := ⟨_, rfl⟩
      rw [← hn1] at I1 ⊢
      have HTn1 := Lib.hid I1
      have HLn1 := Lib.hid hn1
      have hbn1 : n1 ≤ 5 := by omega
      clear I1 hn1 bb CF
      go_wp2_with fail
      refine hK.out _ _ ?_ (fun hHeld => ?_)
      · exact HAX.out.2.1
      clear hK K
      try simp only [Act.put, List.setIfInBounds_toArray, List.set_cons_zero, List.set_cons_succ]
      refine do_at (i := 4) rfl (by kernel_rfl) (by kernel_rfl) (fun K hK => ?_)
      have hIX := HIX.out
      have hT : u1.ownsRow u0.heap.size 3 1 (.slice ad1 n1 cc1) n1 (intsV t1) := by have := HTn1.out; unfold IRow at this; rwa [← HLn1.out] at this
      refine wp_append_row (.tmp 27) (.tmp 30) 50 rfl (w.heap.size + 1) 3 ib (.int .i64 0) 1 8 Tryd.underlying50 hi hz0 hz1 hz2 rfl (by decide) (.slice ad nl cc) nl (intsV l0) rfl hIX u0.heap.size n1 (.slice ad1 n1 cc1) (intsV t1) rfl hT (intsV_one t1) ?_ ?_ ?_ ?_
      · unfold maxLen; omega
      · omega
      · exact HAX.out.1
      intro v3 u2 own3 grow3
      replace HBX := Lib.hid (HBX.out.grown grow3 HBX.out.size (fun j hj => Nat.le_of_succ_le (hIX.lt j hj).1))
      replace HAX := Lib.hid (HAX.out.same grow3.size (grow3.block _ HAX.out.1 (fun e => by have := (hIX.lt _ e.symm).1; omega)))
      obtain ⟨l1, hl1⟩ : ∃ l, l = l0 ++ t1 := ⟨_, rfl⟩
      obtain ⟨m1, hm1⟩ : ∃ n, n = nl + n1 := ⟨_, rfl⟩
      have HNLm1 := Lib.hid (show m1 = l1.length by rw [hm1, hl1, List.length_append, HNL.out, HLn1.out])
      have own3' : u2.ownsRow (w.heap.size + 1) 3 1 v3 m1 (intsV l1) := by rw [hm1, hl1]; simpa [intsV] using own3
      have hnbm1 : m1 ≤ 15 := by omega
      rw [← hl1] at HNM
      obtain ⟨ad3, cc3, rfl⟩ : ∃ a c, v3 = .slice a m1 c := by
        rcases own3'.2 with ⟨rfl, h0⟩ | ⟨g, cap, cur, rfl, _⟩
        · exact ⟨none, 0, by rw [h0]⟩
        · exact ⟨_, cap, rfl⟩
      replace HIX := Lib.hid own3'
      clear own3 grow3 hl1 hm1 own3' hIX hT HTn1
      refine hK.out _ _ ?_ (fun hHeld => ?_)
      · exact HAX.out.2.1
      clear hK K
      try simp only [Act.put, List.setIfInBounds_toArray, List.set_cons_zero, List.set_cons_succ]
      refine do_at (i := 7) rfl (by kernel_rfl) (by kernel_rfl) (fun K hK => ?_)
      go_simp
      refine (CG.out _).mono ?_
      rintro e u3 ⟨v4, rfl, I1, bb⟩
      replace HBX := Lib.hid (HBX.out.trans (bb.mono HBX.out.size))
      replace HAX := Lib.hid (HAX.out.below bb)
      replace HIX := Lib.hid (own_below HIX.out bb)
      obtain ⟨ad4, cc4, rfl⟩ := I1.shape
      obtain ⟨n2, hn2⟩ : ∃ n, n = t2.length := ⟨_, rfl⟩
      rw [← hn2] at I1 ⊢
      have HTn2 := Lib.hid I1
      have HLn2 := Lib.hid hn2
      have hbn2 : n2 ≤ 5 := by omega
      clear I1 hn2 bb CG
      go_wp2_with fail
      refine hK.out _ _ ?_ (fun hHeld => ?_)
      · exact HAX.out.2.1
      clear hK K
      try simp only [Act.put, List.setIfInBounds_toArray, List.set_cons_zero, List.set_cons_succ]
      refine do_at (i := 8) rfl (by kernel_rfl) (by kernel_rfl) (fun K hK => ?_)
      have hIX := HIX.out
      have hT : u3.ownsRow u2.heap.size 3 1 (.slice ad4 n2 cc4) n2 (intsV t2) := by have := HTn2.out; unfold IRow at this; rwa [← HLn2.out] at this
      refine wp_append_row (.tmp 31) (.tmp 34) 50 rfl (w.heap.size + 1) 3 ib (.int .i64 0) 1 8 Tryd.underlying50 hi hz0 hz1 hz2 rfl (by decide) (.slice ad3 m1 cc3) m1 (intsV l1) rfl hIX u2.heap.size n2 (.slice ad4 n2 cc4) (intsV t2) rfl hT (intsV_one t2) ?_ ?_ ?_ ?_
      · unfold maxLen; omega
      · omega
      · exact HAX.out.1
      intro v5 u4 own3 grow3
      replace HBX := Lib.hid (HBX.out.grown grow3 HBX.out.size (fun j hj => Nat.le_of_succ_le (hIX.lt j hj).1))
      replace HAX := Lib.hid (HAX.out.same grow3.size (grow3.block _ HAX.out.1 (fun e => by have := (hIX.lt _ e.symm).1; omega)))
      obtain ⟨l2, hl2⟩ : ∃ l, l = l1 ++ t2 := ⟨_, rfl⟩
      obtain ⟨nl2, hnl2⟩ : ∃ n, n = m1 + n2 := ⟨_, rfl⟩
      have HNLnl2 := Lib.hid (show nl2 = l2.length by rw [hnl2, hl2, List.length_append, HNLm1.out, HLn2.out])
      have own3' : u4.ownsRow (w.heap.size + 1) 3 1 v5 nl2 (intsV l2) := by rw [hnl2, hl2]; simpa [intsV] using own3
      have hnbnl2 : nl2 ≤ 20 := by omega
      rw [← hl2] at HNM
      obtain ⟨ad5, cc5, rfl⟩ : ∃ a c, v5 = .slice a nl2 c := by
        rcases own3'.2 with ⟨rfl, h0⟩ | ⟨g, cap, cur, rfl, _⟩
        · exact ⟨none, 0, by rw [h0]⟩
        · exact ⟨_, cap, rfl⟩
      replace HIX := Lib.hid own3'
      clear own3 grow3 hl2 hnl2 own3' hIX hT HTn2
      refine hK.out _ _ ?_ (fun hHeld => ?_)
      · exact HAX.out.2.1
      clear hK K
      try simp only [Act.put, List.setIfInBounds_toArray, List.set_cons_zero, List.set_cons_succ]
      refine take_at (i := 9) (v := ?_) rfl (by kernel_rfl) (by kernel_rfl) (by kernel_rfl) (fun _ _ _ h => h) (by kernel_rfl) (by assumption) ?_ ?_
      rotate_left
      · (intro w hSw; (try dsimp only at hSw); go_simp; try with_reducible rfl)
      simp only [Act.put, List.setIfInBounds_toArray, List.set_cons_zero, List.set_cons_succ]
      refine wpAnyH_done (by kernel_rfl) ?_ _
      have HIX5 := Lib.hid (show IRow u4 (w.heap.size + 1) (.slice ad5 nl2 cc5) l2 by unfold IRow; rw [← HNLnl2.out]; exact HIX.out)
      have HNL2 := Lib.hid HNLnl2.out
      have hnl2' : nl2 ≤ 20 := hnbnl2
      have HPM := Lib.hid (show paramsM a = l2.map fun x => [x] by unfold paramsM; rw [HNM.out])
      have HSZ := Lib.hid (Nat.succ_le_of_lt HAX.out.1)
      clear HAX HIX HNM hHeld
      go_wp2
      obtain ⟨w6, rfl⟩ : ∃ w6 : World, w6 = u4 := ⟨_, rfl⟩
      go_loopw [5, 6] (fun v i wr => ∃ k : Nat, k ≤ nl2 ∧ i = .int .i64 k ∧ Hid (RowsAt wr (w.heap.size + 1) v ((l2.take k).map fun x => [x])) ∧ Hid (IRow wr (w.heap.size + 1) (.slice ad5 nl2 cc5) l2) ∧ Hid (Below w.heap.size w wr) ∧ Hid (w.heap.size + 1 ≤ wr.heap.size)) (fun _ i _ => nl2 - (intOf i).toNat)
      case atStart => exact ⟨0, Nat.zero_le _, rfl, Lib.hid (RowsAt.nil _ _), HIX5, HBX, HSZ⟩
      case round =>
        obtain ⟨k, hk, rfl, HR, HI, HB, HS⟩ := hrel
        clear HIX5 HBX HSZ
        by_cases hlt : k < nl2
        · have hkl : k < l2.length := by rw [← HNL2.out]; exact hlt
          obtain ⟨g, rfl, hg, hcell⟩ := IRow.cell HI.out (by omega)
          obtain ⟨x, hx⟩ : ∃ x, x = l2.getD k 0 := ⟨_, rfl⟩
          have a1 := hcell k hkl
          rw [← hx] at a1
          have HTK := Lib.hid (show (l2.take (k + 1)).map (fun x => [x]) = (l2.take k).map (fun x => [x]) ++ [[x]] by
            rw [List.take_succ_eq_append_getElem hkl, List.map_append, hx, List.getD_eq_getElem?_getD, List.getElem?_eq_getElem hkl]
            rfl)
          have HLK := Lib.hid (show ((l2.take k).map fun x => [x]).length = k by rw [List.length_map, List.length_take]; omega)
          have HI2 := Lib.hid HI.out
          obtain ⟨us, hown, hus⟩ := HR.out
          have HUS := Lib.hid hus
          clear hus hx hcell HR
          rw [HLK.out] at hown
          obtain ⟨W1, hW1⟩ : ∃ W1, W1 = (wr.alloc (.cells #[.int .i64 x] 3)).alloc (.cells #[.slice (some ⟨wr.heap.size, 0, none⟩) 1 1] 50) := ⟨_, rfl⟩
          have bW : Below wr.heap.size wr W1 := by rw [hW1]; exact ((Below.refl _ _).alloc (Nat.le_refl _) _).alloc (by simp) _
          have hownW : W1.ownsRow (w.heap.size + 1) 50 1 u5 k us := own_below hown bW
          have hsW : wr.heap.size ≤ W1.heap.size := bW.size
          have hnew : IntsAt W1 (w.heap.size + 1) (.slice (some ⟨wr.heap.size, 0, none⟩) 1 1) [x] := by
            rw [hW1]
            exact IntsAt.below (IntsAt.litA wr (w.heap.size + 1) 1 wr.heap.size [x] rfl rfl HS.out (by simp [maxLen])) ((Below.refl _ _).alloc (Nat.le_refl _) _)
          have hcW : ∀ j u, ([.slice (some ⟨wr.heap.size, 0, none⟩) 1 1] : List Value)[j]? = some u → W1.cell? ((⟨wr.heap.size + 1, 0, none⟩ : Addr).add j) = some u := by
            rw [hW1]
            exact new_cells _ [.slice (some ⟨wr.heap.size, 0, none⟩) 1 1] 50 _ (by simp)
          have HNEW := Lib.hid hnew
          clear hnew
          go_wp2_with (at_builtin; rw [← hW1]; clear hW1; refine wpList_append_own _ rfl (.tmp 42) (.tmp 48) 27 rfl (w.heap.size + 1) 50 jb (.slice none 0 0) 1 24 Tryd.underlying27 ji jz0 jz1 jz2 rfl (by decide) u5 k us rfl hownW ⟨wr.heap.size + 1, 0, none⟩ 1 1 [.slice (some ⟨wr.heap.size, 0, none⟩) 1 1] rfl rfl hcW ?c2 ?c3 ?c4 ?c5 ?_)
          case c2 => simp [Value.oneCell']
          case c3 => unfold maxLen; omega
          case c4 => omega
          case c5 => have := HS.out; omega
          intro v' w7 own2 grow2 _
          have b7 : Below w.heap.size w w7 := (HB.out.trans (bW.mono HB.out.size)).grown grow2 (by have := HB.out.size; omega) (fun j hj => Nat.le_of_succ_le (hownW.lt j hj).1)
          have HR2 := Lib.hid (show RowsAt w7 (w.heap.size + 1) v' ((l2.take (k + 1)).map fun x => [x]) by
            rw [HTK.out]
            refine RowsAt.snoc (w := W1) (us := us) (v := u5) (by rw [HLK.out]; exact hownW) (fun i hi => (HUS.out i hi).below bW) HNEW.out (by rw [HLK.out]; exact own2) grow2)
          have HI3 := Lib.hid (show IRow w7 (w.heap.size + 1) (.slice (some ⟨g, 0, none⟩) nl2 cc5) l2 from own_apart0 (by decide) (own_below HI2.out bW) hownW grow2)
          have HB2 := Lib.hid b7
          have HS2 := Lib.hid (Nat.le_trans HS.out (Nat.le_trans hsW grow2.size))
          clear own2 grow2 b7 bW hownW hcW HI HI2 HB HS HUS HNEW hown a1 hg hsW
          go_wp2
          go_roundw
          case rel => exact ⟨k + 1, by omega, by go_num, HR2, HI3, HB2, HS2⟩
          case measure => simp [intOf]; omega
        · have HE := Lib.hid (show (l2.take k) = l2 from List.take_of_length_le (by rw [← HNL2.out]; omega))
          go_wp2
          go_ret
          refine ⟨u5, rfl, ?_, HB.out⟩
          rw [HPM.out]
          have := HR.out
          rw [HE.out] at this
          exact this.lower (Nat.le_succ _)
end Go.Proofs.YtlmhnebgkginkaaDoor.Lab
