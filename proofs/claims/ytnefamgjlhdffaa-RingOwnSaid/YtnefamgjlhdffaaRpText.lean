/- The project's Text, of rows whose runes are of one byte, their marks U+0301. -/
import Derived.Test.YtnefamgjlhdffaaRpBuild
import Derived.Test.YtnefamgjlhdffaaRpSmall
namespace Go.Proofs.Ytnefamgjlhdffaa.Lab
open Go Go.RowKit

def cellT (c : Cel) : List UInt8 := if c.k = 2 then [] else encR (if c.ru = 0 then 32 else c.ru) ++ ((if c.m0 = 0 then [] else encR c.m0) ++ (if c.m1 = 0 then [] else encR c.m1))
def textM (R : Cls) : List UInt8 := R.flatMap cellT
def TxtC (c : Cel) : Prop := (c.ru = 0 ∨ Shows c.ru) ∧ (c.m0 = 0 ∨ Shows c.m0) ∧ (c.m1 = 0 ∨ Shows c.m1)
def TxtOk (R : Cls) : Prop := ∀ i, i < R.length → TxtC (gc R i)
theorem text_step (R : Cls) (k : Nat) (hk : k < R.length) : textM (R.take (k + 1)) = textM (R.take k) ++ cellT (gc R k) := by
  unfold textM
  rw [List.take_succ_eq_append_getElem hk, List.flatMap_append, gc_eq hk]
  simp
theorem cellT_le (c : Cel) : (cellT c).length ≤ 9 := by
  unfold cellT
  have h1 := encR_le (if c.ru = 0 then 32 else c.ru)
  have h2 : (if c.m0 = 0 then [] else encR c.m0).length ≤ 3 := by
    split
    · exact Nat.zero_le _
    · exact encR_le _
  have h3 : (if c.m1 = 0 then [] else encR c.m1).length ≤ 3 := by
    split
    · exact Nat.zero_le _
    · exact encR_le _
  split
  · exact Nat.zero_le _
  · rw [List.length_append, List.length_append]
    omega
theorem text_le (R : Cls) (k : Nat) (hk : k ≤ R.length) : (textM (R.take k)).length ≤ 9 * k := by
  induction k with
  | zero => simp [textM]
  | succ k ih =>
    rw [text_step R k hk, List.length_append]
    have := ih (by omega)
    have := cellT_le (gc R k)
    omega
/-- A cell in a block that holds cells. -/
def ZAt (w : World) (z : Nat) (c : Cel) : Prop := BAt w z c ∧ ∃ cs fz, w.heap[z]? = some (.cells cs 47 fz)
theorem ZAt.newAt (w : World) (z : Nat) (hz : z = w.heap.size) (c : Cel) : ZAt (w.alloc (.cells #[.int .i32 c.ru, .int .i32 c.m0, .int .i32 c.m1, .int .u8 c.k, .int .u8 c.a.fg.k, .int .u8 c.a.fg.r, .int .u8 c.a.fg.g, .int .u8 c.a.fg.b, .int .u8 c.a.bg.k, .int .u8 c.a.bg.r, .int .u8 c.a.bg.g, .int .u8 c.a.bg.b, .int .u16 (c.a.fl : Nat), .int .u8 c.l] 47)) z c :=
  ⟨BAt.newAt w z hz c _, _, _, by subst hz; exact heap_alloc_new w _⟩
theorem ZAt.others {w w' : World} {z b : Nat} {c : Cel} (h : ZAt w z c) (k : Lib.OthersKept 5 (some b) w w') (hz : z ≠ b) (hs : w.heap.size ≤ w'.heap.size) : ZAt w' z c := by
  obtain ⟨h1, cs, fz, h2⟩ := h
  have e := k z _ h2 (by simp; omega) (fun c fz e => by injection e with _ e2; exact absurd e2 (by decide))
  exact ⟨h1.same hs (e.trans h2.symm), cs, fz, e⟩
theorem ZAt.setRu {w : World} {z : Nat} {c : Cel} (h : ZAt w z c) (x : Int) : ZAt (w.setCell ⟨z, 0, none⟩ (.int .i32 x)) z { c with ru := x } := by
  obtain ⟨⟨h0, ⟨a0, a1, a2, a3, a4, a5, a6, a7, a8, a9, a10, a11, a12, a13⟩, hf⟩, cs, fz, h2⟩ := h
  refine ⟨⟨by simpa using h0, ⟨?_, ?_, ?_, ?_, ?_, ?_, ?_, ?_, ?_, ?_, ?_, ?_, ?_, ?_⟩, fun i => by simpa using hf i⟩, cs.setIfInBounds 0 (.int .i32 x), fz, ?_⟩
  all_goals first | (rw [World.cell?_setCell_other _ _ _ _ (by simp)]; assumption) | exact World.cell?_setCell_same _ _ _ a0 | (rw [setCell_eq_setRow w z 0 cs _ fz _ h2]; exact setRow_heap w z cs _ _ fz h2)
theorem isB_kept {w w' : World} {b z : Nat} {l : List UInt8} {c : Cel} (h : IsB b l w) (hz : ZAt w z c) (hb : z ≠ b) (x : Int) (he : w' = w.setCell ⟨z, 0, none⟩ (.int .i32 x)) : IsB b l w' := by
  subst he
  obtain ⟨_, cs, fz, h2⟩ := hz
  have keep : ∀ p, Lib.BuilderAt 91 5 b b p (Lib.byteCells l) w → Lib.BuilderAt 91 5 b b p (Lib.byteCells l) (w.setCell ⟨z, 0, none⟩ (.int .i32 x)) := by
    intro p ⟨hB, v, hv, ho, hne⟩
    refine ⟨hB, v, (Below.heap_setCell _ _ _ _ (fun e => hb e.symm)).trans hv, ho.kept (row := some z) (But.set w z 0 _) ?_, hne⟩
    rcases ho.2 with ⟨rfl, _⟩ | ⟨g, cap, cur, rfl, _, hg, _⟩
    · exact .inl rfl
    · refine .inr fun e => ?_
      simp [Value.ownBlock] at e
      subst e
      rw [hg] at h2
      injection h2 with h2
      injection h2 with _ h3
      exact absurd h3 (by decide)
  rcases h with h | h
  · exact .inl (keep _ h)
  · exact .inr (keep _ h)
theorem idx_two (x y : Int) (w : World) : (Instr.index 40 (.agg #[.int .i32 x, .int .i32 y]) (.int .i64 0)).run Try.prog w = .ok (.int .i32 x) w ∧ (Instr.index 40 (.agg #[.int .i32 x, .int .i32 y]) (.int .i64 1)).run Try.prog w = .ok (.int .i32 y) w := by
  constructor <;> simp [Instr.index, run_underlying Try.underlying40, asIntOf, part, go_sem]
set_option maxHeartbeats 8000000 in
set_option maxRecDepth 100000 in
theorem text_any (w : World) (v : Value) (R : Cls) (h : RowIn w v R) (ht : TxtOk R) (hl : R.length ≤ 1000) : Calls Try.prog 44 #[v] w fun e w' => e = .returned (.string ⟨(textM R).toArray⟩) ∧ Below w.heap.size w w' := by
  obtain ⟨va, vc, rfl⟩ := h.shape
  have HT := Lib.hid ht
  obtain ⟨n, hn⟩ : ∃ n, n = R.length := ⟨_, rfl⟩
  have HN := Lib.hid hn
  have HV := Lib.hid h
  rw [← hn] at HV hl ⊢
  obtain ⟨w0, hw0⟩ : ∃ y, y = w.alloc (.cells #[.pointer none, .slice none 0 0] 91) := ⟨_, rfl⟩
  obtain ⟨b, hb⟩ : ∃ y, y = w.heap.size := ⟨_, rfl⟩
  have HI0 := Lib.hid (show IsB b (textM (R.take 0)) w0 by rw [hw0, hb]; exact isB_new w)
  have HB0 := Lib.hid (show Below b w w0 by rw [hw0, hb]; exact (Below.refl _ _).alloc (Nat.le_refl _) _)
  have HS0 := Lib.hid (show b < w0.heap.size by rw [hw0, hb]; simp)
  have HBS := Lib.hid hb
  clear h ht hn
  go_enter Try.func44, Try.ntmps44
  go_upto_region 2 with (fail)
  rw [← hw0, ← hb]
  clear hw0 hb
  go_wp2
  go_loopg [10] n (fun G i wr => ∃ k : Nat, i = .int .i64 k ∧ k ≤ n ∧ n - k ≤ G ∧ Hid (IsB b (textM (R.take k)) wr) ∧ Hid (Below b w wr) ∧ Hid (b < wr.heap.size))
  case atStart => exact ⟨0, rfl, Nat.zero_le _, Nat.sub_le _ _, HI0, HB0, HS0⟩
  case round =>
    obtain ⟨k, rfl, hkn, hgk, HI, HB, HS⟩ := hrel
    clear HI0 HB0 HS0
    by_cases hlt : k < n
    · obtain ⟨g, o, cp, e, _, hg, hC⟩ := (HV.out.below (by rw [← HBS.out]; exact HB.out)).open (by rw [← HN.out]; omega)
      injection e with e1 e2 e3
      subst e1 e3
      obtain ⟨c, hc⟩ : ∃ c, c = gc R k := ⟨_, rfl⟩
      have HTS := Lib.hid (show textM (R.take (k + 1)) = textM (R.take k) ++ cellT c by rw [hc]; exact text_step R k (by rw [← HN.out]; exact hlt))
      have HTC := Lib.hid (show TxtC c by rw [hc]; exact HT.out k (by rw [← HN.out]; exact hlt))
      obtain ⟨L, hL⟩ : ∃ L, L = textM (R.take k) := ⟨_, rfl⟩
      have HLL := Lib.hid (show L.length ≤ 9000 by rw [hL]; have := text_le R k (by rw [← HN.out]; omega); omega)
      rw [← hL] at HI HTS
      have hat := hC k (by rw [← HN.out]; exact hlt)
      rw [← hc] at hat
      obtain ⟨x0, x1, x2, x3, x4, x5, x6, x7, x8, x9, x10, x11, x12, x13⟩ := hat
      obtain ⟨w1, hw1⟩ : ∃ y, y = wr.alloc (.cells #[.int .i32 c.ru, .int .i32 c.m0, .int .i32 c.m1, .int .u8 c.k, .int .u8 c.a.fg.k, .int .u8 c.a.fg.r, .int .u8 c.a.fg.g, .int .u8 c.a.fg.b, .int .u8 c.a.bg.k, .int .u8 c.a.bg.r, .int .u8 c.a.bg.g, .int .u8 c.a.bg.b, .int .u16 (c.a.fl : Nat), .int .u8 c.l] 47) := ⟨_, rfl⟩
      obtain ⟨z, hz⟩ : ∃ y, y = wr.heap.size := ⟨_, rfl⟩
      have b1 : Below wr.heap.size wr w1 := by rw [hw1]; exact (Below.refl _ _).alloc (Nat.le_refl _) _
      have HA1 := Lib.hid (show ZAt w1 z c by rw [hw1]; exact ZAt.newAt wr z hz c)
      have HB1 := Lib.hid (HB.out.trans (b1.mono (Nat.le_of_lt HS.out)))
      have HI1 := Lib.hid (isB_below HI.out b1)
      have HS1 := Lib.hid (Nat.lt_of_lt_of_le HS.out b1.size)
      have HZB := Lib.hid (show z ≠ b ∧ b ≤ z by have := HS.out; omega)
      clear hC hc hg b1 e2 hL
      go_upto_region 5 with (fail)
      rw [← hw1, ← hz]
      clear hw1 hz HB HI HS x0 x1 x2 x3 x4 x5 x6 x7 x8 x9 x10 x11 x12 x13
      by_cases h2 : c.k = 2
      · have k2 : (c.k == 2) = true := by simp [h2]
        have y3 := HA1.out.1.2.1.2.2.2.1
        have HE := Lib.hid (show textM (R.take (k + 1)) = L by rw [HTS.out]; unfold cellT; rw [if_pos h2, List.append_nil])
        clear h2
        go_wp2
        go_roundg (n - (k + 1))
        case rel => exact ⟨k + 1, by go_num, by omega, Nat.le_refl _, Lib.hid (by rw [HE.out]; exact HI1.out), HB1, HS1⟩
        case measure => omega
      have k2 : (c.k == 2) = false := by simp [h2]
      have HC2 := Lib.hid h2
      clear h2
      by_cases hr : c.ru = 0
      · have kr : (c.ru == 0) = true := by simp [hr]
        have HRU := Lib.hid hr
        obtain ⟨w2, hw2⟩ : ∃ y, y = w1.setCell ⟨z, 0, none⟩ (.int .i32 32) := ⟨_, rfl⟩
        have HAw2 := Lib.hid (show ZAt w2 z { c with ru := 32 } by rw [hw2]; exact HA1.out.setRu 32)
        have HBw2 := Lib.hid (show Below b w w2 by rw [hw2]; exact HB1.out.setCell (p := ⟨z, 0, none⟩) HZB.out.2 _)
        have HIw2 := Lib.hid (show IsB b L w2 from isB_kept HI1.out HA1.out HZB.out.1 32 hw2)
        have HSw2 := Lib.hid (show b < w2.heap.size by rw [hw2]; simpa using HS1.out)
        have y0 := HA1.out.1.2.1.1
        have y3 := HA1.out.1.2.1.2.2.2.1
        have yf := HA1.out.1.2.2
        clear hr
        go_upto_region 8 with (fail)
        rw [← hw2]
        clear hw2 y0 y3 yf HA1 HB1 HI1 HS1
        have y0 := HAw2.out.1.2.1.1
        dsimp only at y0
        go_wp2_with fail
        refine (rune_any b L 32 w2 (.inl (by omega)) HIw2.out (by have := HLL.out; omega)).mono ?_
        rintro e w3 ⟨⟨_, rfl⟩, i2, b2, o2⟩
        have HIw3 := Lib.hid i2
        have HBw3 := Lib.hid (HBw2.out.trans b2)
        have HAw3 := Lib.hid (HAw2.out.others o2 HZB.out.1 b2.size)
        have HSw3 := Lib.hid (Nat.lt_of_lt_of_le HSw2.out b2.size)
        clear i2 b2 o2 HIw2 HBw2 HAw2 HSw2
        clear y0
        have y1 := HAw3.out.1.2.1.2.1
        have y2 := HAw3.out.1.2.1.2.2.1
        try dsimp only at y1 y2
        have i0 := fun w => (idx_two c.m0 c.m1 w).1
        have i1 := fun w => (idx_two c.m0 c.m1 w).2
        by_cases h0 : c.m0 = 0
        · have k0 : (c.m0 == 0) = true := by simp [h0]
          have k0n : (c.m0 != 0) = false := by simp [h0]
          by_cases h1 : c.m1 = 0
          · have k1 : (c.m1 == 0) = true := by simp [h1]
            have k1n : (c.m1 != 0) = false := by simp [h1]
            have HE := Lib.hid (show textM (R.take (k + 1)) = L ++ (encR 32 ++ ([] ++ [])) by
              rw [HTS.out]
              unfold cellT
              rw [if_neg HC2.out, if_pos HRU.out, if_pos h0, if_pos h1])
            clear h0 h1
            go_wp2
            refine wp_loop_rounds 3 ?_
            rw [rounds_succ]
            go_wp2
            rw [rounds_succ]
            go_wp2
            rw [rounds_succ]
            go_wp2
            go_roundg (n - (k + 1))
            case rel => exact ⟨k + 1, by go_num, by omega, Nat.le_refl _, Lib.hid (by rw [HE.out]; have := HIw3.out; simpa only [List.append_assoc, List.nil_append, List.append_nil] using this), HBw3, HSw3⟩
            case measure => omega
          · have k1 : (c.m1 == 0) = false := by simp [h1]
            have k1n : (c.m1 != 0) = true := by simp [h1]
            have HE := Lib.hid (show textM (R.take (k + 1)) = L ++ (encR 32 ++ ([] ++ encR c.m1)) by
              rw [HTS.out]
              unfold cellT
              rw [if_neg HC2.out, if_pos HRU.out, if_pos h0, if_neg h1])
            have S1 := Lib.hid (show Shows c.m1 from HTC.out.2.2.resolve_left h1)
            clear h0 h1
            go_wp2
            refine wp_loop_rounds 3 ?_
            rw [rounds_succ]
            go_wp2
            rw [rounds_succ]
            go_wp2_with fail
            refine (rune_any b (L ++ encR 32) c.m1 w3 S1.out HIw3.out (by have := HLL.out; have := encR_le (32); have := encR_le c.m0; simp only [List.length_append]; omega)).mono ?_
            rintro e w5 ⟨⟨_, rfl⟩, i2, b2, o2⟩
            have HIw5 := Lib.hid i2
            have HBw5 := Lib.hid (HBw3.out.trans b2)
            have HAw5 := Lib.hid (HAw3.out.others o2 HZB.out.1 b2.size)
            have HSw5 := Lib.hid (Nat.lt_of_lt_of_le HSw3.out b2.size)
            clear i2 b2 o2 HIw3 HBw3 HAw3 HSw3
            go_wp2
            rw [rounds_succ]
            go_wp2
            go_roundg (n - (k + 1))
            case rel => exact ⟨k + 1, by go_num, by omega, Nat.le_refl _, Lib.hid (by rw [HE.out]; have := HIw5.out; simpa only [List.append_assoc, List.nil_append, List.append_nil] using this), HBw5, HSw5⟩
            case measure => omega
        · have k0 : (c.m0 == 0) = false := by simp [h0]
          have k0n : (c.m0 != 0) = true := by simp [h0]
          by_cases h1 : c.m1 = 0
          · have k1 : (c.m1 == 0) = true := by simp [h1]
            have k1n : (c.m1 != 0) = false := by simp [h1]
            have HE := Lib.hid (show textM (R.take (k + 1)) = L ++ (encR 32 ++ (encR c.m0 ++ [])) by
              rw [HTS.out]
              unfold cellT
              rw [if_neg HC2.out, if_pos HRU.out, if_neg h0, if_pos h1])
            have S0 := Lib.hid (show Shows c.m0 from HTC.out.2.1.resolve_left h0)
            clear h0 h1
            go_wp2
            refine wp_loop_rounds 3 ?_
            rw [rounds_succ]
            go_wp2_with fail
            refine (rune_any b (L ++ encR 32) c.m0 w3 S0.out HIw3.out (by have := HLL.out; have := encR_le (32); simp only [List.length_append]; omega)).mono ?_
            rintro e w4 ⟨⟨_, rfl⟩, i2, b2, o2⟩
            have HIw4 := Lib.hid i2
            have HBw4 := Lib.hid (HBw3.out.trans b2)
            have HAw4 := Lib.hid (HAw3.out.others o2 HZB.out.1 b2.size)
            have HSw4 := Lib.hid (Nat.lt_of_lt_of_le HSw3.out b2.size)
            clear i2 b2 o2 HIw3 HBw3 HAw3 HSw3
            go_wp2
            rw [rounds_succ]
            go_wp2
            rw [rounds_succ]
            go_wp2
            go_roundg (n - (k + 1))
            case rel => exact ⟨k + 1, by go_num, by omega, Nat.le_refl _, Lib.hid (by rw [HE.out]; have := HIw4.out; simpa only [List.append_assoc, List.nil_append, List.append_nil] using this), HBw4, HSw4⟩
            case measure => omega
          · have k1 : (c.m1 == 0) = false := by simp [h1]
            have k1n : (c.m1 != 0) = true := by simp [h1]
            have HE := Lib.hid (show textM (R.take (k + 1)) = L ++ (encR 32 ++ (encR c.m0 ++ encR c.m1)) by
              rw [HTS.out]
              unfold cellT
              rw [if_neg HC2.out, if_pos HRU.out, if_neg h0, if_neg h1])
            have S0 := Lib.hid (show Shows c.m0 from HTC.out.2.1.resolve_left h0)
            have S1 := Lib.hid (show Shows c.m1 from HTC.out.2.2.resolve_left h1)
            clear h0 h1
            go_wp2
            refine wp_loop_rounds 3 ?_
            rw [rounds_succ]
            go_wp2_with fail
            refine (rune_any b (L ++ encR 32) c.m0 w3 S0.out HIw3.out (by have := HLL.out; have := encR_le (32); simp only [List.length_append]; omega)).mono ?_
            rintro e w4 ⟨⟨_, rfl⟩, i2, b2, o2⟩
            have HIw4 := Lib.hid i2
            have HBw4 := Lib.hid (HBw3.out.trans b2)
            have HAw4 := Lib.hid (HAw3.out.others o2 HZB.out.1 b2.size)
            have HSw4 := Lib.hid (Nat.lt_of_lt_of_le HSw3.out b2.size)
            clear i2 b2 o2 HIw3 HBw3 HAw3 HSw3
            go_wp2
            rw [rounds_succ]
            go_wp2_with fail
            refine (rune_any b ((L ++ encR 32) ++ encR c.m0) c.m1 w4 S1.out HIw4.out (by have := HLL.out; have := encR_le (32); have := encR_le c.m0; simp only [List.length_append]; omega)).mono ?_
            rintro e w5 ⟨⟨_, rfl⟩, i2, b2, o2⟩
            have HIw5 := Lib.hid i2
            have HBw5 := Lib.hid (HBw4.out.trans b2)
            have HAw5 := Lib.hid (HAw4.out.others o2 HZB.out.1 b2.size)
            have HSw5 := Lib.hid (Nat.lt_of_lt_of_le HSw4.out b2.size)
            clear i2 b2 o2 HIw4 HBw4 HAw4 HSw4
            go_wp2
            rw [rounds_succ]
            go_wp2
            go_roundg (n - (k + 1))
            case rel => exact ⟨k + 1, by go_num, by omega, Nat.le_refl _, Lib.hid (by rw [HE.out]; have := HIw5.out; simpa only [List.append_assoc, List.nil_append, List.append_nil] using this), HBw5, HSw5⟩
            case measure => omega
      · have kr : (c.ru == 0) = false := by simp [hr]
        have HRU := Lib.hid hr
        have SR := Lib.hid (show Shows c.ru from HTC.out.1.resolve_left hr)
        have y0 := HA1.out.1.2.1.1
        have y3 := HA1.out.1.2.1.2.2.2.1
        have HAw2 := HA1
        have HBw2 := HB1
        have HIw2 := HI1
        have HSw2 := HS1
        clear hr HA1 HB1 HI1 HS1
        go_wp2_with fail
        refine (rune_any b L c.ru w1 SR.out HIw2.out (by have := HLL.out; omega)).mono ?_
        rintro e w3 ⟨⟨_, rfl⟩, i2, b2, o2⟩
        have HIw3 := Lib.hid i2
        have HBw3 := Lib.hid (HBw2.out.trans b2)
        have HAw3 := Lib.hid (HAw2.out.others o2 HZB.out.1 b2.size)
        have HSw3 := Lib.hid (Nat.lt_of_lt_of_le HSw2.out b2.size)
        clear i2 b2 o2 HIw2 HBw2 HAw2 HSw2
        clear y0 y3
        have y1 := HAw3.out.1.2.1.2.1
        have y2 := HAw3.out.1.2.1.2.2.1
        try dsimp only at y1 y2
        have i0 := fun w => (idx_two c.m0 c.m1 w).1
        have i1 := fun w => (idx_two c.m0 c.m1 w).2
        by_cases h0 : c.m0 = 0
        · have k0 : (c.m0 == 0) = true := by simp [h0]
          have k0n : (c.m0 != 0) = false := by simp [h0]
          by_cases h1 : c.m1 = 0
          · have k1 : (c.m1 == 0) = true := by simp [h1]
            have k1n : (c.m1 != 0) = false := by simp [h1]
            have HE := Lib.hid (show textM (R.take (k + 1)) = L ++ (encR c.ru ++ ([] ++ [])) by
              rw [HTS.out]
              unfold cellT
              rw [if_neg HC2.out, if_neg HRU.out, if_pos h0, if_pos h1])
            clear h0 h1
            go_wp2
            refine wp_loop_rounds 3 ?_
            rw [rounds_succ]
            go_wp2
            rw [rounds_succ]
            go_wp2
            rw [rounds_succ]
            go_wp2
            go_roundg (n - (k + 1))
            case rel => exact ⟨k + 1, by go_num, by omega, Nat.le_refl _, Lib.hid (by rw [HE.out]; have := HIw3.out; simpa only [List.append_assoc, List.nil_append, List.append_nil] using this), HBw3, HSw3⟩
            case measure => omega
          · have k1 : (c.m1 == 0) = false := by simp [h1]
            have k1n : (c.m1 != 0) = true := by simp [h1]
            have HE := Lib.hid (show textM (R.take (k + 1)) = L ++ (encR c.ru ++ ([] ++ encR c.m1)) by
              rw [HTS.out]
              unfold cellT
              rw [if_neg HC2.out, if_neg HRU.out, if_pos h0, if_neg h1])
            have S1 := Lib.hid (show Shows c.m1 from HTC.out.2.2.resolve_left h1)
            clear h0 h1
            go_wp2
            refine wp_loop_rounds 3 ?_
            rw [rounds_succ]
            go_wp2
            rw [rounds_succ]
            go_wp2_with fail
            refine (rune_any b (L ++ encR c.ru) c.m1 w3 S1.out HIw3.out (by have := HLL.out; have := encR_le (c.ru); have := encR_le c.m0; simp only [List.length_append]; omega)).mono ?_
            rintro e w5 ⟨⟨_, rfl⟩, i2, b2, o2⟩
            have HIw5 := Lib.hid i2
            have HBw5 := Lib.hid (HBw3.out.trans b2)
            have HAw5 := Lib.hid (HAw3.out.others o2 HZB.out.1 b2.size)
            have HSw5 := Lib.hid (Nat.lt_of_lt_of_le HSw3.out b2.size)
            clear i2 b2 o2 HIw3 HBw3 HAw3 HSw3
            go_wp2
            rw [rounds_succ]
            go_wp2
            go_roundg (n - (k + 1))
            case rel => exact ⟨k + 1, by go_num, by omega, Nat.le_refl _, Lib.hid (by rw [HE.out]; have := HIw5.out; simpa only [List.append_assoc, List.nil_append, List.append_nil] using this), HBw5, HSw5⟩
            case measure => omega
        · have k0 : (c.m0 == 0) = false := by simp [h0]
          have k0n : (c.m0 != 0) = true := by simp [h0]
          by_cases h1 : c.m1 = 0
          · have k1 : (c.m1 == 0) = true := by simp [h1]
            have k1n : (c.m1 != 0) = false := by simp [h1]
            have HE := Lib.hid (show textM (R.take (k + 1)) = L ++ (encR c.ru ++ (encR c.m0 ++ [])) by
              rw [HTS.out]
              unfold cellT
              rw [if_neg HC2.out, if_neg HRU.out, if_neg h0, if_pos h1])
            have S0 := Lib.hid (show Shows c.m0 from HTC.out.2.1.resolve_left h0)
            clear h0 h1
            go_wp2
            refine wp_loop_rounds 3 ?_
            rw [rounds_succ]
            go_wp2_with fail
            refine (rune_any b (L ++ encR c.ru) c.m0 w3 S0.out HIw3.out (by have := HLL.out; have := encR_le (c.ru); simp only [List.length_append]; omega)).mono ?_
            rintro e w4 ⟨⟨_, rfl⟩, i2, b2, o2⟩
            have HIw4 := Lib.hid i2
            have HBw4 := Lib.hid (HBw3.out.trans b2)
            have HAw4 := Lib.hid (HAw3.out.others o2 HZB.out.1 b2.size)
            have HSw4 := Lib.hid (Nat.lt_of_lt_of_le HSw3.out b2.size)
            clear i2 b2 o2 HIw3 HBw3 HAw3 HSw3
            go_wp2
            rw [rounds_succ]
            go_wp2
            rw [rounds_succ]
            go_wp2
            go_roundg (n - (k + 1))
            case rel => exact ⟨k + 1, by go_num, by omega, Nat.le_refl _, Lib.hid (by rw [HE.out]; have := HIw4.out; simpa only [List.append_assoc, List.nil_append, List.append_nil] using this), HBw4, HSw4⟩
            case measure => omega
          · have k1 : (c.m1 == 0) = false := by simp [h1]
            have k1n : (c.m1 != 0) = true := by simp [h1]
            have HE := Lib.hid (show textM (R.take (k + 1)) = L ++ (encR c.ru ++ (encR c.m0 ++ encR c.m1)) by
              rw [HTS.out]
              unfold cellT
              rw [if_neg HC2.out, if_neg HRU.out, if_neg h0, if_neg h1])
            have S0 := Lib.hid (show Shows c.m0 from HTC.out.2.1.resolve_left h0)
            have S1 := Lib.hid (show Shows c.m1 from HTC.out.2.2.resolve_left h1)
            clear h0 h1
            go_wp2
            refine wp_loop_rounds 3 ?_
            rw [rounds_succ]
            go_wp2_with fail
            refine (rune_any b (L ++ encR c.ru) c.m0 w3 S0.out HIw3.out (by have := HLL.out; have := encR_le (c.ru); simp only [List.length_append]; omega)).mono ?_
            rintro e w4 ⟨⟨_, rfl⟩, i2, b2, o2⟩
            have HIw4 := Lib.hid i2
            have HBw4 := Lib.hid (HBw3.out.trans b2)
            have HAw4 := Lib.hid (HAw3.out.others o2 HZB.out.1 b2.size)
            have HSw4 := Lib.hid (Nat.lt_of_lt_of_le HSw3.out b2.size)
            clear i2 b2 o2 HIw3 HBw3 HAw3 HSw3
            go_wp2
            rw [rounds_succ]
            go_wp2_with fail
            refine (rune_any b ((L ++ encR c.ru) ++ encR c.m0) c.m1 w4 S1.out HIw4.out (by have := HLL.out; have := encR_le (c.ru); have := encR_le c.m0; simp only [List.length_append]; omega)).mono ?_
            rintro e w5 ⟨⟨_, rfl⟩, i2, b2, o2⟩
            have HIw5 := Lib.hid i2
            have HBw5 := Lib.hid (HBw4.out.trans b2)
            have HAw5 := Lib.hid (HAw4.out.others o2 HZB.out.1 b2.size)
            have HSw5 := Lib.hid (Nat.lt_of_lt_of_le HSw4.out b2.size)
            clear i2 b2 o2 HIw4 HBw4 HAw4 HSw4
            go_wp2
            rw [rounds_succ]
            go_wp2
            go_roundg (n - (k + 1))
            case rel => exact ⟨k + 1, by go_num, by omega, Nat.le_refl _, Lib.hid (by rw [HE.out]; have := HIw5.out; simpa only [List.append_assoc, List.nil_append, List.append_nil] using this), HBw5, HSw5⟩
            case measure => omega
    · obtain rfl : k = n := by omega
      have HX := Lib.hid (show IsB b (textM R) wr by have := HI.out; rw [HN.out, List.take_length] at this; exact this)
      have HSB := Lib.hid (Try.Builder_String_any b b (textM R) wr HX.out (Nat.le_of_lt HS.out))
      clear HI HX
      go_wp2_with fail
      refine HSB.out.mono ?_
      rintro e w5 ⟨rfl, b5⟩
      have HB5 := Lib.hid (HB.out.trans b5)
      clear b5 HSB
      go_wp2
      go_ret
      exact ⟨rfl, by rw [← HBS.out]; exact HB5.out⟩
end Go.Proofs.Ytnefamgjlhdffaa.Lab
