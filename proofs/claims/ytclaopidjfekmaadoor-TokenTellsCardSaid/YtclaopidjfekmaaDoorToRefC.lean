/- The document's answer: Right. -/
import Derived.Test.YtclaopidjfekmaaDoorToRefB
namespace Go.Proofs.YtclaopidjfekmaaDoor.Lab
open Go Go.RowKit

theorem emp (s : ByteArray) : s.toList.isEmpty = true ↔ s = none0 := by rw [toL, List.isEmpty_iff, bl_nil]
theorem right0 (r p f : Int) (P : Rws) (i d : ByteArray) : rightB ⟨0, r, p, P, i, f, d⟩ = (onlyP p f P.length i d && prnB r) := by
  rw [Bool.eq_iff_iff]
  simp only [rightB, if_true, onlyP, Bool.and_eq_true, same_iff, tok_eq, decide_eq_true_eq, List.length_eq_zero_iff, emp]
  constructor
  · rintro ⟨a, _, _, b, c, d, e, f⟩
    exact ⟨⟨b, c, d, e, f⟩, a⟩
  · rintro ⟨⟨b, c, d, e, f⟩, a⟩
    exact ⟨a, trivial, trivial, b, c, d, e, f⟩
theorem right1 (r p f : Int) (P : Rws) (i d : ByteArray) : rightB ⟨1, r, p, P, i, f, d⟩ = (onlyC r p P.length i d && ctlB f) := by
  rw [Bool.eq_iff_iff]
  simp only [rightB, onlyC, Bool.and_eq_true, same_iff, tok_eq, decide_eq_true_eq, List.length_eq_zero_iff, emp, show ¬ (1 : Int) = 0 by omega, if_false, if_true]
  constructor
  · rintro ⟨a, _, b, c, d, e, _, f⟩
    exact ⟨⟨b, c, d, e, f⟩, a⟩
  · rintro ⟨⟨b, c, d, e, f⟩, a⟩
    exact ⟨a, trivial, b, c, d, e, trivial, f⟩
theorem right2 (r p f : Int) (P : Rws) (i d : ByteArray) : rightB ⟨2, r, p, P, i, f, d⟩ = (onlyE r p P.length d && escB i f) := by
  rw [Bool.eq_iff_iff]
  simp only [rightB, onlyE, Bool.and_eq_true, same_iff, tok_eq, decide_eq_true_eq, List.length_eq_zero_iff, emp, show ¬ (2 : Int) = 0 by omega, show ¬ (2 : Int) = 1 by omega, if_false, if_true]
  constructor
  · rintro ⟨a, _, b, c, d, _, _, e⟩
    exact ⟨⟨b, c, d, e⟩, a⟩
  · rintro ⟨⟨b, c, d, e⟩, a⟩
    exact ⟨a, trivial, b, c, d, trivial, trivial, e⟩
theorem right3 (r p f : Int) (P : Rws) (i d : ByteArray) : rightB ⟨3, r, p, P, i, f, d⟩ = (onlyS r d && hdB p P i f) := by
  rw [Bool.eq_iff_iff]
  simp only [rightB, onlyS, Bool.and_eq_true, same_iff, tok_eq, decide_eq_true_eq, emp, show ¬ (3 : Int) = 0 by omega, show ¬ (3 : Int) = 1 by omega, show ¬ (3 : Int) = 2 by omega, if_false, if_true]
  constructor
  · rintro ⟨a, _, b, _, _, _, _, e⟩
    exact ⟨⟨b, e⟩, a⟩
  · rintro ⟨⟨b, e⟩, a⟩
    exact ⟨a, trivial, b, trivial, trivial, trivial, trivial, e⟩
theorem right4 (r p f : Int) (P : Rws) (i d : ByteArray) : rightB ⟨4, r, p, P, i, f, d⟩ = (onlyO r p f P.length i && datB d) := by
  rw [Bool.eq_iff_iff]
  simp only [rightB, onlyO, Bool.and_eq_true, same_iff, tok_eq, decide_eq_true_eq, List.length_eq_zero_iff, emp, show ¬ (4 : Int) = 0 by omega, show ¬ (4 : Int) = 1 by omega, show ¬ (4 : Int) = 2 by omega, show ¬ (4 : Int) = 3 by omega, if_false, if_true]
  constructor
  · rintro ⟨a, _, b, c, d, e, f, _⟩
    exact ⟨⟨b, c, d, e, f⟩, a⟩
  · rintro ⟨⟨b, c, d, e, f⟩, a⟩
    exact ⟨a, trivial, b, c, d, e, f, trivial⟩
theorem right5 (r p f : Int) (P : Rws) (i d : ByteArray) : rightB ⟨5, r, p, P, i, f, d⟩ = (onlyD r && hdB p P i f && datB d) := by
  rw [Bool.eq_iff_iff]
  simp only [rightB, onlyD, Bool.and_eq_true, same_iff, tok_eq, decide_eq_true_eq, show ¬ (5 : Int) = 0 by omega, show ¬ (5 : Int) = 1 by omega, show ¬ (5 : Int) = 2 by omega, show ¬ (5 : Int) = 3 by omega, show ¬ (5 : Int) = 4 by omega, if_false, if_true]
  constructor
  · rintro ⟨⟨a, c⟩, _, b, _⟩
    exact ⟨⟨b, a⟩, c⟩
  · rintro ⟨⟨b, a⟩, c⟩
    exact ⟨⟨a, c⟩, trivial, b, trivial, trivial, trivial, trivial, trivial⟩
theorem right_no {k r p f : Int} {P : Rws} {i d : ByteArray} (h : k < 0 ∨ 5 < k) : rightB ⟨k, r, p, P, i, f, d⟩ = false := by
  unfold rightB
  simp only
  rw [if_neg (by omega), if_neg (by omega), if_neg (by omega), if_neg (by omega), if_neg (by omega), if_neg (by omega)]
theorem ret_b {a b : Bool} (h : a = b) : Ending.returned (.bool a) = .returned (.bool b) := by rw [h]

set_option maxHeartbeats 8000000 in
set_option maxRecDepth 100000 in
theorem rright0_any (r p f : Int) (va : Option Addr) (vn vc : Nat) (P : Rws) (i d : ByteArray) (w : World) (hn : P.length = vn) (hM : MatAt w (.slice va vn vc) P) (hi : i.size ≤ maxLen) (hd : d.size ≤ maxLen) (_hf : 0 ≤ f ∧ f ≤ 255) :
    Calls Tryd.prog 12 #[tok7 0 r p (.slice va vn vc) i f d] w fun e w' => e = .returned (.bool (rightB ⟨0, r, p, P, i, f, d⟩)) ∧ Below w.heap.size w w' := by
  have HB0 := Lib.hid (show Below w.heap.size w (w.alloc (.cells #[.int .i64 0, .int .i32 r, .int .u8 p, .slice va vn vc, .string i, .int .u8 f, .string d] 27)) from (Below.refl _ _).alloc (Nat.le_refl _) _)
  have HT := Lib.hid (T7.newAt w w.heap.size rfl (.int .i64 0) (.int .i32 r) (.int .u8 p) (.slice va vn vc) (.string i) (.int .u8 f) (.string d) 27)
  have HN := Lib.hid hn
  have HM := Lib.hid (hM.below HB0.out)
  have HI := Lib.hid hi
  have HD := Lib.hid hd
  obtain ⟨q, hq⟩ : ∃ q, onlyP p f vn i d = q := ⟨_, rfl⟩
  have HQ := Lib.hid hq
  have HE := Lib.hid (right0 r p f P i d)
  rw [HN.out] at HE
  clear hn hM hi hd hq
  go_enter Tryd.func12, Tryd.ntmps12
  go_wp2_with fail
  refine (onlyP_any 0 r p f va vn vc i d _).mono ?_
  rintro e w2 ⟨rfl, b2⟩
  rw [HQ.out]
  have HB2 := Lib.hid (HB0.out.trans (b2.mono HB0.out.size))
  have HM2 := Lib.hid (HM.out.below b2)
  obtain ⟨hlt, ⟨c0, c1, c2, c3, c4, c5, c6⟩, _⟩ := HT.out.below b2
  clear b2 HT HM HB0
  cases q
  · go_wp2
    go_ret
    exact ⟨ret_b (by rw [HE.out, HQ.out]; rfl), HB2.out⟩
  · obtain ⟨s, hs⟩ : ∃ s, Utf8.valid r = s := ⟨_, rfl⟩
    have HS := Lib.hid hs
    clear hs
    have HPR := Lib.hid (show prnB r = (Utf8.valid r && decide (32 ≤ r) && !btw 127 159 r) from rfl)
    cases s
    · go_wp2_with fail
      refine (ris_any r _).mono ?_
      rintro e wx ⟨rfl, rfl⟩
      rw [HS.out]
      go_wp2
      go_ret
      exact ⟨ret_b (by rw [HE.out, HQ.out, Bool.true_and]; rw [HPR.out, HS.out]; rfl), HB2.out⟩
    · by_cases h1 : r < 32
      · go_wp2_with fail
        refine (ris_any r _).mono ?_
        rintro e wx ⟨rfl, rfl⟩
        rw [HS.out]
        go_wp2
        go_ret
        exact ⟨ret_b (by rw [HE.out, HQ.out, Bool.true_and]; rw [HPR.out, HS.out, decide_eq_false (by omega)]; rfl), HB2.out⟩
      · have f1 : decide ((32 : Int) ≤ r) = true := by simp; omega
        by_cases h2 : r < 127
        · go_wp2_with fail
          refine (ris_any r _).mono ?_
          rintro e wx ⟨rfl, rfl⟩
          rw [HS.out]
          go_wp2
          go_ret
          exact ⟨ret_b (by rw [HE.out, HQ.out, Bool.true_and]; rw [HPR.out, HS.out, f1, btw, decide_eq_false (by omega)]; rfl), HB2.out⟩
        · have f2 : decide (r < 127) = false := by simp; omega
          by_cases h3 : 159 < r
          · go_wp2_with fail
            refine (ris_any r _).mono ?_
            rintro e wx ⟨rfl, rfl⟩
            rw [HS.out]
            go_wp2
            go_ret
            exact ⟨ret_b (by rw [HE.out, HQ.out, Bool.true_and]; rw [HPR.out, HS.out, f1, btw, decide_eq_false (by omega)]; rfl), HB2.out⟩
          · have f3 : decide ((159 : Int) < r) = false := by simp; omega
            go_wp2_with fail
            refine (ris_any r _).mono ?_
            rintro e wx ⟨rfl, rfl⟩
            rw [HS.out]
            go_wp2
            go_ret
            exact ⟨ret_b (by rw [HE.out, HQ.out, Bool.true_and]; rw [HPR.out, HS.out, f1, btw, decide_eq_true (by omega)]; rfl), HB2.out⟩

set_option maxHeartbeats 8000000 in
set_option maxRecDepth 100000 in
theorem rright1_any (r p f : Int) (va : Option Addr) (vn vc : Nat) (P : Rws) (i d : ByteArray) (w : World) (hn : P.length = vn) (hM : MatAt w (.slice va vn vc) P) (hi : i.size ≤ maxLen) (hd : d.size ≤ maxLen) (hf : 0 ≤ f ∧ f ≤ 255) :
    Calls Tryd.prog 12 #[tok7 1 r p (.slice va vn vc) i f d] w fun e w' => e = .returned (.bool (rightB ⟨1, r, p, P, i, f, d⟩)) ∧ Below w.heap.size w w' := by
  have HB0 := Lib.hid (show Below w.heap.size w (w.alloc (.cells #[.int .i64 1, .int .i32 r, .int .u8 p, .slice va vn vc, .string i, .int .u8 f, .string d] 27)) from (Below.refl _ _).alloc (Nat.le_refl _) _)
  have HT := Lib.hid (T7.newAt w w.heap.size rfl (.int .i64 1) (.int .i32 r) (.int .u8 p) (.slice va vn vc) (.string i) (.int .u8 f) (.string d) 27)
  have HN := Lib.hid hn
  have HM := Lib.hid (hM.below HB0.out)
  have HI := Lib.hid hi
  have HD := Lib.hid hd
  obtain ⟨q, hq⟩ : ∃ q, onlyC r p vn i d = q := ⟨_, rfl⟩
  have HQ := Lib.hid hq
  have HE := Lib.hid (right1 r p f P i d)
  rw [HN.out] at HE
  clear hn hM hi hd hq
  go_enter Tryd.func12, Tryd.ntmps12
  go_wp2_with fail
  refine (onlyC_any 1 r p f va vn vc i d _).mono ?_
  rintro e w2 ⟨rfl, b2⟩
  rw [HQ.out]
  have HB2 := Lib.hid (HB0.out.trans (b2.mono HB0.out.size))
  have HM2 := Lib.hid (HM.out.below b2)
  obtain ⟨hlt, ⟨c0, c1, c2, c3, c4, c5, c6⟩, _⟩ := HT.out.below b2
  clear b2 HT HM HB0
  cases q
  · go_wp2
    go_ret
    exact ⟨ret_b (by rw [HE.out, HQ.out]; rfl), HB2.out⟩
  · have HC := Lib.hid (show ctlB f = decide (f < 32 ∧ f ≠ 24 ∧ f ≠ 26 ∧ f ≠ 27) from rfl)
    by_cases h1 : f < 32
    · by_cases h2 : f = 24
      · have e1 : (f != 24) = false := by simpa using h2
        have e2 : (f == 24) = true := by simpa using h2
        have HF := Lib.hid h2
        clear h2
        go_wp2
        go_ret
        exact ⟨ret_b (by rw [HE.out, HQ.out, Bool.true_and]; rw [HC.out, decide_eq_false (by have := HF.out; omega)]), HB2.out⟩
      · have e1 : (f != 24) = true := by simpa using h2
        have e2 : (f == 24) = false := by simpa using h2
        by_cases h3 : f = 26
        · have e3 : (f != 26) = false := by simpa using h3
          have e4 : (f == 26) = true := by simpa using h3
          have HF := Lib.hid h3
          clear h3
          go_wp2
          go_ret
          exact ⟨ret_b (by rw [HE.out, HQ.out, Bool.true_and]; rw [HC.out, decide_eq_false (by have := HF.out; omega)]), HB2.out⟩
        · have e3 : (f != 26) = true := by simpa using h3
          have e4 : (f == 26) = false := by simpa using h3
          by_cases h4 : f = 27
          · have e5 : (f != 27) = false := by simpa using h4
            have e6 : (f == 27) = true := by simpa using h4
            have HF := Lib.hid h4
            clear h4
            go_wp2
            go_ret
            exact ⟨ret_b (by rw [HE.out, HQ.out, Bool.true_and]; rw [HC.out, decide_eq_false (by have := HF.out; omega)]), HB2.out⟩
          · have e5 : (f != 27) = true := by simpa using h4
            have e6 : (f == 27) = false := by simpa using h4
            go_wp2
            go_ret
            exact ⟨ret_b (by rw [HE.out, HQ.out, Bool.true_and]; rw [HC.out, decide_eq_true (by omega)]), HB2.out⟩
    · have f1 : decide (f < 32) = false := by simp; omega
      go_wp2
      go_ret
      exact ⟨ret_b (by rw [HE.out, HQ.out, Bool.true_and]; rw [HC.out, decide_eq_false (by omega)]), HB2.out⟩

set_option maxHeartbeats 8000000 in
set_option maxRecDepth 100000 in
theorem rright2_any (r p f : Int) (va : Option Addr) (vn vc : Nat) (P : Rws) (i d : ByteArray) (w : World) (hn : P.length = vn) (hM : MatAt w (.slice va vn vc) P) (hi : i.size ≤ maxLen) (hd : d.size ≤ maxLen) (hf : 0 ≤ f ∧ f ≤ 255) :
    Calls Tryd.prog 12 #[tok7 2 r p (.slice va vn vc) i f d] w fun e w' => e = .returned (.bool (rightB ⟨2, r, p, P, i, f, d⟩)) ∧ Below w.heap.size w w' := by
  have HB0 := Lib.hid (show Below w.heap.size w (w.alloc (.cells #[.int .i64 2, .int .i32 r, .int .u8 p, .slice va vn vc, .string i, .int .u8 f, .string d] 27)) from (Below.refl _ _).alloc (Nat.le_refl _) _)
  have HT := Lib.hid (T7.newAt w w.heap.size rfl (.int .i64 2) (.int .i32 r) (.int .u8 p) (.slice va vn vc) (.string i) (.int .u8 f) (.string d) 27)
  have HN := Lib.hid hn
  have HM := Lib.hid (hM.below HB0.out)
  have HI := Lib.hid hi
  have HD := Lib.hid hd
  obtain ⟨q, hq⟩ : ∃ q, onlyE r p vn d = q := ⟨_, rfl⟩
  have HQ := Lib.hid hq
  have HE := Lib.hid (right2 r p f P i d)
  rw [HN.out] at HE
  clear hn hM hi hd hq
  go_enter Tryd.func12, Tryd.ntmps12
  go_wp2_with fail
  refine (onlyE_any 2 r p f va vn vc i d _).mono ?_
  rintro e w2 ⟨rfl, b2⟩
  rw [HQ.out]
  have HB2 := Lib.hid (HB0.out.trans (b2.mono HB0.out.size))
  have HM2 := Lib.hid (HM.out.below b2)
  obtain ⟨hlt, ⟨c0, c1, c2, c3, c4, c5, c6⟩, _⟩ := HT.out.below b2
  clear b2 HT HM HB0
  cases q
  · go_wp2
    go_ret
    exact ⟨ret_b (by rw [HE.out, HQ.out]; rfl), HB2.out⟩
  · obtain ⟨q3, hq3⟩ : ∃ q, intB i = q := ⟨_, rfl⟩
    have H3 := Lib.hid hq3
    have HES := Lib.hid (show escB i f = (intB i && btw 48 126 f && !(i.toList.isEmpty && opnB f)) from rfl)
    clear hq3
    cases q3
    · go_wp2_with fail
      refine (rinter_any i HI.out _).mono ?_
      rintro e wx ⟨rfl, rfl⟩
      rw [H3.out]
      go_wp2
      go_ret
      exact ⟨ret_b (by rw [HE.out, HQ.out, Bool.true_and]; rw [HES.out, H3.out]; rfl), HB2.out⟩
    · by_cases h1 : f < 48
      · go_wp2_with fail
        refine (rinter_any i HI.out _).mono ?_
        rintro e wx ⟨rfl, rfl⟩
        rw [H3.out]
        go_wp2
        go_ret
        exact ⟨ret_b (by rw [HE.out, HQ.out, Bool.true_and]; rw [HES.out, H3.out, btw, decide_eq_false (by omega)]; rfl), HB2.out⟩
      · have f1 : decide (f < 48) = false := by simp; omega
        by_cases h2 : 126 < f
        · go_wp2_with fail
          refine (rinter_any i HI.out _).mono ?_
          rintro e wx ⟨rfl, rfl⟩
          rw [H3.out]
          go_wp2
          go_ret
          exact ⟨ret_b (by rw [HE.out, HQ.out, Bool.true_and]; rw [HES.out, H3.out, btw, decide_eq_false (by omega)]; rfl), HB2.out⟩
        · have f2 : decide ((126 : Int) < f) = false := by simp; omega
          have HBT := Lib.hid (show btw 48 126 f = true from btw_yes (by omega) (by omega))
          obtain ⟨s, hs⟩ : ∃ s, i.toList.isEmpty = s := ⟨_, rfl⟩
          cases s
          · have HS := Lib.hid hs
            go_wp2_with fail
            refine (rinter_any i HI.out _).mono ?_
            rintro e wx ⟨rfl, rfl⟩
            rw [H3.out]
            go_wp2
            go_ret
            exact ⟨ret_b (by rw [HE.out, HQ.out, Bool.true_and]; rw [HES.out, H3.out, HBT.out, HS.out]; rfl), HB2.out⟩
          · have HS := Lib.hid hs
            have HOP := Lib.hid (opn_iff (c := f) hf.1 hf.2)
            by_cases g80 : f = 80
            case pos =>
              have HOB := Lib.hid (show opnB f = true from HOP.out.2 (by unfold opener; omega))
              have e1 : (f != 80) = false := by simpa using g80
              have e2 : (f == 80) = true := by simpa using g80
              clear g80
              go_wp2_with fail
              refine (rinter_any i HI.out _).mono ?_
              rintro e wx ⟨rfl, rfl⟩
              rw [H3.out]
              go_wp2
              go_ret
              exact ⟨ret_b (by rw [HE.out, HQ.out, Bool.true_and]; rw [HES.out, H3.out, HBT.out, HS.out, HOB.out]; rfl), HB2.out⟩
            have p80 : (f != 80) = true := by simpa using g80
            have m80 : (f == 80) = false := by simpa using g80
            by_cases g88 : f = 88
            case pos =>
              have HOB := Lib.hid (show opnB f = true from HOP.out.2 (by unfold opener; omega))
              have e1 : (f != 88) = false := by simpa using g88
              have e2 : (f == 88) = true := by simpa using g88
              clear g88
              go_wp2_with fail
              refine (rinter_any i HI.out _).mono ?_
              rintro e wx ⟨rfl, rfl⟩
              rw [H3.out]
              go_wp2
              go_ret
              exact ⟨ret_b (by rw [HE.out, HQ.out, Bool.true_and]; rw [HES.out, H3.out, HBT.out, HS.out, HOB.out]; rfl), HB2.out⟩
            have p88 : (f != 88) = true := by simpa using g88
            have m88 : (f == 88) = false := by simpa using g88
            by_cases g91 : f = 91
            case pos =>
              have HOB := Lib.hid (show opnB f = true from HOP.out.2 (by unfold opener; omega))
              have e1 : (f != 91) = false := by simpa using g91
              have e2 : (f == 91) = true := by simpa using g91
              clear g91
              go_wp2_with fail
              refine (rinter_any i HI.out _).mono ?_
              rintro e wx ⟨rfl, rfl⟩
              rw [H3.out]
              go_wp2
              go_ret
              exact ⟨ret_b (by rw [HE.out, HQ.out, Bool.true_and]; rw [HES.out, H3.out, HBT.out, HS.out, HOB.out]; rfl), HB2.out⟩
            have p91 : (f != 91) = true := by simpa using g91
            have m91 : (f == 91) = false := by simpa using g91
            by_cases g93 : f = 93
            case pos =>
              have HOB := Lib.hid (show opnB f = true from HOP.out.2 (by unfold opener; omega))
              have e1 : (f != 93) = false := by simpa using g93
              have e2 : (f == 93) = true := by simpa using g93
              clear g93
              go_wp2_with fail
              refine (rinter_any i HI.out _).mono ?_
              rintro e wx ⟨rfl, rfl⟩
              rw [H3.out]
              go_wp2
              go_ret
              exact ⟨ret_b (by rw [HE.out, HQ.out, Bool.true_and]; rw [HES.out, H3.out, HBT.out, HS.out, HOB.out]; rfl), HB2.out⟩
            have p93 : (f != 93) = true := by simpa using g93
            have m93 : (f == 93) = false := by simpa using g93
            by_cases g94 : f = 94
            case pos =>
              have HOB := Lib.hid (show opnB f = true from HOP.out.2 (by unfold opener; omega))
              have e1 : (f != 94) = false := by simpa using g94
              have e2 : (f == 94) = true := by simpa using g94
              clear g94
              go_wp2_with fail
              refine (rinter_any i HI.out _).mono ?_
              rintro e wx ⟨rfl, rfl⟩
              rw [H3.out]
              go_wp2
              go_ret
              exact ⟨ret_b (by rw [HE.out, HQ.out, Bool.true_and]; rw [HES.out, H3.out, HBT.out, HS.out, HOB.out]; rfl), HB2.out⟩
            have p94 : (f != 94) = true := by simpa using g94
            have m94 : (f == 94) = false := by simpa using g94
            by_cases g95 : f = 95
            case pos =>
              have HOB := Lib.hid (show opnB f = true from HOP.out.2 (by unfold opener; omega))
              have e1 : (f != 95) = false := by simpa using g95
              have e2 : (f == 95) = true := by simpa using g95
              clear g95
              go_wp2_with fail
              refine (rinter_any i HI.out _).mono ?_
              rintro e wx ⟨rfl, rfl⟩
              rw [H3.out]
              go_wp2
              go_ret
              exact ⟨ret_b (by rw [HE.out, HQ.out, Bool.true_and]; rw [HES.out, H3.out, HBT.out, HS.out, HOB.out]; rfl), HB2.out⟩
            have p95 : (f != 95) = true := by simpa using g95
            have m95 : (f == 95) = false := by simpa using g95
            have HOB := Lib.hid (show opnB f = false by rw [← Bool.not_eq_true, HOP.out]; unfold opener; omega)
            go_wp2_with fail
            refine (rinter_any i HI.out _).mono ?_
            rintro e wx ⟨rfl, rfl⟩
            rw [H3.out]
            go_wp2
            go_ret
            exact ⟨ret_b (by rw [HE.out, HQ.out, Bool.true_and]; rw [HES.out, H3.out, HBT.out, HS.out, HOB.out]; rfl), HB2.out⟩

set_option maxHeartbeats 8000000 in
set_option maxRecDepth 100000 in
theorem rright3_any (r p f : Int) (va : Option Addr) (vn vc : Nat) (P : Rws) (i d : ByteArray) (w : World) (hn : P.length = vn) (hM : MatAt w (.slice va vn vc) P) (hi : i.size ≤ maxLen) (hd : d.size ≤ maxLen) (_hf : 0 ≤ f ∧ f ≤ 255) :
    Calls Tryd.prog 12 #[tok7 3 r p (.slice va vn vc) i f d] w fun e w' => e = .returned (.bool (rightB ⟨3, r, p, P, i, f, d⟩)) ∧ Below w.heap.size w w' := by
  have HB0 := Lib.hid (show Below w.heap.size w (w.alloc (.cells #[.int .i64 3, .int .i32 r, .int .u8 p, .slice va vn vc, .string i, .int .u8 f, .string d] 27)) from (Below.refl _ _).alloc (Nat.le_refl _) _)
  have HT := Lib.hid (T7.newAt w w.heap.size rfl (.int .i64 3) (.int .i32 r) (.int .u8 p) (.slice va vn vc) (.string i) (.int .u8 f) (.string d) 27)
  have HN := Lib.hid hn
  have HM := Lib.hid (hM.below HB0.out)
  have HI := Lib.hid hi
  have HD := Lib.hid hd
  obtain ⟨q, hq⟩ : ∃ q, onlyS r d = q := ⟨_, rfl⟩
  have HQ := Lib.hid hq
  have HE := Lib.hid (right3 r p f P i d)

  clear hn hM hi hd hq
  go_enter Tryd.func12, Tryd.ntmps12
  go_wp2_with fail
  refine (onlyS_any 3 r p f va vn vc i d _).mono ?_
  rintro e w2 ⟨rfl, b2⟩
  rw [HQ.out]
  have HB2 := Lib.hid (HB0.out.trans (b2.mono HB0.out.size))
  have HM2 := Lib.hid (HM.out.below b2)
  obtain ⟨hlt, ⟨c0, c1, c2, c3, c4, c5, c6⟩, _⟩ := HT.out.below b2
  clear b2 HT HM HB0
  cases q
  · go_wp2
    go_ret
    exact ⟨ret_b (by rw [HE.out, HQ.out]; rfl), HB2.out⟩
  · go_wp2_with fail
    refine (rhead_any 3 r p f _ P i d _ HM2.out HI.out).mono ?_
    rintro e w3 ⟨rfl, b3⟩
    have HB3 := Lib.hid (HB2.out.trans (b3.mono HB2.out.size))
    clear b3
    go_wp2
    go_ret
    exact ⟨ret_b (by rw [HE.out, HQ.out, Bool.true_and]), HB3.out⟩

set_option maxHeartbeats 8000000 in
set_option maxRecDepth 100000 in
theorem rright4_any (r p f : Int) (va : Option Addr) (vn vc : Nat) (P : Rws) (i d : ByteArray) (w : World) (hn : P.length = vn) (hM : MatAt w (.slice va vn vc) P) (hi : i.size ≤ maxLen) (hd : d.size ≤ maxLen) (_hf : 0 ≤ f ∧ f ≤ 255) :
    Calls Tryd.prog 12 #[tok7 4 r p (.slice va vn vc) i f d] w fun e w' => e = .returned (.bool (rightB ⟨4, r, p, P, i, f, d⟩)) ∧ Below w.heap.size w w' := by
  have HB0 := Lib.hid (show Below w.heap.size w (w.alloc (.cells #[.int .i64 4, .int .i32 r, .int .u8 p, .slice va vn vc, .string i, .int .u8 f, .string d] 27)) from (Below.refl _ _).alloc (Nat.le_refl _) _)
  have HT := Lib.hid (T7.newAt w w.heap.size rfl (.int .i64 4) (.int .i32 r) (.int .u8 p) (.slice va vn vc) (.string i) (.int .u8 f) (.string d) 27)
  have HN := Lib.hid hn
  have HM := Lib.hid (hM.below HB0.out)
  have HI := Lib.hid hi
  have HD := Lib.hid hd
  obtain ⟨q, hq⟩ : ∃ q, onlyO r p f vn i = q := ⟨_, rfl⟩
  have HQ := Lib.hid hq
  have HE := Lib.hid (right4 r p f P i d)
  rw [HN.out] at HE
  clear hn hM hi hd hq
  go_enter Tryd.func12, Tryd.ntmps12
  go_wp2_with fail
  refine (onlyO_any 4 r p f va vn vc i d _).mono ?_
  rintro e w2 ⟨rfl, b2⟩
  rw [HQ.out]
  have HB2 := Lib.hid (HB0.out.trans (b2.mono HB0.out.size))
  have HM2 := Lib.hid (HM.out.below b2)
  obtain ⟨hlt, ⟨c0, c1, c2, c3, c4, c5, c6⟩, _⟩ := HT.out.below b2
  clear b2 HT HM HB0
  cases q
  · go_wp2
    go_ret
    exact ⟨ret_b (by rw [HE.out, HQ.out]; rfl), HB2.out⟩
  · go_wp2_with fail
    refine (rdata_any d _ HD.out).mono ?_
    rintro e w3 ⟨rfl, rfl⟩
    go_wp2
    go_ret
    exact ⟨ret_b (by rw [HE.out, HQ.out, Bool.true_and]), HB2.out⟩

set_option maxHeartbeats 8000000 in
set_option maxRecDepth 100000 in
theorem rright5_any (r p f : Int) (va : Option Addr) (vn vc : Nat) (P : Rws) (i d : ByteArray) (w : World) (hn : P.length = vn) (hM : MatAt w (.slice va vn vc) P) (hi : i.size ≤ maxLen) (hd : d.size ≤ maxLen) (_hf : 0 ≤ f ∧ f ≤ 255) :
    Calls Tryd.prog 12 #[tok7 5 r p (.slice va vn vc) i f d] w fun e w' => e = .returned (.bool (rightB ⟨5, r, p, P, i, f, d⟩)) ∧ Below w.heap.size w w' := by
  have HB0 := Lib.hid (show Below w.heap.size w (w.alloc (.cells #[.int .i64 5, .int .i32 r, .int .u8 p, .slice va vn vc, .string i, .int .u8 f, .string d] 27)) from (Below.refl _ _).alloc (Nat.le_refl _) _)
  have HT := Lib.hid (T7.newAt w w.heap.size rfl (.int .i64 5) (.int .i32 r) (.int .u8 p) (.slice va vn vc) (.string i) (.int .u8 f) (.string d) 27)
  have HN := Lib.hid hn
  have HM := Lib.hid (hM.below HB0.out)
  have HI := Lib.hid hi
  have HD := Lib.hid hd
  obtain ⟨q, hq⟩ : ∃ q, onlyD r = q := ⟨_, rfl⟩
  have HQ := Lib.hid hq
  have HE := Lib.hid (right5 r p f P i d)

  clear hn hM hi hd hq
  go_enter Tryd.func12, Tryd.ntmps12
  go_wp2_with fail
  refine (onlyD_any 5 r p f va vn vc i d _).mono ?_
  rintro e w2 ⟨rfl, b2⟩
  rw [HQ.out]
  have HB2 := Lib.hid (HB0.out.trans (b2.mono HB0.out.size))
  have HM2 := Lib.hid (HM.out.below b2)
  obtain ⟨hlt, ⟨c0, c1, c2, c3, c4, c5, c6⟩, _⟩ := HT.out.below b2
  clear b2 HT HM HB0
  cases q
  · go_wp2
    go_ret
    exact ⟨ret_b (by rw [HE.out, HQ.out]; rfl), HB2.out⟩
  · obtain ⟨s, hs⟩ : ∃ s, hdB p P i f = s := ⟨_, rfl⟩
    have HS := Lib.hid hs
    clear hs
    go_wp2_with fail
    refine (rhead_any 5 r p f _ P i d _ HM2.out HI.out).mono ?_
    rintro e w3 ⟨rfl, b3⟩
    rw [HS.out]
    have HB3 := Lib.hid (HB2.out.trans (b3.mono HB2.out.size))
    have c7 := Keeps.of b3 _ _ _ c6
    clear b3
    cases s
    · go_wp2
      go_ret
      exact ⟨ret_b (by rw [HE.out, HQ.out, Bool.true_and, HS.out]; rfl), HB3.out⟩
    · go_wp2_with fail
      refine (rdata_any d _ HD.out).mono ?_
      rintro e w4 ⟨rfl, rfl⟩
      go_wp2
      go_ret
      exact ⟨ret_b (by rw [HE.out, HQ.out, Bool.true_and, HS.out]; rfl), HB3.out⟩

set_option maxHeartbeats 4000000 in
set_option maxRecDepth 100000 in
theorem rright_no (k r p f : Int) (va : Option Addr) (vn vc : Nat) (P : Rws) (i d : ByteArray) (w : World) (h : k < 0 ∨ 5 < k) :
    Calls Tryd.prog 12 #[tok7 k r p (.slice va vn vc) i f d] w fun e w' => e = .returned (.bool (rightB ⟨k, r, p, P, i, f, d⟩)) ∧ Below w.heap.size w w' := by
  have HE := Lib.hid (right_no (r := r) (p := p) (f := f) (P := P) (i := i) (d := d) h)
  have e0 : (k == 0) = false := by simp; omega
  have e1 : (k == 1) = false := by simp; omega
  have e2 : (k == 2) = false := by simp; omega
  have e3 : (k == 3) = false := by simp; omega
  have e4 : (k == 4) = false := by simp; omega
  have e5 : (k == 5) = false := by simp; omega
  clear h
  go_enter Tryd.func12, Tryd.ntmps12
  go_wp2
  go_ret
  exact ⟨ret_b (by rw [HE.out]), (Below.refl _ _).alloc (Nat.le_refl _) _⟩
theorem rright_any (k r p f : Int) (v : Value) (P : Rws) (i d : ByteArray) (w : World) (hM : MatAt w v P) (hi : i.size ≤ maxLen) (hd : d.size ≤ maxLen) (hf : 0 ≤ f ∧ f ≤ 255) :
    Calls Tryd.prog 12 #[tok7 k r p v i f d] w fun e w' => e = .returned (.bool (rightB ⟨k, r, p, P, i, f, d⟩)) ∧ Below w.heap.size w w' := by
  obtain ⟨va, vc, rfl, hm, hc⟩ := hM
  have hM : MatAt w (.slice va P.length vc) P := ⟨va, vc, rfl, hm, hc⟩
  by_cases h0 : k = 0
  · subst h0
    exact rright0_any r p f va _ vc P i d w rfl hM hi hd hf
  by_cases h1 : k = 1
  · subst h1
    exact rright1_any r p f va _ vc P i d w rfl hM hi hd hf
  by_cases h2 : k = 2
  · subst h2
    exact rright2_any r p f va _ vc P i d w rfl hM hi hd hf
  by_cases h3 : k = 3
  · subst h3
    exact rright3_any r p f va _ vc P i d w rfl hM hi hd hf
  by_cases h4 : k = 4
  · subst h4
    exact rright4_any r p f va _ vc P i d w rfl hM hi hd hf
  by_cases h5 : k = 5
  · subst h5
    exact rright5_any r p f va _ vc P i d w rfl hM hi hd hf
  exact rright_no k r p f va _ vc P i d w (by omega)
end Go.Proofs.YtclaopidjfekmaaDoor.Lab
