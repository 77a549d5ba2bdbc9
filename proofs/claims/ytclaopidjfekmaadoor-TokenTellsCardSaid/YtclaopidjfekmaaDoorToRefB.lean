/- The document's answer: head. -/
import Derived.Test.YtclaopidjfekmaaDoorToRef
namespace Go.Proofs.YtclaopidjfekmaaDoor.Lab
open Go Go.RowKit

def badHd (p : Int) (n : Nat) (i : ByteArray) (f : Int) : Bool := !((decide (p = 0) || btw 60 63 p) && decide (n ≤ 32) && intB i && btw 64 126 f)
theorem hd_bad {p : Int} {P : Rws} {i : ByteArray} {f : Int} (h : badHd p P.length i f = true) : hdB p P i f = false := by
  rw [← Bool.not_eq_true]
  intro h2
  unfold badHd hdB parB at *
  simp only [Bool.not_eq_true', Bool.and_eq_true] at *
  obtain ⟨⟨⟨a, ⟨_, b⟩, _⟩, c⟩, d⟩ := h2
  rw [a, b, c, d] at h
  simp at h
theorem hd_good {p : Int} {P : Rws} {i : ByteArray} {f : Int} (h : badHd p P.length i f = false) : hdB p P i f = (P.all rowB && !decide (P = [[-1]])) := by
  unfold badHd at h
  simp only [Bool.not_eq_false', Bool.and_eq_true] at h
  obtain ⟨⟨⟨a, b⟩, c⟩, d⟩ := h
  unfold hdB parB
  rw [a, b, c, d]
  cases P.all rowB <;> simp
theorem bad_of {p f : Int} {n : Nat} {i : ByteArray} (h : ¬ ((p = 0 ∨ 60 ≤ p ∧ p ≤ 63) ∧ n ≤ 32 ∧ intB i = true ∧ 64 ≤ f ∧ f ≤ 126)) : badHd p n i f = true := by
  rw [badHd, Bool.not_eq_true', ← Bool.not_eq_true, Bool.and_eq_true, Bool.and_eq_true, Bool.and_eq_true, Bool.or_eq_true, decide_eq_true_eq, decide_eq_true_eq, btw_iff, btw_iff]
  exact fun ⟨⟨⟨a, b⟩, c⟩, d⟩ => h ⟨a, b, c, d⟩
theorem good_of {p f : Int} {n : Nat} {i : ByteArray} (h : (p = 0 ∨ 60 ≤ p ∧ p ≤ 63) ∧ n ≤ 32 ∧ intB i = true ∧ 64 ≤ f ∧ f ≤ 126) : badHd p n i f = false := by
  obtain ⟨a, b, c, d⟩ := h
  rw [badHd, Bool.not_eq_false', Bool.and_eq_true, Bool.and_eq_true, Bool.and_eq_true, Bool.or_eq_true, decide_eq_true_eq, decide_eq_true_eq, btw_iff, btw_iff]
  exact ⟨⟨⟨a, b⟩, c⟩, d⟩

set_option maxHeartbeats 8000000 in
set_option maxRecDepth 100000 in
theorem rhead_any (k r p f : Int) (v : Value) (P : Rws) (i d : ByteArray) (w : World) (hM : MatAt w v P) (hi : i.size ≤ maxLen) :
    Calls Tryd.prog 30 #[tok7 k r p v i f d] w fun e w' => e = .returned (.bool (hdB p P i f)) ∧ Below w.heap.size w w' := by
  obtain ⟨va, vc, rfl, hm, hc⟩ := hM
  obtain ⟨n, hn⟩ : ∃ n, P.length = n := ⟨_, rfl⟩
  rw [hn] at hm hc ⊢
  have HC := Lib.hid hc
  have HN := Lib.hid hn
  have HI := Lib.hid hi
  obtain ⟨q3, hq3⟩ : ∃ q, intB i = q := ⟨_, rfl⟩
  have H3 := Lib.hid hq3
  unfold maxLen at hm
  have HB := Lib.hid (show Below w.heap.size w (w.alloc (.cells #[.int .i64 k, .int .i32 r, .int .u8 p, .slice va n vc, .string i, .int .u8 f, .string d] 27)) from (Below.refl _ _).alloc (Nat.le_refl _) _)
  clear hc hn hi hq3
  go_enter Tryd.func30, Tryd.ntmps30
  go_upto_region 1 with (fail)
  go_cut [40] (fun x wc => x = .bool (badHd p n i f) ∧ wc = w.alloc (.cells #[.int .i64 k, .int .i32 r, .int .u8 p, .slice va n vc, .string i, .int .u8 f, .string d] 27))
  case first =>
    as_aux_lemma =>
    by_cases hp0 : p = 0
    · subst hp0
      by_cases hl : n ≤ 32
      case neg =>
        have d1 : decide ((32 : Int) < (n : Int)) = true := by simp; omega
        go_wp2
        go_meet
        case rel => exact ⟨by rw [bad_of (p := 0) (n := n) (i := i) (f := f) (by have := H3.out; omega)], rfl⟩
      have d1 : decide ((32 : Int) < (n : Int)) = false := by simp; omega
      cases q3
      case false =>
        go_wp2_with fail
        refine (rinter_any i HI.out _).mono ?_
        rintro e wx ⟨rfl, rfl⟩
        rw [H3.out]
        go_wp2
        go_meet
        case rel => exact ⟨by rw [bad_of (p := 0) (n := n) (i := i) (f := f) (by have := H3.out; rw [this]; simp)], rfl⟩
      by_cases hf : f < 64
      case pos =>
        go_wp2_with fail
        refine (rinter_any i HI.out _).mono ?_
        rintro e wx ⟨rfl, rfl⟩
        rw [H3.out]
        go_wp2
        go_meet
        case rel => exact ⟨by rw [bad_of (p := 0) (n := n) (i := i) (f := f) (by have := H3.out; omega)], rfl⟩
      by_cases hg : 126 < f
      case pos =>
        go_wp2_with fail
        refine (rinter_any i HI.out _).mono ?_
        rintro e wx ⟨rfl, rfl⟩
        rw [H3.out]
        go_wp2
        go_meet
        case rel => exact ⟨by rw [bad_of (p := 0) (n := n) (i := i) (f := f) (by have := H3.out; omega)], rfl⟩
      have d2 : decide (f < 64) = false := by simp; omega
      have d3 : decide ((126 : Int) < f) = false := by simp; omega
      go_wp2_with fail
      refine (rinter_any i HI.out _).mono ?_
      rintro e wx ⟨rfl, rfl⟩
      rw [H3.out]
      go_wp2
      go_meet
      case rel => exact ⟨by rw [good_of (p := 0) (n := n) (i := i) (f := f) ⟨.inl rfl, by omega, H3.out, by omega, by omega⟩], rfl⟩
    · have e1 : (p == 0) = false := by simpa using hp0
      have e2 : (p != 0) = true := by simpa using hp0
      by_cases hp1 : p < 60
      · go_wp2
        go_meet
        case rel => exact ⟨by rw [bad_of (p := p) (n := n) (i := i) (f := f) (by omega)], rfl⟩
      · by_cases hp2 : 63 < p
        · go_wp2
          go_meet
          case rel => exact ⟨by rw [bad_of (p := p) (n := n) (i := i) (f := f) (by omega)], rfl⟩
        · skip
          by_cases hl : n ≤ 32
          case neg =>
            have d1 : decide ((32 : Int) < (n : Int)) = true := by simp; omega
            go_wp2
            go_meet
            case rel => exact ⟨by rw [bad_of (p := p) (n := n) (i := i) (f := f) (by have := H3.out; omega)], rfl⟩
          have d1 : decide ((32 : Int) < (n : Int)) = false := by simp; omega
          cases q3
          case false =>
            go_wp2_with fail
            refine (rinter_any i HI.out _).mono ?_
            rintro e wx ⟨rfl, rfl⟩
            rw [H3.out]
            go_wp2
            go_meet
            case rel => exact ⟨by rw [bad_of (p := p) (n := n) (i := i) (f := f) (by have := H3.out; rw [this]; simp)], rfl⟩
          by_cases hf : f < 64
          case pos =>
            go_wp2_with fail
            refine (rinter_any i HI.out _).mono ?_
            rintro e wx ⟨rfl, rfl⟩
            rw [H3.out]
            go_wp2
            go_meet
            case rel => exact ⟨by rw [bad_of (p := p) (n := n) (i := i) (f := f) (by have := H3.out; omega)], rfl⟩
          by_cases hg : 126 < f
          case pos =>
            go_wp2_with fail
            refine (rinter_any i HI.out _).mono ?_
            rintro e wx ⟨rfl, rfl⟩
            rw [H3.out]
            go_wp2
            go_meet
            case rel => exact ⟨by rw [bad_of (p := p) (n := n) (i := i) (f := f) (by have := H3.out; omega)], rfl⟩
          have d2 : decide (f < 64) = false := by simp; omega
          have d3 : decide ((126 : Int) < f) = false := by simp; omega
          go_wp2_with fail
          refine (rinter_any i HI.out _).mono ?_
          rintro e wx ⟨rfl, rfl⟩
          rw [H3.out]
          go_wp2
          go_meet
          case rel => exact ⟨by rw [good_of (p := p) (n := n) (i := i) (f := f) ⟨.inr ⟨by omega, by omega⟩, by omega, H3.out, by omega, by omega⟩], rfl⟩
  case rest =>
    obtain ⟨rfl, rfl⟩ := hcut
    obtain ⟨q, hq⟩ : ∃ q, badHd p n i f = q := ⟨_, rfl⟩
    rw [hq]
    have HQ := Lib.hid hq
    clear hq
    cases q
    · have HG := Lib.hid (hd_good (p := p) (P := P) (i := i) (f := f) (by rw [HN.out]; exact HQ.out))
      go_wp2
      go_loop [3] (fun x => ∃ j : Nat, j ≤ n ∧ x = .int .i64 j ∧ Hid ((P.take j).all rowB = true)) (fun x => n - (intOf x).toNat)
      case atStart => exact ⟨0, Nat.zero_le _, rfl, Lib.hid rfl⟩
      case round =>
        obtain ⟨j, hj, rfl, HA⟩ := hrel
        by_cases hlt : j < n
        · obtain ⟨g, o, ha, hcell⟩ := HC.out (by omega)
          obtain ⟨u, c0, hu⟩ := hcell j hlt
          have c1 := Keeps.of HB.out _ _ _ c0
          have HX := Lib.hid (take_at' P [] (k := j) (by rw [HN.out]; exact hlt))
          have HE := Lib.hid (getD_mem' (l := P) [] (k := j) (by rw [HN.out]; exact hlt))
          obtain ⟨y, hy⟩ : ∃ y, P.getD j [] = y := ⟨_, rfl⟩
          rw [hy] at HX HE hu
          obtain ⟨ua, uc, rfl, hum, hun⟩ := hu.below HB.out
          obtain ⟨m, hm'⟩ : ∃ m, y.length = m := ⟨_, rfl⟩
          rw [hm'] at hum hun c1
          have HU := Lib.hid hun
          have HM := Lib.hid hm'
          unfold maxLen at hum
          have HNO := Lib.hid (fun (h : rowB y = false) => (show hdB p P i f = false by
            rw [HG.out, List.all_eq_false.2 ⟨y, HE.out, by rw [h]; simp⟩]
            rfl))
          clear hcell c0 hu hy hun hm'
          subst ha
          by_cases hm1 : m < 1
          · have HF := Lib.hid (HNO.out (by rw [rowB, btw, HM.out, decide_eq_false (by omega)]; rfl))
            go_wp2
            go_ret
            exact ⟨by rw [HF.out]; rfl, HB.out⟩
          · by_cases hm8 : 8 < m
            · have HF := Lib.hid (HNO.out (by rw [rowB, btw, HM.out, decide_eq_false (by omega)]; rfl))
              have f1 : decide ((m : Int) < 1) = false := by simp; omega
              have f2 : decide ((8 : Int) < (m : Int)) = true := by simp; omega
              go_wp2
              go_ret
              exact ⟨by rw [HF.out]; rfl, HB.out⟩
            · have f1 : decide ((m : Int) < 1) = false := by simp; omega
              have f2 : decide ((8 : Int) < (m : Int)) = false := by simp; omega
              have HR1 := Lib.hid (show btw 1 8 y.length = true from btw_yes (by rw [HM.out]; omega) (by rw [HM.out]; omega))
              go_wp2
              go_loop [5] (fun x => ∃ l : Nat, l ≤ m ∧ x = .int .i64 l ∧ Hid ((y.take l).all num1 = true)) (fun x => m - (intOf x).toNat)
              case atStart => exact ⟨0, Nat.zero_le _, rfl, Lib.hid rfl⟩
              case round =>
                obtain ⟨l, hl, rfl, HL⟩ := hrel
                by_cases hlm : l < m
                · obtain ⟨g2, o2, ha2, hc2⟩ := HU.out (by omega)
                  have c2 := hc2 l hlm
                  have HX2 := Lib.hid (take_at' y 0 (k := l) (by rw [HM.out]; exact hlm))
                  have HE2 := Lib.hid (getD_mem' (l := y) 0 (k := l) (by rw [HM.out]; exact hlm))
                  obtain ⟨z, hz⟩ : ∃ z, y.getD l 0 = z := ⟨_, rfl⟩
                  rw [hz] at HX2 HE2 c2
                  clear hc2 hz
                  subst ha2
                  have HZ := Lib.hid (fun (h : ¬ (-1 ≤ z ∧ z ≤ 65535)) => HNO.out (by
                    rw [rowB, List.all_eq_false.2 ⟨z, HE2.out, by rw [num1, btw, decide_eq_false h]; simp⟩, Bool.and_false]))
                  by_cases hz1 : z < -1
                  · have HF := Lib.hid (HZ.out (by omega))
                    go_wp2
                    go_ret
                    exact ⟨by rw [HF.out]; rfl, HB.out⟩
                  · by_cases hz2 : 65535 < z
                    · have HF := Lib.hid (HZ.out (by omega))
                      go_wp2
                      go_ret
                      exact ⟨by rw [HF.out]; rfl, HB.out⟩
                    · have HN1 := Lib.hid (show num1 z = true from btw_yes (by omega) (by omega))
                      go_wp2
                      go_round
                      case rel => exact ⟨l + 1, by omega, by go_num, Lib.hid (by rw [HX2.out, List.all_append, HL.out, List.all_cons, HN1.out]; rfl)⟩
                      case measure => simp [intOf]; omega
                · have HY := Lib.hid (show rowB y = true by
                    have := HL.out
                    rw [List.take_of_length_le (by rw [HM.out]; omega)] at this
                    rw [rowB, HR1.out, this]
                    rfl)
                  go_wp2
                  go_round
                  case rel => exact ⟨j + 1, by omega, by go_num, Lib.hid (by rw [HX.out, List.all_append, HA.out, List.all_cons, HY.out]; rfl)⟩
                  case measure => simp [intOf]; omega
        · have HP := Lib.hid (show P.all rowB = true by
            have := HA.out
            rwa [List.take_of_length_le (by rw [HN.out]; omega)] at this)
          have HG2 := Lib.hid (show hdB p P i f = !decide (P = [[-1]]) by rw [HG.out, HP.out]; rfl)
          clear HA
          by_cases h1 : n = 1
          · subst h1
            obtain ⟨y, hy⟩ := List.length_eq_one_iff.1 HN.out
            obtain ⟨g, o, ha, hcell⟩ := HC.out (by omega)
            obtain ⟨u, c0, hu⟩ := hcell 0 (by omega)
            have c1 := Keeps.of HB.out _ _ _ c0
            obtain ⟨ua, uc, rfl, hum, hun⟩ := hu.below HB.out
            have HY := Lib.hid (show P.getD 0 [] = y by rw [hy]; rfl)
            have HPY := Lib.hid hy
            obtain ⟨m, hm'⟩ : ∃ m, (P.getD 0 []).length = m := ⟨_, rfl⟩
            rw [hm'] at hum hun c1
            rw [HY.out] at hm' hun
            have HU := Lib.hid hun
            have HM := Lib.hid hm'
            unfold maxLen at hum
            rw [Nat.add_zero] at c1
            clear hcell c0 hu hy hun hm'
            subst ha
            by_cases hm1 : m = 1
            · subst hm1
              obtain ⟨z, hz⟩ := List.length_eq_one_iff.1 HM.out
              obtain ⟨g2, o2, ha2, hc2⟩ := HU.out (by omega)
              have c2 := hc2 0 (by omega)
              rw [hz, Nat.add_zero] at c2
              simp only [List.getD_cons_zero] at c2
              have HZ := Lib.hid hz
              clear hc2 hz
              subst ha2
              by_cases hz1 : z = -1
              · subst hz1
                go_wp2
                go_ret
                exact ⟨by rw [HG2.out, HPY.out, HZ.out]; rfl, HB.out⟩
              · have e3 : (z != -1) = true := by simpa using hz1
                have e4 : (z == -1) = false := by simpa using hz1
                have HF := Lib.hid (show decide (P = [[-1]]) = false by
                  rw [HPY.out, HZ.out, decide_eq_false_iff_not]
                  intro h
                  injection h with h _
                  injection h with h _
                  exact hz1 h)
                go_wp2
                go_ret
                exact ⟨by rw [HG2.out, HF.out]; rfl, HB.out⟩
            · have e3 : ((m : Int) != 1) = true := by simp; omega
              have e4 : (m != 1) = true := by simpa using hm1
              have HF := Lib.hid (show decide (P = [[-1]]) = false by
                rw [HPY.out, decide_eq_false_iff_not]
                intro h
                injection h with h _
                have := HM.out
                rw [h] at this
                exact hm1 this.symm)
              go_wp2
              go_ret
              exact ⟨by rw [HG2.out, HF.out]; rfl, HB.out⟩
          · have e3 : ((n : Int) != 1) = true := by simp; omega
            have e4 : (n != 1) = true := by simpa using h1
            have HF := Lib.hid (show decide (P = [[-1]]) = false by
              rw [decide_eq_false_iff_not]
              intro h
              have := HN.out
              rw [h] at this
              exact h1 this.symm)
            go_wp2
            go_ret
            exact ⟨by rw [HG2.out, HF.out]; rfl, HB.out⟩
    · have HF := Lib.hid (hd_bad (p := p) (P := P) (i := i) (f := f) (by rw [HN.out]; exact HQ.out))
      go_wp2
      go_ret
      exact ⟨by rw [HF.out]; rfl, HB.out⟩
end Go.Proofs.YtclaopidjfekmaaDoor.Lab
