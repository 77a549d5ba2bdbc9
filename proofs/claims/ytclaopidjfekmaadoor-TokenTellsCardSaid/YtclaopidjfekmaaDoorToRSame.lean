/- The reference's Same. -/
import Derived.Test.YtclaopidjfekmaaDoorToHolds
import Derived.Test.YtclaopidjfekmaaDoorToPars
namespace Go.Proofs.YtclaopidjfekmaaDoor.Lab
open Go Go.RowKit

theorem same_P (k r p f : Int) (P P' : Rws) (i d : ByteArray) : sameB ⟨k, r, p, P, i, f, d⟩ ⟨k, r, p, P', i, f, d⟩ = decide (P = P') := by simp [sameB]
theorem getD_take {α : Type} {l m : List α} {k : Nat} (d : α) (h : l.take k = m.take k) (hl : k < l.length) (hm : k < m.length) (e : l.getD k d = m.getD k d) : l.take (k + 1) = m.take (k + 1) := by
  rw [take_at' l d hl, take_at' m d hm, h, e]

set_option maxHeartbeats 8000000 in
set_option maxRecDepth 100000 in
theorem rsame_any (k r p f k' r' p' f' : Int) (va va' : Option Addr) (vn vc vn' vc' : Nat) (P P' : Rws) (i d i' d' : ByteArray) (w : World) (hM : MatAt w (.slice va vn vc) P) (hM' : MatAt w (.slice va' vn' vc') P') :
    Calls Tryd.prog 14 #[tok7 k r p (.slice va vn vc) i f d, tok7 k' r' p' (.slice va' vn' vc') i' f' d'] w fun e w' => e = .returned (.bool (sameB ⟨k, r, p, P, i, f, d⟩ ⟨k', r', p', P', i', f', d'⟩)) ∧ Below w.heap.size w w' := by
  have b1 : Below w.heap.size w ((w.alloc (.cells #[.int .i64 k, .int .i32 r, .int .u8 p, .slice va vn vc, .string i, .int .u8 f, .string d] 27)).alloc (.cells #[.int .i64 k', .int .i32 r', .int .u8 p', .slice va' vn' vc', .string i', .int .u8 f', .string d'] 27)) := ((Below.refl _ _).alloc (Nat.le_refl _) _).alloc (by simp) _
  have HB := Lib.hid b1
  obtain ⟨_, _, he, hm, hc⟩ := hM
  injection he with e1 e2 e3
  subst e1 e2 e3
  obtain ⟨_, _, he, hm', hc'⟩ := hM'
  injection he with e1 e2 e3
  subst e1 e2 e3
  obtain ⟨vn, hn⟩ : ∃ n, P.length = n := ⟨_, rfl⟩
  obtain ⟨vn', hn'⟩ : ∃ n, P'.length = n := ⟨_, rfl⟩
  rw [hn] at hc b1 HB hm ⊢
  rw [hn'] at hc' b1 HB hm' ⊢
  unfold maxLen at hm hm'
  have HN := Lib.hid hn
  have HN' := Lib.hid hn'
  have HC := Lib.hid hc
  have HC' := Lib.hid hc'
  clear hc hc' hn hn' b1
  by_cases h0 : k = k'
  case neg =>
    have e0 : (k == k') = false := by simpa using h0
    have HX := Lib.hid h0
    clear h0
    go_enter Tryd.func14, Tryd.ntmps14
    go_wp2
    go_ret
    refine ⟨?_, HB.out⟩
    have : ∀ b, b = false → Ending.returned (.bool false) = .returned (.bool b) := fun b h => by rw [h]
    refine this _ ?_
    simp only [sameB]
    rw [decide_eq_false HX.out]
    simp
  subst h0
  by_cases h1 : r = r'
  case neg =>
    have e1 : (r == r') = false := by simpa using h1
    have HX := Lib.hid h1
    clear h1
    go_enter Tryd.func14, Tryd.ntmps14
    go_wp2
    go_ret
    refine ⟨?_, HB.out⟩
    have : ∀ b, b = false → Ending.returned (.bool false) = .returned (.bool b) := fun b h => by rw [h]
    refine this _ ?_
    simp only [sameB]
    rw [decide_eq_false HX.out]
    simp
  subst h1
  by_cases h2 : p = p'
  case neg =>
    have e2 : (p == p') = false := by simpa using h2
    have HX := Lib.hid h2
    clear h2
    go_enter Tryd.func14, Tryd.ntmps14
    go_wp2
    go_ret
    refine ⟨?_, HB.out⟩
    have : ∀ b, b = false → Ending.returned (.bool false) = .returned (.bool b) := fun b h => by rw [h]
    refine this _ ?_
    simp only [sameB]
    rw [decide_eq_false HX.out]
    simp
  subst h2
  by_cases h3 : i = i'
  case neg =>
    have n3 : ¬ bl i = bl i' := fun e => h3 (bl_inj e)
    have e3 : (i.toList == i'.toList) = false := by rw [toL, toL]; simpa using n3
    have HX := Lib.hid n3
    clear n3
    clear h3
    go_enter Tryd.func14, Tryd.ntmps14
    go_wp2
    go_ret
    refine ⟨?_, HB.out⟩
    have : ∀ b, b = false → Ending.returned (.bool false) = .returned (.bool b) := fun b h => by rw [h]
    refine this _ ?_
    simp only [sameB]
    rw [decide_eq_false HX.out]
    simp
  subst h3
  by_cases h4 : f = f'
  case neg =>
    have e4 : (f == f') = false := by simpa using h4
    have HX := Lib.hid h4
    clear h4
    go_enter Tryd.func14, Tryd.ntmps14
    go_wp2
    go_ret
    refine ⟨?_, HB.out⟩
    have : ∀ b, b = false → Ending.returned (.bool false) = .returned (.bool b) := fun b h => by rw [h]
    refine this _ ?_
    simp only [sameB]
    rw [decide_eq_false HX.out]
    simp
  subst h4
  by_cases h5 : d = d'
  case neg =>
    have n5 : ¬ bl d = bl d' := fun e => h5 (bl_inj e)
    have e5 : (d.toList == d'.toList) = false := by rw [toL, toL]; simpa using n5
    have HX := Lib.hid n5
    clear n5
    clear h5
    go_enter Tryd.func14, Tryd.ntmps14
    go_wp2
    go_ret
    refine ⟨?_, HB.out⟩
    have : ∀ b, b = false → Ending.returned (.bool false) = .returned (.bool b) := fun b h => by rw [h]
    refine this _ ?_
    simp only [sameB]
    rw [decide_eq_false HX.out]
    simp
  subst h5
  rw [same_P]
  by_cases h6 : vn = vn'
  case neg =>
    have e6 : ((vn : Int) == (vn' : Int)) = false := by simp; omega
    have e7 : (vn == vn') = false := by simpa using h6
    have HX := Lib.hid (show decide (P = P') = false from decide_eq_false (fun e => h6 (by rw [← HN.out, ← HN'.out, e])))
    clear h6
    go_enter Tryd.func14, Tryd.ntmps14
    go_wp2
    go_ret
    exact ⟨by rw [HX.out]; rfl, HB.out⟩
  subst h6
  obtain ⟨W0, hW0⟩ : ∃ W0, W0 = (w.alloc (.cells #[.int .i64 k, .int .i32 r, .int .u8 p, .slice va vn vc, .string i, .int .u8 f, .string d] 27)).alloc (.cells #[.int .i64 k, .int .i32 r, .int .u8 p, .slice va' vn vc', .string i, .int .u8 f, .string d] 27) := ⟨_, rfl⟩
  rw [← hW0] at HB
  have T0 := Lib.hid (show T7 W0 w.heap.size (.int .i64 k) (.int .i32 r) (.int .u8 p) (.slice va vn vc) (.string i) (.int .u8 f) (.string d) by rw [hW0]; exact (T7.newAt w w.heap.size rfl _ _ _ _ _ _ _ _).past _)
  have T1 := Lib.hid (show T7 W0 (w.heap.size + 1) (.int .i64 k) (.int .i32 r) (.int .u8 p) (.slice va' vn vc') (.string i) (.int .u8 f) (.string d) by rw [hW0]; exact T7.newAt _ (w.heap.size + 1) (by simp) _ _ _ _ _ _ _ _)
  go_enter Tryd.func14, Tryd.ntmps14
  go_upto_block 0 with (fail)
  rw [← hW0]
  clear hW0
  go_cut [5, 6] (fun _ _ wc => Hid (P = P') ∧ Hid (Below W0.heap.size W0 wc))
  case first =>
    as_aux_lemma =>
    go_wp2_with fail
    go_loopw [5, 6] (fun x _ wr => ∃ j : Nat, j ≤ vn ∧ x = .int .i64 j ∧ Hid (P.take j = P'.take j) ∧ Hid (Below W0.heap.size W0 wr)) (fun x _ _ => vn - (intOf x).toNat)
    case atStart => exact ⟨0, Nat.zero_le _, rfl, Lib.hid rfl, Lib.hid (Below.refl _ _)⟩
    case round =>
      obtain ⟨wo, rfl⟩ : ∃ wo : World, wo = wr := ⟨_, rfl⟩
      obtain ⟨j, hj, rfl, HE, HBO⟩ := hrel
      have HB1 := Lib.hid (HB.out.trans (HBO.out.mono HB.out.size))
      obtain ⟨_, ⟨_, _, _, c3, _, _, _⟩, _⟩ := T0.out.below HBO.out
      obtain ⟨_, ⟨_, _, _, z3, _, _, _⟩, _⟩ := T1.out.below HBO.out
      by_cases hlt : j < vn
      · obtain ⟨g, o, ha, hcell⟩ := HC.out (by omega)
        obtain ⟨g', o', ha', hcell'⟩ := HC'.out (by omega)
        obtain ⟨u, cu0, hu0⟩ := hcell j hlt
        obtain ⟨u', cu0', hu0'⟩ := hcell' j hlt
        have cu := Keeps.of HB1.out _ _ _ cu0
        have cu' := Keeps.of HB1.out _ _ _ cu0'
        have hu := hu0.on (Keeps.of HB1.out)
        have hu' := hu0'.on (Keeps.of HB1.out)
        have HG := Lib.hid (getD_take (l := P) (m := P') (k := j) [] HE.out (by rw [HN.out]; exact hlt) (by rw [HN'.out]; exact hlt))
        have HNG := Lib.hid (show P.getD j [] ≠ P'.getD j [] → decide (P = P') = false from fun h => decide_eq_false (fun e => h (by rw [e])))
        obtain ⟨y, hy⟩ : ∃ y, P.getD j [] = y := ⟨_, rfl⟩
        obtain ⟨y', hy'⟩ : ∃ y, P'.getD j [] = y := ⟨_, rfl⟩
        rw [hy, hy'] at HG HNG
        rw [hy] at hu
        rw [hy'] at hu'
        obtain ⟨ra, rc, rfl, hym, hyc⟩ := hu
        obtain ⟨ra', rc', rfl, hym', hyc'⟩ := hu'
        obtain ⟨q, hq⟩ : ∃ q, y.length = q := ⟨_, rfl⟩
        obtain ⟨q', hq'⟩ : ∃ q, y'.length = q := ⟨_, rfl⟩
        rw [hq] at cu hym hyc
        rw [hq'] at cu' hym' hyc'
        unfold maxLen at hym hym'
        have HQ := Lib.hid hq
        have HQ' := Lib.hid hq'
        have HYC := Lib.hid hyc
        have HYC' := Lib.hid hyc'
        clear hcell hcell' cu0 cu0' hu0 hu0' hy hy' hq hq' hyc hyc' HE
        subst ha ha'
        by_cases hqq : q = q'
        case neg =>
          have e8 : ((q : Int) == (q' : Int)) = false := by simp; omega
          have e9 : (q == q') = false := by simpa using hqq
          have HX := Lib.hid (HNG.out (fun e => hqq (by rw [← HQ.out, ← HQ'.out, e])))
          clear hqq
          go_wp2_with fail
          go_quiet (fail)
          go_wp2
          go_ret
          exact ⟨by rw [HX.out]; rfl, HB1.out.trans ⟨rfl, rfl, rfl, Nat.le_refl _, fun _ _ => rfl⟩⟩
        case pos =>
        subst hqq
        go_wp2_with fail
        go_quiet (fail)
        obtain ⟨wp, hwp⟩ : ∃ wp, wp = wo.drewN nq := ⟨_, rfl⟩
        have bp : Below wo.heap.size wo wp := by rw [hwp]; exact ⟨rfl, rfl, rfl, Nat.le_refl _, fun _ _ => rfl⟩
        have HBP := Lib.hid (HBO.out.trans (bp.mono HBO.out.size))
        have HB2 := Lib.hid (HB1.out.trans (bp.mono HB1.out.size))
        have HCU := Lib.hid (Keeps.of bp _ _ _ cu)
        have HCU' := Lib.hid (Keeps.of bp _ _ _ cu')
        have HK3 := Lib.hid (Keeps.of bp _ _ _ c3)
        have HZ3 := Lib.hid (Keeps.of bp _ _ _ z3)
        have HYP := Lib.hid (fun h0 => (HYC.out h0).imp fun g2 h => h.imp fun o2 h => And.imp_right (fun h l hl => Keeps.of bp _ _ _ (h l hl)) h)
        have HYP' := Lib.hid (fun h0 => (HYC'.out h0).imp fun g2 h => h.imp fun o2 h => And.imp_right (fun h l hl => Keeps.of bp _ _ _ (h l hl)) h)
        go_upto_block 2 with (fail)
        rw [← hwp]
        clear hwp bp cu cu' c3 z3 HYC HYC' HBO HB1
        go_wp2_with fail
        go_loopw [6] (fun x wr => ∃ l : Nat, l ≤ q ∧ x = .int .i64 l ∧ Hid (y.take l = y'.take l) ∧ Hid (Below wp.heap.size wp wr)) (fun x _ => q - (intOf x).toNat)
        case atStart => exact ⟨0, Nat.zero_le _, rfl, Lib.hid rfl, Lib.hid (Below.refl _ _)⟩
        case round =>
          obtain ⟨wn, rfl⟩ : ∃ wn : World, wn = wr := ⟨_, rfl⟩
          obtain ⟨l, hl, rfl, HE, HBN⟩ := hrel
          have cu := Keeps.of HBN.out _ _ _ HCU.out
          have cu' := Keeps.of HBN.out _ _ _ HCU'.out
          have c3 := Keeps.of HBN.out _ _ _ HK3.out
          have z3 := Keeps.of HBN.out _ _ _ HZ3.out
          by_cases hlq : l < q
          · obtain ⟨g2, o2, ha2, hc2⟩ := HYP.out (by omega)
            obtain ⟨g2', o2', ha2', hc2'⟩ := HYP'.out (by omega)
            have cx := Keeps.of HBN.out _ _ _ (hc2 l hlq)
            have cx' := Keeps.of HBN.out _ _ _ (hc2' l hlq)
            have HG2 := Lib.hid (getD_take (l := y) (m := y') (k := l) 0 HE.out (by rw [HQ.out]; exact hlq) (by rw [HQ'.out]; exact hlq))
            have HX := Lib.hid (show y.getD l 0 ≠ y'.getD l 0 → decide (P = P') = false from fun h => HNG.out (fun e => h (by rw [e])))
            obtain ⟨x, hx⟩ : ∃ x, y.getD l 0 = x := ⟨_, rfl⟩
            obtain ⟨x', hx'⟩ : ∃ x, y'.getD l 0 = x := ⟨_, rfl⟩
            rw [hx, hx'] at HG2 HX
            rw [hx] at cx
            rw [hx'] at cx'
            clear hc2 hc2' hx hx' HE
            subst ha2 ha2'
            by_cases hxx : x = x'
            · subst hxx
              have HG3 := Lib.hid (HG2.out rfl)
              go_wp2_with fail
              go_quiet (fail)
              have HB3 := Lib.hid (show Below wp.heap.size wp (wn.drewN nq) from HBN.out.trans ⟨rfl, rfl, rfl, Nat.le_refl _, fun _ _ => rfl⟩)
              go_wp2
              go_roundw
              case rel => exact ⟨l + 1, by omega, by go_num, HG3, HB3⟩
              case measure => simp [intOf]; omega
            · have e8 : (x == x') = false := by simpa using hxx
              have HY := Lib.hid (HX.out hxx)
              clear hxx
              go_wp2_with fail
              go_quiet (fail)
              go_wp2
              go_ret
              exact ⟨by rw [HY.out]; rfl, HB2.out.trans ((HBN.out.mono HB2.out.size).trans ⟨rfl, rfl, rfl, Nat.le_refl _, fun _ _ => rfl⟩)⟩
          · have HEQ := show y = y' by
              have h := HE.out
              rwa [List.take_of_length_le (by rw [HQ.out]; omega), List.take_of_length_le (by rw [HQ'.out]; omega)] at h
            have HG3 := Lib.hid (HG.out HEQ)
            have HB4 := Lib.hid (HBP.out.trans (HBN.out.mono HBP.out.size))
            clear HEQ
            go_wp2
            go_roundw
            case rel => exact ⟨j + 1, by omega, by go_num, HG3, HB4⟩
            case measure => simp [intOf]; omega
      · have HEQ := Lib.hid (show P = P' by
          have h := HE.out
          rwa [List.take_of_length_le (by rw [HN.out]; omega), List.take_of_length_le (by rw [HN'.out]; omega)] at h)
        go_wp2
        go_meet
        case rel => exact ⟨HEQ, HBO⟩
  case rest =>
    obtain ⟨HEQ, HBO⟩ := hcut
    have HB5 := Lib.hid (HB.out.trans (HBO.out.mono HB.out.size))
    have HD := Lib.hid (decide_eq_true HEQ.out)
    go_wp2
    go_ret
    exact ⟨by rw [HD.out]; rfl, HB5.out⟩
end Go.Proofs.YtclaopidjfekmaaDoor.Lab
