/- The Go law ParamBack: its walk. -/
import Derived.Test.YtijnjeibnochpaaDoorPaBackO
import Derived.Deep.CutBlock
import Derived.Deep.DeepCutAuto
namespace Go.Proofs.YtijnjeibnochpaaDoor.Lab
open Go.RowKit

theorem infoI : (Tryd.prog.info? 3).map (fun i => (i.zero, i.size, i.bytes)) = some (some (.int .i64 0), 1, 8) := by kernel_rfl
theorem okRows.of {R : Rws} (hl : R.length ≤ 32) (h : ∀ r ∈ R, okRow r) : okRows R := ⟨hl, fun r hr => ⟨(h r hr).2.1, (h r hr).2.2⟩⟩
theorem own_some' {w : World} {base n : Nat} {e : TypeId} {v : Value} {xs : List Value} (h : w.ownsRow base e 1 v n xs) (hn : 1 ≤ n) : ∃ g c, v = .slice (some ⟨g, 0, none⟩) n c ∧ n ≤ c ∧ c ≤ maxLen := by
  rcases h.2 with ⟨_, h0⟩ | ⟨g, cap, cur, rfl, _, _, h1, h2, _⟩
  · omega
  · exact ⟨g, cap, rfl, h1, h2⟩
/-- A text of good bytes, behind a name. -/
theorem text_of (l : List UInt8) (hg : ∀ c ∈ l, good c) : ∃ t : ByteArray, (⟨l.toArray⟩ : ByteArray) = t ∧ t.data.toList = l ∧ t.size = l.length ∧ AllGood t :=
  ⟨_, rfl, by simp, by show l.toArray.size = _; simp, AllGood.of hg⟩

set_option maxRecDepth 100000 in
set_option maxHeartbeats 16000000 in
theorem back_walk (a a' : Option Addr) (len cap len' cap' : Nat) (T : Nat → Int) (A : Nat → Option Addr) (L C : Nat → Nat) (Z : Nat → Nat → Int) (w : World) (h1 : IsBytes w a len cap T) (h2 : IsNums w a' len' cap' A L C Z) (hT : TB w) :
    Calls Tryd.prog 3 #[.slice a len cap, .slice a' len' cap'] w fun e w' => e = .returned (.bool true) ∧ Below w.heap.size w w' := by
  have H1 := Lib.hid h1
  have H2 := Lib.hid h2
  have HT := Lib.hid hT
  have hl' := h2.lc
  have hc' := h2.cm
  unfold maxLen at hc'
  clear h1 h2 hT
  obtain ⟨ib, hi, hz0, hz1, hz2⟩ := info_parts infoRow
  obtain ⟨jb, ji, jz0, jz1, jz2⟩ := info_parts infoI
  go_enter Tryd.func3, Tryd.ntmps3
  go_wp2_with fail
  refine (works_any _ HT.out.1).mono ?_
  rintro e w1 ⟨rfl, b1⟩
  have HB1 := Lib.hid b1
  clear b1
  go_wp2_with fail
  refine (drawn_any a len cap T _ (H1.out.on HB1.out)).mono ?_
  rintro e w2 ⟨s0, rfl, hs0, b2⟩
  have HB2 := Lib.hid (HB1.out.trans (b2.mono HB1.out.size))
  clear b2 HB1
  go_wp2_with fail
  refine (map_any s0 hs0 _ (HT.out.on HB2.out).2).mono ?_
  rintro e w3 ⟨s, rfl, ⟨hs, hg⟩, b3⟩
  have HG := Lib.hid hg
  have HB3 := Lib.hid (HB2.out.trans (b3.mono HB2.out.size))
  have PB := Lib.hid (parsed_back _ ((AllGood.iff _).1 hg))
  clear b3 HB2 hs0 hg
  go_wp2_with fail
  refine (parse_ok s (by unfold maxLen; omega) HG.out _).mono ?_
  rintro e w4 ⟨v1, rfl, R1, b4⟩
  obtain ⟨P, hP⟩ : ∃ P, parsed s.data.toList = P := ⟨_, rfl⟩
  rw [hP] at R1 PB
  have HR1 := Lib.hid (R1.lower HB3.out.size)
  have HB4 := Lib.hid (HB3.out.trans (b4.mono HB3.out.size))
  clear R1 b4 HB3 hP
  go_wp2_with fail
  refine (write_any _ w.heap.size v1 P HR1.out (okRows.of PB.out.1 PB.out.2.1) (HT.out.on HB4.out).1).mono ?_
  rintro e w5 ⟨rfl, b5⟩
  obtain ⟨t, ht, htl, htn, htg⟩ := text_of (allT P) (all_good P)
  rw [ht]
  have hts : t.size ≤ s.size := by
    rw [htn, Lib.size_eq]
    exact PB.out.2.2.2
  have HTG := Lib.hid htg
  have HTL := Lib.hid htl
  have HR1' := Lib.hid (HR1.out.below b5)
  have HB5 := Lib.hid (HB4.out.trans (b5.mono HB4.out.size))
  clear b5 ht htl htn htg HR1 HB4
  go_wp2_with fail
  refine (parse_ok t (by unfold maxLen; omega) HTG.out _).mono ?_
  rintro e w6 ⟨v2, rfl, R2, b6⟩
  rw [HTL.out, PB.out.2.2.1] at R2
  have HR2 := Lib.hid R2
  have HR1 := Lib.hid (HR1'.out.below b6)
  have HB6 := Lib.hid (HB5.out.trans (b6.mono HB5.out.size))
  have hsz : ¬ s.size < t.size := by omega
  have hszI : ¬ (s.size : Int) < (t.size : Int) := by omega
  clear R2 b6 HR1' HB5 HTL HTG PB
  go_wp2_with fail
  refine (same_at HR1.out HR2.out).mono ?_
  rintro e w7 ⟨rfl, q, rfl⟩
  have HB7 := Lib.hid (show Below w.heap.size w (w6.drewN q) from HB6.out.trans ⟨rfl, rfl, rfl, Nat.le_refl _, fun _ _ => rfl⟩)
  generalize w6.drewN q = w7 at HB7 ⊢
  clear HR1 HR2 HB6
  go_upto_block 0 with (fail)
  go_cut [11] (fun p wc => ∃ (v : Value) (R : Rws), p = v ∧ Hid (R.length ≤ 32 ∧ ∀ r ∈ R, okRow r) ∧ Hid (RowsAt wc w.heap.size v R) ∧ Hid (Below w.heap.size w wc))
  case first =>
    go_wp2_with fail
    go_loopw [11, 12] (fun v i wr => ∃ (k : Nat) (R : Rws), k ≤ len' ∧ k ≤ 32 ∧ i = .int .i64 k ∧ Hid (R.length = k ∧ ∀ r ∈ R, okRow r) ∧ Hid (RowsAt wr w.heap.size v R) ∧ Hid (Below w.heap.size w wr)) (fun _ i _ => len' - (intOf i).toNat)
    case atStart => exact ⟨0, [], Nat.zero_le _, Nat.zero_le _, rfl, Lib.hid ⟨rfl, by simp⟩, Lib.hid (RowsAt.nil _ _), HB7⟩
    case round =>
      clear HB7
      obtain ⟨wo, rfl⟩ : ∃ wo : World, wo = wr := ⟨_, rfl⟩
      obtain ⟨k, R, hk, hk32, rfl, HK, HR, HB⟩ := hrel
      by_cases hc : k < len' ∧ k < 32
      · obtain ⟨h1, h2⟩ := hc
        have h3 : (k : Int) < 32 := by omega
        obtain ⟨b, off, rfl, hb, hA⟩ := H2.out.top (by omega)
        have a1 := (HB.out.cell (p := ⟨b, off + k, none⟩) hb).trans (hA k h1)
        have hrow := H2.out.row k h1
        have hnum := H2.out.num k h1
        obtain ⟨ll, lm⟩ := H2.out.ll k h1
        unfold maxLen at lm
        generalize A k = Ak at a1 hrow
        generalize L k = l at a1 hrow hnum ll
        generalize C k = ck at a1 ll lm
        have HRow := Lib.hid hrow
        have HZ := Lib.hid hnum
        have hbo : b < wo.heap.size := Nat.lt_of_lt_of_le hb HB.out.size
        clear hrow hnum hA
        go_wp2
        go_loopw [13, 14] (fun v i wr => ∃ (j : Nat) (q : List Int) (g c n : Nat), j ≤ l ∧ j ≤ 8 ∧ i = .int .i64 j ∧ v = .slice (some ⟨g, 0, none⟩) n c ∧ Hid (n = max j 1) ∧ n ≤ c ∧ c ≤ maxLen ∧ Hid (q.length = n ∧ ∀ x ∈ q, -1 ≤ x ∧ x ≤ 65535) ∧ Hid (wr.ownsRow wo.heap.size 3 1 (.slice (some ⟨g, 0, none⟩) n c) n (intsV q)) ∧ Hid (Below wo.heap.size wo wr)) (fun _ i _ => l - (intOf i).toNat)
        case atStart => exact ⟨0, [-1], wo.heap.size, 1, 1, Nat.zero_le _, Nat.zero_le _, rfl, rfl, Lib.hid rfl, Nat.le_refl _, by unfold maxLen; omega, Lib.hid ⟨rfl, by simp⟩, Lib.hid (IntsAt.lit wo wo.heap.size 1 _ [-1] rfl rfl (Nat.le_refl _) (by simp [maxLen])).1, Lib.hid ((Below.refl _ _).alloc (Nat.le_refl _) _)⟩
        case round =>
          obtain ⟨wi, rfl⟩ : ∃ wi : World, wi = wr := ⟨_, rfl⟩
          obtain ⟨j, q, g, c, n, hj, hj8, rfl, rfl, hn, hnc, hcm, HQ, HO, HBi⟩ := hrel
          have a2 := (HBi.out.cell (p := ⟨b, off + k, none⟩) hbo).trans a1
          unfold maxLen at hcm
          have hn1 : 1 ≤ n := by rw [hn.out]; omega
          have hn8 : n ≤ 8 := by rw [hn.out]; omega
          have hjn : j ≤ n := by rw [hn.out]; omega
          by_cases hd : j < l ∧ j < 8
          · obtain ⟨d1, d2⟩ := hd
            have d3 : (j : Int) < 8 := by omega
            obtain ⟨b', off', rfl, hb', hA'⟩ := HRow.out (by omega)
            have a3 := ((HB.out.trans (HBi.out.mono HB.out.size)).cell (p := ⟨b', off' + j, none⟩) hb').trans (hA' j d1)
            obtain ⟨x0, x1⟩ := HZ.out j d1
            generalize Z k j = x at a3 x0 x1
            have m1 : x.tmod 7 = x % 7 := Int.tmod_eq_emod_of_nonneg x0
            clear hA'
            go_upto_if 86 with (fail)
            go_cut [15] (fun v wc => ∃ y : Int, v = .int .i64 y ∧ -1 ≤ y ∧ y ≤ 65535 ∧ wc = wi)
            case first =>
              by_cases h6 : x % 7 = 6
              · go_wp2
                go_meet
                case rel => exact ⟨-1, rfl, by omega, by omega, rfl⟩
              · go_wp2
                go_meet
                case rel => exact ⟨x, rfl, by omega, x1, rfl⟩
            case rest =>
              obtain ⟨y, rfl, y0, y1, rfl⟩ := hcut
              obtain ⟨wj, rfl⟩ : ∃ wj : World, wj = wc := ⟨_, rfl⟩
              have s1 := fun w => low_ints (some ⟨g, 0, none⟩) n j c (by omega) w
              have O1 := Lib.hid (own_take HO.out (m := j) (by omega) (by simp))
              go_wp2_with (at_builtin; refine wpList_append_own _ rfl (.tmp 89) (.tmp 91) 33 rfl wo.heap.size 3 jb (.int .i64 0) 1 8 Tryd.underlying33 ji jz0 jz1 jz2 rfl (by decide) _ j _ rfl (O1.out.alloc _) ⟨wj.heap.size, 0, none⟩ 1 1 [.int .i64 y] rfl rfl ?c1 ?c2 ?c3 ?c4 ?c5 ?_)
              case c1 => exact new_cells _ [.int .i64 y] 3 _ rfl
              case c2 => simp [Value.oneCell']
              case c3 => unfold maxLen; omega
              case c4 => omega
              case c5 => have := HBi.out.size; simp; omega
              intro v' w2 own2 grow2 _
              have B2 := Lib.hid ((HBi.out.alloc HBi.out.size _).grown grow2 (by have := HBi.out.size; simp; omega) (fun i hi => (O1.out.lt i hi).1))
              have O2 := Lib.hid (show w2.ownsRow wo.heap.size 3 1 v' (j + 1) (intsV (q.take j ++ [y])) by simpa [intsV] using own2)
              obtain ⟨g2, c2, rfl, e1, e2⟩ := own_some' O2.out (by omega)
              have HQ2 := Lib.hid (show (q.take j ++ [y]).length = j + 1 ∧ ∀ x ∈ q.take j ++ [y], -1 ≤ x ∧ x ≤ 65535 by
                have := HQ.out.1
                refine ⟨by simp; omega, fun z hz => ?_⟩
                rcases List.mem_append.1 hz with m | m
                · exact HQ.out.2 z (List.mem_of_mem_take m)
                · simp at m
                  subst m
                  exact ⟨y0, y1⟩)
              clear own2 grow2 s1 O1 HO HBi HQ
              go_wp2
              go_roundw
              case rel => exact ⟨j + 1, q.take j ++ [y], g2, c2, j + 1, by omega, by omega, by go_num, rfl, Lib.hid (by omega), e1, e2, HQ2, O2, B2⟩
              case measure => simp [intOf]; omega
          · have hok : okRow q := ⟨by rw [HQ.out.1]; omega, by rw [HQ.out.1]; omega, HQ.out.2⟩
            have HI := Lib.hid (IntsAt.lower (lo' := w.heap.size) (show IntsAt wi wo.heap.size (.slice (some ⟨g, 0, none⟩) n c) q from ⟨by rw [HQ.out.1]; exact HO.out, by simp⟩) HB.out.size)
            have HR1 := HR.out.below HBi.out
            have HB1 := Lib.hid (HB.out.trans (HBi.out.mono HB.out.size))
            obtain ⟨us, hown, hus⟩ := HR1
            have HUS := Lib.hid hus
            rw [HK.out.1] at hown
            have HK2 := Lib.hid (show (R ++ [q]).length = k + 1 ∧ ∀ r ∈ R ++ [q], okRow r by
              refine ⟨by simp [HK.out.1], fun r hr => ?_⟩
              rcases List.mem_append.1 hr with m | m
              · exact HK.out.2 r m
              · simp at m
                subst m
                exact hok)
            clear hus HBi HO HQ hok HRow HZ HR
            have hx : ((j : Int) < (l : Int) ∧ ¬ (j : Int) < 8) ∨ ¬ (j : Int) < (l : Int) := by omega
            rcases hx with ⟨x1, x2⟩ | x1
            · clear hd
              go_wp2_with (at_builtin; (refine wpList_append_own _ rfl (.tmp 93) (.tmp 95) 28 rfl w.heap.size 33 ib (.slice none 0 0) 1 24 Tryd.underlying28 hi hz0 hz1 hz2 rfl (by decide) u11 k us rfl (hown.alloc _) ⟨wi.heap.size, 0, none⟩ 1 1 [.slice (some ⟨g, 0, none⟩) n c] rfl rfl ?c1 ?c2 ?c3 ?c4 ?c5 ?_))
              case c2 => simp [Value.oneCell']
              case c3 => unfold maxLen; omega
              case c4 => omega
              case c5 => have := HB1.out.size; simp; omega
              intro v' w2 own2 grow2 _
              have HB2 := Lib.hid ((HB1.out.alloc HB1.out.size _).grown grow2 (by have := HB1.out.size; simp; omega) (fun j hj => (hown.lt j hj).1))
              have HR2 := Lib.hid (show RowsAt w2 w.heap.size v' (R ++ [q]) by
                have hown' : (wi.alloc (.cells #[.slice (some ⟨g, 0, none⟩) n c] 33)).ownsRow w.heap.size 33 1 u11 R.length us := by rw [HK.out.1]; exact hown.alloc _
                refine RowsAt.snoc hown' (fun i hi => ((HUS.out i hi).below ((Below.refl _ _).alloc (Nat.le_refl _) _))) (HI.out.below ((Below.refl _ _).alloc (Nat.le_refl _) _)) ?_ grow2
                rw [HK.out.1]
                exact own2)
              clear own2 grow2 hown HUS HI HB1 HK
              go_wp2
              go_roundw
              case rel => exact ⟨k + 1, R ++ [q], by omega, by omega, by go_num, HK2, HR2, HB2⟩
              case measure => simp [intOf]; omega
            · clear hd
              go_wp2_with (at_builtin; (refine wpList_append_own _ rfl (.tmp 93) (.tmp 95) 28 rfl w.heap.size 33 ib (.slice none 0 0) 1 24 Tryd.underlying28 hi hz0 hz1 hz2 rfl (by decide) u11 k us rfl (hown.alloc _) ⟨wi.heap.size, 0, none⟩ 1 1 [.slice (some ⟨g, 0, none⟩) n c] rfl rfl ?d1 ?d2 ?d3 ?d4 ?d5 ?_))
              case d2 => simp [Value.oneCell']
              case d3 => unfold maxLen; omega
              case d4 => omega
              case d5 => have := HB1.out.size; simp; omega
              intro v' w2 own2 grow2 _
              have HB2 := Lib.hid ((HB1.out.alloc HB1.out.size _).grown grow2 (by have := HB1.out.size; simp; omega) (fun j hj => (hown.lt j hj).1))
              have HR2 := Lib.hid (show RowsAt w2 w.heap.size v' (R ++ [q]) by
                have hown' : (wi.alloc (.cells #[.slice (some ⟨g, 0, none⟩) n c] 33)).ownsRow w.heap.size 33 1 u11 R.length us := by rw [HK.out.1]; exact hown.alloc _
                refine RowsAt.snoc hown' (fun i hi => ((HUS.out i hi).below ((Below.refl _ _).alloc (Nat.le_refl _) _))) (HI.out.below ((Below.refl _ _).alloc (Nat.le_refl _) _)) ?_ grow2
                rw [HK.out.1]
                exact own2)
              clear own2 grow2 hown HUS HI HB1 HK
              go_wp2
              go_roundw
              case rel => exact ⟨k + 1, R ++ [q], by omega, by omega, by go_num, HK2, HR2, HB2⟩
              case measure => simp [intOf]; omega
      · have HK2 := Lib.hid (show R.length ≤ 32 ∧ ∀ r ∈ R, okRow r from ⟨by rw [HK.out.1]; exact hk32, HK.out.2⟩)
        have hx : ((k : Int) < (len' : Int) ∧ ¬ (k : Int) < 32) ∨ ¬ (k : Int) < (len' : Int) := by omega
        rcases hx with ⟨x1, x2⟩ | x1
        · clear hc
          go_wp2
          go_meet
          case rel => exact ⟨_, R, rfl, HK2, HR, HB⟩
        · clear hc
          go_wp2
          go_meet
          case rel => exact ⟨_, R, rfl, HK2, HR, HB⟩
  case rest =>
    obtain ⟨v, R, rfl, HK, HR, HB⟩ := hcut
    obtain ⟨w8, rfl⟩ : ∃ w8 : World, w8 = wc := ⟨_, rfl⟩
    clear HB7
    obtain ⟨av, cv, rfl⟩ := HR.out.slice
    obtain ⟨n, hn⟩ : ∃ n, n = R.length := ⟨_, rfl⟩
    rw [← hn] at HR ⊢
    have HN := Lib.hid hn
    clear hn
    go_upto_region 22 with (fail)
    go_cut [114] (fun t wc => ∃ b : Bool, t = .bool b ∧ (b = true → R = [[-1]]) ∧ (b = false → R ≠ [[-1]]) ∧ wc = w8)
    case first =>
      by_cases hR1 : n = 1
      · obtain ⟨q, hq⟩ : ∃ q, R = [q] := List.length_eq_one_iff.1 (by rw [← HN.out]; exact hR1)
        subst hR1 hq
        obtain ⟨g, u, rfl, _, _, c1, I⟩ := HR.out.row (i := 0) (by simp)
        have oq := HK.out.2 q (by simp)
        obtain ⟨g', c', cur, rfl, _, _, _, _, k1, _⟩ := I.open
        simp only [List.getD_cons_zero] at c1 k1
        obtain ⟨m, hm⟩ : ∃ m, m = q.length := ⟨_, rfl⟩
        rw [← hm] at c1 k1
        by_cases hm1 : m = 1
        · obtain ⟨x, rfl⟩ : ∃ x, q = [x] := List.length_eq_one_iff.1 (by rw [← hm]; exact hm1)
          subst hm1
          have c2 := k1 0 (by omega)
          simp only [List.getD_cons_zero] at c2
          have hx0 := (oq.2.2 x (by simp)).1
          clear k1 hm oq I
          by_cases hx : x < 0
          · go_wp2
            go_meet
            case rel => exact ⟨true, rfl, fun _ => by rw [show x = -1 by omega], by simp, rfl⟩
          · go_wp2
            go_meet
            case rel => exact ⟨false, rfl, by simp, fun _ e => by simp at e; omega, rfl⟩
        · have e1 : (((m : Nat) : Int) == 1) = false := by simp; omega
          have hne : [q] ≠ [[-1]] := by
            intro e
            simp only [List.cons.injEq, and_true] at e
            rw [e] at hm
            exact hm1 hm
          clear k1 I
          go_wp2
          go_meet
          case rel => exact ⟨false, rfl, by simp, fun _ => hne, rfl⟩
      · have e1 : (((n : Nat) : Int) == 1) = false := by simp; omega
        have hne : R ≠ [[-1]] := by
          intro e
          have := HN.out
          rw [e] at this
          exact hR1 this
        go_wp2
        go_meet
        case rel => exact ⟨false, rfl, by simp, fun _ => hne, rfl⟩
    case rest =>
      obtain ⟨bb, rfl, k1, k2, rfl⟩ := hcut
      obtain ⟨w9, rfl⟩ : ∃ w9 : World, w9 = wc := ⟨_, rfl⟩
      have CW := Lib.hid (write_any _ w.heap.size (.slice av n cv) R HR.out (okRows.of HK.out.1 HK.out.2) (HT.out.on HB.out).1)
      obtain ⟨t, ht, htl, htn, htg⟩ := text_of (allT R) (all_good R)
      rw [ht] at CW
      have hts : t.size ≤ maxLen := by
        have := all_len HK.out.1 HK.out.2
        rw [htn]
        unfold maxLen
        omega
      cases bb
      · have RP := back_any HK.out.1 HK.out.2 (k2 rfl)
        rw [← htl] at RP
        have HRP := Lib.hid RP
        clear RP k1 k2 htl ht
        go_wp2_with fail
        refine CW.out.mono ?_
        rintro e w10 ⟨rfl, b10⟩
        have HB10 := Lib.hid (HB.out.trans (b10.mono HB.out.size))
        have HR10 := Lib.hid (HR.out.below b10)
        clear b10
        go_wp2_with fail
        refine (reads_any t hts htg _ w.heap.size _ (by rw [HRP.out]; exact HR10.out)).mono ?_
        rintro e w11 ⟨rfl, b11⟩
        have HB11 := Lib.hid (HB10.out.trans (b11.mono HB10.out.size))
        clear b11
        go_wp2
        go_ret
        exact ⟨rfl, HB11.out⟩
      · have hR := k1 rfl
        have HRP := Lib.hid (show parsed t.data.toList = [] by rw [htl, hR]; rfl)
        clear k1 k2 htl ht
        go_wp2_with fail
        refine CW.out.mono ?_
        rintro e w10 ⟨rfl, b10⟩
        have HB10 := Lib.hid (HB.out.trans (b10.mono HB.out.size))
        clear b10
        go_wp2_with fail
        refine (reads_any t hts htg _ w.heap.size _ (by rw [HRP.out]; exact RowsAt.nil _ _)).mono ?_
        rintro e w11 ⟨rfl, b11⟩
        have HB11 := Lib.hid (HB10.out.trans (b11.mono HB10.out.size))
        clear b11
        go_wp2
        go_ret
        exact ⟨rfl, HB11.out⟩
end Go.Proofs.YtijnjeibnochpaaDoor.Lab
