/- GridWhole: the walk. -/
import Derived.Test.YtdeahnphcfcfpaaGrOpen
import Derived.Test.YtdeahnphcfcfpaaGgWorks
namespace Go.Proofs.Ytdeahnphcfcfpaa.Lab
open Go Go.RowKit

theorem gridM_len (cols : Nat) (LL : List (List Dc)) (O : List Dc) : (gridM cols LL O).length ≤ 8 := by
  have hl : (rowsD (1 + cols % 20) LL O).length = min 8 LL.length := by unfold rowsD; rw [List.length_map, List.length_take]
  have hn := gK_len (c := 1 + cols % 20) (RS := rowsD (1 + cols % 20) LL O) (n := max 1 (min 8 LL.length)) (k := min 8 LL.length) (by omega) (by omega)
  rw [gridM, hn]
  omega
def Rd (W : World) (av : Option Addr) (m j : Nat) : Prop := ∃ gb xb xc R, av = some ⟨gb, 0, none⟩ ∧ Hid (W.cell? ⟨gb, j, none⟩ = some (.slice (some ⟨xb, 0, none⟩) m xc)) ∧ Hid (RowIn W (.slice (some ⟨xb, 0, none⟩) m xc) R) ∧ Hid (Wh R) ∧ Hid (R.length ≤ 1000)
/-- Rows that are read one by one. -/
theorem Rl.each {w : World} {lo m : Nat} {av : Option Addr} {nw vc : Nat} {G : List Cls} (h : Rl w lo (.slice av nw vc) G) (hn : nw = G.length) (hr : ∀ R ∈ G, Rw m R) (hm : m ≤ 520) :
    ∀ W j, Below w.heap.size w W → j < nw → Rd W av m j := fun W j kb hj => by
  obtain ⟨K, hk, rfl⟩ := h
  rw [List.length_map] at hn
  obtain ⟨gb, c, e, _, hlt⟩ := hk.here (by omega)
  injection e with e1 e2 e3
  subst e1 e3
  have hjk : j < K.length := by omega
  have hx := hr K[j].R (List.mem_map_of_mem (List.getElem_mem hjk))
  have hc := (hk.below kb).at hjk
  have hrow := ((hk.below kb).row hjk).row
  have hv : hdV K[j] = .slice (some ⟨K[j].b, 0, none⟩) m K[j].c := by rw [hdV, hx.2.1]
  rw [hv] at hc hrow
  exact ⟨gb, K[j].b, K[j].c, K[j].R, rfl, Lib.hid hc, Lib.hid hrow, Lib.hid hx.1, Lib.hid (by rw [hx.2.1]; omega)⟩
theorem S11.below {w w' : World} {b o : Nat} {a : St} {n : Nat} (h : S11 w b o a) (k : Below n w w') (hb : b < n) : S11 w' b o a := by
  obtain ⟨q0, q1, q2, q3, q4, q5, q6, q7, q8, q9, q10⟩ := h
  have e : ∀ o, w'.cell? ⟨b, o, none⟩ = w.cell? ⟨b, o, none⟩ := fun o => World.cell?_of_block (a := ⟨b, o, none⟩) (k.block b hb)
  exact ⟨(e _).trans q0, (e _).trans q1, (e _).trans q2, (e _).trans q3, (e _).trans q4, (e _).trans q5, (e _).trans q6, (e _).trans q7, (e _).trans q8, (e _).trans q9, (e _).trans q10⟩
set_option maxHeartbeats 16000000 in
set_option maxRecDepth 100000 in
theorem gwhole_core (W : World) (cols : Nat) (lv : Value) (LL : List (List Dc)) (aa : Option Addr) (len cap : Nat) (A : Nat → St) (hL : LnsIn W lv LL) (hA : StsIn W aa len A) :
    Calls Try.prog 4 #[.agg #[.int .u8 (cols : Nat), lv], .slice aa len cap] W fun e w' => e = .returned (.bool true) ∧ Below W.heap.size W w' := by
  have HLL := Lib.hid hL
  have HAA := Lib.hid hA
  obtain ⟨la, lc, hlv, _⟩ := hL
  obtain ⟨ll, hll⟩ : ∃ ll, ll = LL.length := ⟨_, rfl⟩
  rw [← hll] at hlv
  subst hlv
  obtain ⟨w0, hw0⟩ : ∃ X, X = W.alloc (.cells #[.int .u8 (cols : Nat), .slice la ll lc] 24) := ⟨_, rfl⟩
  obtain ⟨b2, hb2⟩ : ∃ b, b = W.heap.size := ⟨_, rfl⟩
  have B0 : Below W.heap.size W w0 := by rw [hw0]; exact (Below.refl _ _).alloc (Nat.le_refl _) _
  have h2 : Lie w0 b2 [.int .u8 (cols : Nat), .slice la ll lc] := by rw [hw0]; exact Lie.new W _ _ b2 hb2
  have HL2 := Lib.hid h2
  have HB0 := Lib.hid B0
  clear B0 h2 hA hll
  go_enter Try.func4, Try.ntmps4
  go_upto_region 1 with (fail)
  rw [← hw0, ← hb2]
  clear hw0 hb2
  go_wp2_with fail
  refine (works_any w0).mono ?_
  rintro e w1 ⟨rfl, b1⟩
  have HB1 := Lib.hid (HB0.out.trans (b1.mono HB0.out.size))
  have yb := HL2.out.below b1
  have y0 := yb.at 0 rfl
  have y1 := yb.at 1 rfl
  clear b1 yb HL2 HB0
  go_wp2_with fail
  refine (rgrid_any w1 cols (.slice la ll lc) (.slice none 0 0) LL [] (HLL.out.below HB1.out) (DsIn.nil _ _ _)).mono ?_
  rintro e w2 ⟨v, rfl, hrl, b2'⟩
  have HRL := Lib.hid hrl
  have HB2 := Lib.hid (HB1.out.trans (b2'.mono HB1.out.size))
  clear hrl b2' HB1 y0 y1 HLL
  obtain ⟨G0, hG0⟩ : ∃ G, G = gridM cols LL [] := ⟨_, rfl⟩
  have HGD0 := Lib.hid (gridM_good cols LL [])
  have HGL0 := Lib.hid (gridM_len cols LL [])
  rw [← hG0] at HRL HGD0 HGL0
  obtain ⟨m0, hm0⟩ : ∃ m, m = 1 + cols % 20 := ⟨_, rfl⟩
  have HM5 := Lib.hid (show m0 ≤ 512 by omega)
  rw [← hm0] at HGD0
  clear hG0 hm0
  obtain ⟨va, vc, rfl⟩ := HRL.out.shape
  obtain ⟨nv, hnv⟩ : ∃ n, n = G0.length := ⟨_, rfl⟩
  rw [← hnv] at HRL ⊢
  have HNV := Lib.hid hnv
  clear hnv
  go_wp2_with fail
  refine (of_any w2 _ m0 (.slice va nv vc) G0 HRL.out HGD0.out ⟨by have := HGL0.out; omega, HM5.out⟩).mono ?_
  rintro e w3 ⟨p, rb0, c0, rfl, gg, b3⟩
  obtain ⟨lo, hlo⟩ : ∃ lo, lo = w2.heap.size := ⟨_, rfl⟩
  rw [← hlo] at gg
  have HLO := Lib.hid (show W.heap.size ≤ lo by rw [hlo]; exact HB2.out.size)
  have HLW := Lib.hid (show lo ≤ w3.heap.size by rw [hlo]; exact b3.size)
  have HB3 := Lib.hid (HB2.out.trans (b3.mono HB2.out.size))
  have HG3 := Lib.hid gg
  clear gg b3 hlo HRL HB2
  go_wp2_with fail
  refine (whole_yes w3 lo p rb0 c0 m0 G0 HG3.out HGD0.out).mono ?_
  rintro e w4 ⟨rfl, b4⟩
  have HG0 := Lib.hid (HG3.out.below b4)
  have HBS := Lib.hid (HB3.out.trans (b4.mono HB3.out.size))
  clear b4 HG3 HB3
  obtain ⟨mm, hmm⟩ : ∃ m, m = min len 40 := ⟨_, rfl⟩
  have HMM := Lib.hid hmm
  have hm40 : mm ≤ 40 := by omega
  clear hmm
  go_wp2
  go_loopg [6] mm (fun Gs i wr => ∃ (k : Nat) (G : List Cls) (m rb c : Nat), i = .int .i64 k ∧ k ≤ mm ∧ mm - k ≤ Gs ∧ Hid (Gg wr lo p rb c G) ∧ Hid (Good G m) ∧ Hid (Below W.heap.size W wr))
  case atStart => exact ⟨0, G0, m0, rb0, c0, rfl, Nat.zero_le _, Nat.sub_le _ _, HG0, HGD0, HBS⟩
  case round =>
    obtain ⟨k, G, m, rb, c, rfl, hkn, hgk, HG, HD, HB⟩ := hrel
    clear HG0 HGD0 HBS
    by_cases hlt : k < mm
    · have HLT := Lib.hid (show k + 1 ≤ mm from hlt)
      have hA : (k : Int) < (len : Int) := by have := HMM.out; omega
      have hB : (k : Int) < 40 := by omega
      have HKL := Lib.hid (show k < len by omega)
      obtain ⟨sb, so, rfl, hsb, hst⟩ := HAA.out.2.2 (by omega)
      obtain ⟨s, hs⟩ : ∃ s, s = A k := ⟨_, rfl⟩
      have HOK := Lib.hid (show s.ok by rw [hs]; exact HAA.out.2.1 k HKL.out)
      have HS11 := Lib.hid (show ∀ W', Below W.heap.size W W' → S11 W' sb (so + k * 11) s from fun W' kb => by rw [hs]; exact (hst k HKL.out).below kb hsb)
      clear hs hst hsb
      go_wp2_with fail
      refine (gsize wr lo p rb c m G HG.out HD.out).mono ?_
      rintro e w1 ⟨rfl, b1⟩
      have HB1 := Lib.hid (HB.out.trans (b1.mono HB.out.size))
      have HG1 := Lib.hid (HG.out.below b1)
      clear b1 HG HB
      obtain ⟨z0, z1, z2, z3, z4, z5, z6, z7, z8, z9, z10⟩ := HS11.out w1 HB1.out
      obtain ⟨gl, hgl⟩ : ∃ g, g = G.length := ⟨_, rfl⟩
      rw [← hgl]
      have HGL := Lib.hid hgl
      clear hgl
      go_wp2_with fail
      have HLW1 := Lib.hid (show lo ≤ w1.heap.size from Nat.le_of_lt (Nat.lt_of_le_of_lt HG1.out.lt.2.2.2 HG1.out.lt.1))
      refine (show DoesS w1 lo p rb m G s from does_any w1 lo p rb c m G s HOK.out HG1.out HD.out HLW1.out).mono ?_
      rintro e w2 ⟨v, rfl, hrl, _, ⟨rb5, c5, gg, hrb5⟩, bt⟩
      obtain ⟨G5, hG5⟩ : ∃ G', G' = doesG s m G := ⟨_, rfl⟩
      obtain ⟨m5, hm5⟩ : ∃ m', m' = widthS s m := ⟨_, rfl⟩
      have HD5 := Lib.hid (does_good s HD.out)
      have HSZ := Lib.hid (show s.what % 10 ≠ 9 → G5.length = G.length ∧ m5 = m from fun h => by rw [hG5, hm5]; exact does_size s h)
      have HRS := Lib.hid (show s.what % 10 = 9 → 0 < s.n % 12 → 0 < s.m % 24 → G5.length = s.n % 12 ∧ m5 = s.m % 24 from fun h h1 h2 => by rw [hG5, hm5]; exact does_res s HD.out h h1 h2)
      rw [← hG5] at gg HD5
      rw [← hm5] at HD5
      have HG2 := Lib.hid gg
      have HB2 := Lib.hid (show Below W.heap.size W w2 from HB1.out.trans (bt.below (C := W.heap.size) (fun i hi => by have h1 := HG1.out.lt; have h2 := HLO.out; rcases hi with rfl | rfl <;> omega) HB1.out.size))
      obtain ⟨hwl, hwr⟩ := went_good s HD.out
      obtain ⟨av, vc5, hv⟩ := hrl.shape
      obtain ⟨nw, hnw⟩ : ∃ n, n = (wentS s G).length := ⟨_, rfl⟩
      rw [← hnw] at hv hwl
      subst hv
      have HWE0 := Lib.hid (hrl.each hnw hwr HD.out.m1)
      have HNW := Lib.hid hwl
      clear gg bt hrl hrb5 hG5 hm5 hwl hwr hnw HG1 HB1 z0 z1 z2 z3 z4 z5 z6 z7 z8 z9 z10
      obtain ⟨z0, z1, z2, z3, z4, z5, z6, z7, z8, z9, z10⟩ := HS11.out w2 HB2.out
      go_wp2_with fail
      refine (gsize w2 lo p rb5 c5 m5 G5 HG2.out HD5.out).mono ?_
      rintro e w4 ⟨rfl, b4⟩
      have HB4 := Lib.hid (HB2.out.trans (b4.mono HB2.out.size))
      have HG4 := Lib.hid (HG2.out.below b4)
      have HWE := Lib.hid (show ∀ W j, Below w4.heap.size w4 W → j < nw → Rd W av m j from fun W j kb hj => HWE0.out W j (b4.trans (kb.mono b4.size)) hj)
      obtain ⟨g5, hg5⟩ : ∃ g, g = G5.length := ⟨_, rfl⟩
      rw [← hg5]
      rw [← hg5, ← HGL.out] at HSZ
      rw [← hg5] at HRS
      clear b4 HG2 HB2 HWE0 hg5 z0 z1 z2 z3 z4 z5 z6 z7 z8 z9 z10
      obtain ⟨z0, z1, z2, z3, z4, z5, z6, z7, z8, z9, z10⟩ := HS11.out w4 HB4.out
      have hnw5 : nw ≤ 520 := HNW.out
      obtain ⟨e10, he10⟩ : ∃ e, e = s.what % 10 := ⟨_, rfl⟩
      obtain ⟨n0, hn0⟩ : ∃ k, k = s.n % 12 := ⟨_, rfl⟩
      obtain ⟨m0', hm0'⟩ : ∃ k, k = s.m % 24 := ⟨_, rfl⟩
      have hl1 : e10 < 10 := by omega
      have hl2 : n0 < 12 := by omega
      have hl3 : m0' < 24 := by omega
      rw [← he10] at HSZ HRS
      rw [← hn0, ← hm0'] at HRS
      have r1 : Int.tmod (s.what : Int) 10 = (e10 : Int) := by rw [he10]; rfl
      have r1' : (s.what : Int) % 10 = (e10 : Int) := by omega
      have u1 : IntKind.u8.wrap (e10 : Int) = (e10 : Int) := by rw [IntKind.wrap_u8]; omega
      have r4 : Int.tmod (s.n : Int) 12 = (n0 : Int) := by rw [hn0]; rfl
      have r4' : (s.n : Int) % 12 = (n0 : Int) := by omega
      have r5 : Int.tmod (s.m : Int) 24 = (m0' : Int) := by rw [hm0']; rfl
      have r5' : (s.m : Int) % 24 = (m0' : Int) := by omega
      have u3 : IntKind.u8.wrap (n0 : Int) = (n0 : Int) := by rw [IntKind.wrap_u8]; omega
      have u4 : IntKind.i64.wrap (n0 : Int) = (n0 : Int) := by rw [IntKind.wrap_i64]; omega
      have u5 : IntKind.u8.wrap (m0' : Int) = (m0' : Int) := by rw [IntKind.wrap_u8]; omega
      have u6 : IntKind.i64.wrap (m0' : Int) = (m0' : Int) := by rw [IntKind.wrap_i64]; omega
      clear he10 hn0 hm0'
      by_cases hc9 : e10 = 9
      · subst hc9
        by_cases hn : n0 = 0
        · subst hn
          go_wp2_with fail
          refine (whole_yes w4 lo p rb5 c5 _ G5 HG4.out HD5.out).mono ?_
          rintro e w5 ⟨rfl, b5⟩
          have HB5 := Lib.hid (HB4.out.trans (b5.mono HB4.out.size))
          have HG5 := Lib.hid (HG4.out.below b5)
          have HI0 := Lib.hid (show Below w5.heap.size w5 w5 from Below.refl _ _)
          have HEL := Lib.hid (show ∀ W j, Below w5.heap.size w5 W → j < nw → Rd W av m j from fun W j kb hj => HWE.out W j (b5.trans (kb.mono b5.size)) hj)
          clear b5 HG4 HB4 HWE z0 z1 z2 z3 z4 z5 z6 z7 z8 z9 z10
          obtain ⟨z0, z1, z2, z3, z4, z5, z6, z7, z8, z9, z10⟩ := HS11.out w5 HB5.out
          go_wp2
          go_loopg [12] nw (fun Gs i wi => ∃ (j : Nat), i = .int .i64 j ∧ j ≤ nw ∧ nw - j ≤ Gs ∧ Hid (Below w5.heap.size w5 wi))
          case atStart => exact ⟨0, rfl, Nat.zero_le _, Nat.sub_le _ _, HI0⟩
          case round =>
            obtain ⟨j, rfl, hjn, hgj, HI⟩ := hrel
            clear HI0
            by_cases hlj : j < nw
            · have HLJ := Lib.hid (show j + 1 ≤ nw from hlj)
              obtain ⟨gb, xb, xc, R, rfl, ck, HRW, HWH, HLR⟩ := HEL.out wr j HI.out hlj
              have ck' := ck.out
              clear ck
              go_wp2_with fail
              refine (whole_any wr _ R HRW.out HWH.out HLR.out).mono ?_
              rintro e wj ⟨rfl, bj⟩
              have HIJ := Lib.hid (HI.out.trans (bj.mono HI.out.size))
              obtain ⟨gb', xb', xc', R', hgg, ck2, _⟩ := HEL.out wj j HIJ.out hlj
              have cj := ck2.out
              obtain rfl : gb' = gb := by injection hgg with hgg; injection hgg with hgg; exact hgg.symm
              clear bj HI HRW ck' ck2 hgg
              go_wp2
              go_roundg (nw - (j + 1))
              case rel => exact ⟨j + 1, by go_num, HLJ.out, Nat.le_refl _, HIJ⟩
              case measure => have := HLJ.out; omega
            · obtain rfl : j = nw := by omega
              have HBE := Lib.hid (HB5.out.trans (HI.out.mono HB5.out.size))
              have HGE := Lib.hid (HG5.out.below HI.out)
              clear HI HEL HG5 HB5
              go_wp2
              go_roundg (mm - (k + 1))
              case rel => exact ⟨k + 1, G5, _, rb5, c5, by go_num, HLT.out, Nat.le_refl _, HGE, HD5, HBE⟩
              case measure => have := HLT.out; omega
        · have hnp : (0 : Int) < (n0 : Int) := by omega
          by_cases hmz : m0' = 0
          · subst hmz
            go_wp2_with fail
            refine (whole_yes w4 lo p rb5 c5 _ G5 HG4.out HD5.out).mono ?_
            rintro e w5 ⟨rfl, b5⟩
            have HB5 := Lib.hid (HB4.out.trans (b5.mono HB4.out.size))
            have HG5 := Lib.hid (HG4.out.below b5)
            have HI0 := Lib.hid (show Below w5.heap.size w5 w5 from Below.refl _ _)
            have HEL := Lib.hid (show ∀ W j, Below w5.heap.size w5 W → j < nw → Rd W av m j from fun W j kb hj => HWE.out W j (b5.trans (kb.mono b5.size)) hj)
            clear b5 HG4 HB4 HWE z0 z1 z2 z3 z4 z5 z6 z7 z8 z9 z10
            obtain ⟨z0, z1, z2, z3, z4, z5, z6, z7, z8, z9, z10⟩ := HS11.out w5 HB5.out
            go_wp2
            go_loopg [12] nw (fun Gs i wi => ∃ (j : Nat), i = .int .i64 j ∧ j ≤ nw ∧ nw - j ≤ Gs ∧ Hid (Below w5.heap.size w5 wi))
            case atStart => exact ⟨0, rfl, Nat.zero_le _, Nat.sub_le _ _, HI0⟩
            case round =>
              obtain ⟨j, rfl, hjn, hgj, HI⟩ := hrel
              clear HI0
              by_cases hlj : j < nw
              · have HLJ := Lib.hid (show j + 1 ≤ nw from hlj)
                obtain ⟨gb, xb, xc, R, rfl, ck, HRW, HWH, HLR⟩ := HEL.out wr j HI.out hlj
                have ck' := ck.out
                clear ck
                go_wp2_with fail
                refine (whole_any wr _ R HRW.out HWH.out HLR.out).mono ?_
                rintro e wj ⟨rfl, bj⟩
                have HIJ := Lib.hid (HI.out.trans (bj.mono HI.out.size))
                obtain ⟨gb', xb', xc', R', hgg, ck2, _⟩ := HEL.out wj j HIJ.out hlj
                have cj := ck2.out
                obtain rfl : gb' = gb := by injection hgg with hgg; injection hgg with hgg; exact hgg.symm
                clear bj HI HRW ck' ck2 hgg
                go_wp2
                go_roundg (nw - (j + 1))
                case rel => exact ⟨j + 1, by go_num, HLJ.out, Nat.le_refl _, HIJ⟩
                case measure => have := HLJ.out; omega
              · obtain rfl : j = nw := by omega
                have HBE := Lib.hid (HB5.out.trans (HI.out.mono HB5.out.size))
                have HGE := Lib.hid (HG5.out.below HI.out)
                clear HI HEL HG5 HB5
                go_wp2
                go_roundg (mm - (k + 1))
                case rel => exact ⟨k + 1, G5, _, rb5, c5, by go_num, HLT.out, Nat.le_refl _, HGE, HD5, HBE⟩
                case measure => have := HLT.out; omega
          · have hmp : (0 : Int) < (m0' : Int) := by omega
            obtain ⟨e1, e2⟩ := HRS.out rfl (by omega) (by omega)
            subst e1 e2
            go_wp2_with fail
            refine (whole_yes w4 lo p rb5 c5 _ G5 HG4.out HD5.out).mono ?_
            rintro e w5 ⟨rfl, b5⟩
            have HB5 := Lib.hid (HB4.out.trans (b5.mono HB4.out.size))
            have HG5 := Lib.hid (HG4.out.below b5)
            have HI0 := Lib.hid (show Below w5.heap.size w5 w5 from Below.refl _ _)
            have HEL := Lib.hid (show ∀ W j, Below w5.heap.size w5 W → j < nw → Rd W av m j from fun W j kb hj => HWE.out W j (b5.trans (kb.mono b5.size)) hj)
            clear b5 HG4 HB4 HWE z0 z1 z2 z3 z4 z5 z6 z7 z8 z9 z10
            obtain ⟨z0, z1, z2, z3, z4, z5, z6, z7, z8, z9, z10⟩ := HS11.out w5 HB5.out
            go_wp2
            go_loopg [12] nw (fun Gs i wi => ∃ (j : Nat), i = .int .i64 j ∧ j ≤ nw ∧ nw - j ≤ Gs ∧ Hid (Below w5.heap.size w5 wi))
            case atStart => exact ⟨0, rfl, Nat.zero_le _, Nat.sub_le _ _, HI0⟩
            case round =>
              obtain ⟨j, rfl, hjn, hgj, HI⟩ := hrel
              clear HI0
              by_cases hlj : j < nw
              · have HLJ := Lib.hid (show j + 1 ≤ nw from hlj)
                obtain ⟨gb, xb, xc, R, rfl, ck, HRW, HWH, HLR⟩ := HEL.out wr j HI.out hlj
                have ck' := ck.out
                clear ck
                go_wp2_with fail
                refine (whole_any wr _ R HRW.out HWH.out HLR.out).mono ?_
                rintro e wj ⟨rfl, bj⟩
                have HIJ := Lib.hid (HI.out.trans (bj.mono HI.out.size))
                obtain ⟨gb', xb', xc', R', hgg, ck2, _⟩ := HEL.out wj j HIJ.out hlj
                have cj := ck2.out
                obtain rfl : gb' = gb := by injection hgg with hgg; injection hgg with hgg; exact hgg.symm
                clear bj HI HRW ck' ck2 hgg
                go_wp2
                go_roundg (nw - (j + 1))
                case rel => exact ⟨j + 1, by go_num, HLJ.out, Nat.le_refl _, HIJ⟩
                case measure => have := HLJ.out; omega
              · obtain rfl : j = nw := by omega
                have HBE := Lib.hid (HB5.out.trans (HI.out.mono HB5.out.size))
                have HGE := Lib.hid (HG5.out.below HI.out)
                clear HI HEL HG5 HB5
                go_wp2
                go_roundg (mm - (k + 1))
                case rel => exact ⟨k + 1, G5, _, rb5, c5, by go_num, HLT.out, Nat.le_refl _, HGE, HD5, HBE⟩
                case measure => have := HLT.out; omega
      · obtain ⟨e1, e2⟩ := HSZ.out hc9
        have n9 : ((e10 : Int) == 9) = false := by rw [beq_eq_false_iff_ne]; omega
        have e1' := e1.symm
        have e2' := e2.symm
        subst e1' e2'
        go_wp2_with fail
        refine (whole_yes w4 lo p rb5 c5 _ G5 HG4.out HD5.out).mono ?_
        rintro e w5 ⟨rfl, b5⟩
        have HB5 := Lib.hid (HB4.out.trans (b5.mono HB4.out.size))
        have HG5 := Lib.hid (HG4.out.below b5)
        have HI0 := Lib.hid (show Below w5.heap.size w5 w5 from Below.refl _ _)
        have HEL := Lib.hid (show ∀ W j, Below w5.heap.size w5 W → j < nw → Rd W av m j from fun W j kb hj => HWE.out W j (b5.trans (kb.mono b5.size)) hj)
        clear b5 HG4 HB4 HWE z0 z1 z2 z3 z4 z5 z6 z7 z8 z9 z10
        obtain ⟨z0, z1, z2, z3, z4, z5, z6, z7, z8, z9, z10⟩ := HS11.out w5 HB5.out
        go_wp2
        go_loopg [12] nw (fun Gs i wi => ∃ (j : Nat), i = .int .i64 j ∧ j ≤ nw ∧ nw - j ≤ Gs ∧ Hid (Below w5.heap.size w5 wi))
        case atStart => exact ⟨0, rfl, Nat.zero_le _, Nat.sub_le _ _, HI0⟩
        case round =>
          obtain ⟨j, rfl, hjn, hgj, HI⟩ := hrel
          clear HI0
          by_cases hlj : j < nw
          · have HLJ := Lib.hid (show j + 1 ≤ nw from hlj)
            obtain ⟨gb, xb, xc, R, rfl, ck, HRW, HWH, HLR⟩ := HEL.out wr j HI.out hlj
            have ck' := ck.out
            clear ck
            go_wp2_with fail
            refine (whole_any wr _ R HRW.out HWH.out HLR.out).mono ?_
            rintro e wj ⟨rfl, bj⟩
            have HIJ := Lib.hid (HI.out.trans (bj.mono HI.out.size))
            obtain ⟨gb', xb', xc', R', hgg, ck2, _⟩ := HEL.out wj j HIJ.out hlj
            have cj := ck2.out
            obtain rfl : gb' = gb := by injection hgg with hgg; injection hgg with hgg; exact hgg.symm
            clear bj HI HRW ck' ck2 hgg
            go_wp2
            go_roundg (nw - (j + 1))
            case rel => exact ⟨j + 1, by go_num, HLJ.out, Nat.le_refl _, HIJ⟩
            case measure => have := HLJ.out; omega
          · obtain rfl : j = nw := by omega
            have HBE := Lib.hid (HB5.out.trans (HI.out.mono HB5.out.size))
            have HGE := Lib.hid (HG5.out.below HI.out)
            clear HI HEL HG5 HB5
            go_wp2
            go_roundg (mm - (k + 1))
            case rel => exact ⟨k + 1, G5, _, rb5, c5, by go_num, HLT.out, Nat.le_refl _, HGE, HD5, HBE⟩
            case measure => have := HLT.out; omega
    · have HBE := HB
      clear HG HD
      obtain rfl : k = mm := by omega
      by_cases hq : k = len
      · subst hq
        go_wp2
        go_ret
        exact ⟨rfl, HBE.out⟩
      · have h40 : k = 40 := by have := HMM.out; omega
        have g8 : (40 : Int) < (len : Int) := by have := HMM.out; omega
        subst h40
        go_wp2
        go_ret
        exact ⟨rfl, HBE.out⟩
set_option maxRecDepth 100000 in
theorem gridWhole_walk {H : Type} (enc : TypeId × Value → H) (base : Nat) (W : World)
    (v0 : Value) (d0 : DataW H) (p0 : List MemPlace) (ok0 : Value.okWide Try.prog W .any base 24 v0) (k0 : DataW.Trod enc Try.prog W 0 (fun _ => true) true 24 v0 d0 p0)
    (v1 : Value) (d1 : DataW H) (p1 : List MemPlace) (ok1 : Value.okWide Try.prog W .any base 59 v1) (k1 : DataW.Trod enc Try.prog W 0 (fun _ => true) true 59 v1 d1 p1) :
    Calls Try.prog 4 #[v0, v1] W fun e w' => e = .returned (.bool true) ∧ Below W.heap.size W w' := by
  obtain ⟨cols, u, LL, rfl, hL⟩ := open_gdraft enc base W ok0 k0
  obtain ⟨a, len, cap, T, rfl, hT⟩ := open_sts enc base W ok1 k1
  exact gwhole_core W cols u LL a len cap T hL hT
end Go.Proofs.Ytdeahnphcfcfpaa.Lab
