/- The project's Resize. -/
import Derived.Test.YtmfbknmcmopjnaaTbNew
set_option linter.unusedVariables false
namespace Go.Proofs.Ytmfbknmcmopjnaa.Lab
open Go Go.RowKit Go.Shelf

theorem mem_ups {L : List Bool} {a j : Nat} : j ∈ ups L a ↔ a ≤ j ∧ j < L.length ∧ L.getD j false = true := by
  unfold ups
  rw [List.mem_filter, List.mem_range'_1]
  constructor
  · rintro ⟨⟨h1, h2⟩, h3⟩
    exact ⟨h1, by omega, h3⟩
  · rintro ⟨h1, h2, h3⟩
    exact ⟨⟨h1, by omega⟩, h3⟩
theorem mem_is {K : List Nat} {j : Nat} : (j : Int) ∈ is K ↔ j ∈ K := by
  unfold is
  rw [List.mem_map]
  constructor
  · rintro ⟨a, ha, e⟩
    obtain rfl : a = j := by omega
    exact ha
  · exact fun h => ⟨j, h, rfl⟩
theorem res_eq (L : List Bool) (c : Int) (b : Nat) : putL true (putL true (List.replicate (szN c) false) (is (stops L))) (is (sideL (newM c b).L ((L.length : Int) - 1) true)) = resL L (szN c) := by
  refine bools_ext (by rw [len_putL, len_putL, List.length_replicate, len_resL]) fun j hj => ?_
  rw [len_putL, len_putL, List.length_replicate] at hj
  have hr := getD_resL L (szN c) j
  rw [if_pos hj] at hr
  have hn := getD_new c b j
  rw [if_pos hj] at hn
  rw [hr, getD_putL, getD_putL, len_putL, List.length_replicate]
  have hz : (List.replicate (szN c) false).getD j false = false := by rw [List.getD_eq_getElem?_getD, List.getElem?_replicate, if_pos hj]; rfl
  rw [hz]
  unfold sideL
  rw [if_pos rfl]
  simp only [mem_is, mem_stops, mem_ups, len_newM, hn]
  obtain ⟨a, ha⟩ : ∃ a, a = (inN ((L.length : Int) - 1) (-1) (szN c : Nat) + 1).toNat := ⟨_, rfl⟩
  have ha2 : (L.length ≤ szN c → a = L.length) ∧ (szN c < L.length → a = szN c ∨ a = szN c + 1) := by unfold inN at ha; omega
  rw [← ha]
  by_cases hl : j < L.length
  · rw [if_pos hl]
    have : ¬ (a ≤ j ∧ j < szN c ∧ firstB j = true) := by
      rintro ⟨h, _⟩
      rcases Nat.lt_or_ge (szN c) L.length with q | q
      · have := ha2.2 q; omega
      · have := ha2.1 q; omega
    rw [if_neg (fun q => this q.1)]
    cases hv : L.getD j false <;> simp [hl, hj]
  · rw [if_neg hl]
    have h1 := ha2.1 (by omega)
    have hx : ¬ (j < L.length ∧ L.getD j false = true) := fun q => hl q.1
    cases hv : firstB j <;> simp [hl, hj, h1] <;> omega
set_option maxHeartbeats 8000000 in
theorem res_any (t : Tb) (ht : t.Ok) (c : Int) (w : World) : Calls Try.prog 31 #[tbV t, .int .i64 c] w fun e w' => e = .returned (tbV (t.res c)) ∧ Below w.heap.size w w' := by
  obtain ⟨n, hn⟩ : ∃ n, n = szN c := ⟨_, rfl⟩
  obtain ⟨fr, hfr⟩ : ∃ fr, fr = newM c t.b := ⟨_, rfl⟩
  have HNW := Lib.hid (fun w => new_any c t.b w)
  rw [← hfr] at HNW
  have HFL := Lib.hid (show fr.L.length = n ∧ fr.b = t.b ∧ fr.l = t.b ∧ n ≤ 512 by rw [hfr, hn]; exact ⟨len_newM c t.b, rfl, rfl, szN_le c⟩)
  obtain ⟨nn, hnn⟩ : ∃ nn : Tb, nn = ⟨List.replicate n false, t.b, t.b⟩ := ⟨_, rfl⟩
  have HNO := Lib.hid (show ∀ w, Calls Try.prog 32 #[tbV fr] w fun e w' => e = .returned (tbV nn) ∧ Below w.heap.size w w' from fun w => by
    have h := none_any fr w
    rw [show fr.none = nn by rw [hnn, ← HFL.out.1, ← HFL.out.2.1]; rfl] at h
    exact h)
  obtain ⟨q1, hq1⟩ : ∃ q1 : Tb, q1 = ⟨putL true nn.L (is (stops t.L)), nn.b, nn.l⟩ := ⟨_, rfl⟩
  have HLI := Lib.hid (fun w => list_any t ht.len w)
  have HNL := Lib.hid (show nn.L.length ≤ 512 ∧ q1.L.length ≤ 512 by rw [hq1, hnn]; simp only [len_putL, List.length_replicate]; have := HFL.out; omega)
  have HW1 := Lib.hid (show ∀ v w, IsIn w v (is (stops t.L)) → Calls Try.prog 34 #[tbV nn, v] w fun e w' => e = .returned (tbV q1) ∧ Below w.heap.size w w' from fun v w h => by
    rw [hq1]
    exact with_any nn HNL.out.1 v _ w h (by have := stops_len t.L; have := ht.len; simp only [is, List.length_map]; omega))
  obtain ⟨S, hS⟩ : ∃ S, S = sideL fr.L ((t.L.length : Int) - 1) true := ⟨_, rfl⟩
  have HFA := Lib.hid (fun w => from_any fr ((t.L.length : Int) - 1) 1 w)
  have HCO := Lib.hid (fun w b (h : FromAt w b fr ((t.L.length : Int) - 1) (stepV true)) (hb : b + 2 < w.heap.size) => collect_any w b fr (by have := HFL.out; omega) ((t.L.length : Int) - 1) true h hb)
  rw [← hS] at HCO
  obtain ⟨q2, hq2⟩ : ∃ q2 : Tb, q2 = ⟨putL true q1.L (is S), q1.b, q1.l⟩ := ⟨_, rfl⟩
  have HSL := Lib.hid (show S.length ≤ 512 by rw [hS]; have := side_len fr.L ((t.L.length : Int) - 1) true; have := HFL.out; omega)
  have HW2 := Lib.hid (show ∀ v w, IsIn w v (is S) → Calls Try.prog 34 #[tbV q1, v] w fun e w' => e = .returned (tbV q2) ∧ Below w.heap.size w w' from fun v w h => by
    rw [hq2]
    exact with_any q1 HNL.out.2 v _ w h (by have := HSL.out; simp only [is, List.length_map]; omega))
  have HV := Lib.hid (show t.res c = ⟨q2.L, q2.b, t.l⟩ ∧ q2.b = t.b by
    have h := res_eq t.L c t.b
    rw [← hn, ← hfr, ← hS] at h
    rw [hq2, hq1, hnn, Tb.res, ← hn]
    exact ⟨by rw [← h], rfl⟩)
  have HT5 := Lib.hid ht.len
  clear hn hfr hnn hq1 hS hq2 ht
  obtain ⟨w2, hw2⟩ : ∃ x, x = (w.alloc (.cells (tbC t) TB)).alloc (.cells #[.int .u64 0, .int .u64 0, .int .u64 0, .int .u64 0, .int .u64 0, .int .u64 0, .int .u64 0, .int .u64 0, .int .i64 0, .int .u8 0, .int .u8 0] TB) := ⟨_, rfl⟩
  obtain ⟨b, hb⟩ : ∃ b, b = w.heap.size := ⟨_, rfl⟩
  have HB2 := Lib.hid (show Below w.heap.size w w2 by rw [hw2]; exact ((Below.refl _ _).alloc (Nat.le_refl _) _).alloc (by simp) _)
  have HT := Lib.hid (show TbAt w2 b t by
    unfold TbAt
    rw [hw2, Below.heap_alloc _ _ _ (by rw [hb]; simp), hb]
    exact World.alloc_heap_new w _)
  have HZ := Lib.hid (show TbAt w2 (b + 1) Tb.zero by
    unfold TbAt
    rw [zero_cells]
    have := World.alloc_heap_new (w.alloc (.cells (tbC t) TB)) (.cells #[.int .u64 0, .int .u64 0, .int .u64 0, .int .u64 0, .int .u64 0, .int .u64 0, .int .u64 0, .int .u64 0, .int .i64 0, .int .u8 0, .int .u8 0] TB)
    rw [World.size_alloc, ← hw2, ← hb] at this
    exact this)
  have HS := Lib.hid (show b = w.heap.size ∧ w2.heap.size = b + 2 from ⟨hb, by rw [hw2, hb]; simp⟩)
  go_enter Try.func31, Try.ntmps31
  go_upto_region 1 with (fail)
  rw [← hw2, ← hb]
  clear hw2 hb
  obtain ⟨c0, c1, c2, c3, c4, c5, c6, c7, c8, c9, c10⟩ := HT.out.cells
  go_wp2_with fail
  refine (HNW.out _).mono ?_
  rintro e w3 ⟨rfl, b3⟩
  have HT3 := Lib.hid (HT.out.below b3)
  have HZ3 := Lib.hid (HZ.out.below b3)
  have HB3 := Lib.hid (HB2.out.trans (b3.mono HB2.out.size))
  clear b3 c0 c1 c2 c3 c4 c5 c6 c7 c8 c9 c10 HT HZ HNW
  obtain ⟨p, hp⟩ : ∃ p, p = w3.heap.size := ⟨_, rfl⟩
  obtain ⟨w4, hw4⟩ : ∃ x, x = w3.alloc (.cells (tbC fr) TB) := ⟨_, rfl⟩
  have b4 : Below w3.heap.size w3 w4 := by rw [hw4]; exact (Below.refl _ _).alloc (Nat.le_refl _) _
  have HF4 := Lib.hid (show TbAt w4 p fr by unfold TbAt; rw [hw4, hp]; exact World.alloc_heap_new w3 _)
  have HT4 := Lib.hid (HT3.out.below b4)
  have HZ4 := Lib.hid (HZ3.out.below b4)
  have HB4 := Lib.hid (HB3.out.trans (b4.mono HB3.out.size))
  have HPB := Lib.hid (show b + 2 ≤ p by rw [hp]; have := HZ3.out.lt; omega)
  clear b4
  go_upto_region 2 with (fail)
  rw [← hw4, ← hp]
  clear hw4 hp HT3 HZ3 HB3
  obtain ⟨c0, c1, c2, c3, c4, c5, c6, c7, c8, c9, c10⟩ := HT4.out.cells
  obtain ⟨e0, e1, e2, e3, e4, e5, e6, e7, e8, e9, e10⟩ := HF4.out.cells
  obtain ⟨m, hm⟩ : ∃ m, m = (t.L.length : Int) - 1 := ⟨_, rfl⟩
  have u1 : IntKind.i64.wrap ((t.L.length : Int) - 1) = m := by rw [IntKind.wrap_i64]; have := HT5.out; omega
  rw [← hm] at HFA HCO
  clear hm
  go_wp2_with fail
  refine (HFA.out _).mono ?_
  rintro e w5 ⟨rfl, hF5, b5, hs5⟩
  have HCO5 := Lib.hid (HCO.out _ _ hF5 (by omega))
  have HT5' := Lib.hid (HT4.out.below b5)
  have HF5 := Lib.hid (HF4.out.below b5)
  have HZ5 := Lib.hid (HZ4.out.below b5)
  have HB5 := Lib.hid (HB4.out.trans (b5.mono HB4.out.size))
  clear b5 hF5 hs5 c0 c1 c2 c3 c4 c5 c6 c7 c8 c9 c10 e0 e1 e2 e3 e4 e5 e6 e7 e8 e9 e10 HCO HFA
  go_wp2_with fail
  refine HCO5.out.mono ?_
  rintro e w6 ⟨v6, rfl, ow6, b6⟩
  obtain ⟨va, vc, hv6⟩ := own_shape ow6
  have HI6 := Lib.hid (isIn_of ow6)
  subst hv6
  obtain ⟨sn, hsn⟩ : ∃ sn, sn = S.length := ⟨_, rfl⟩
  rw [← hsn] at HI6
  have HT6 := Lib.hid (HT5'.out.below b6)
  have HF6 := Lib.hid (HF5.out.below b6)
  have HZ6 := Lib.hid (HZ5.out.below b6)
  have HB6 := Lib.hid (HB5.out.trans (b6.mono HB5.out.size))
  clear b6 ow6 HCO5 HT5' HF5 HZ5 HB5 HT4 HF4 HZ4 HB4
  rw [← hsn]
  clear hsn
  have KEEP := Lib.hid (show ∀ wx, Below w6.heap.size w6 wx → (wx.cell? ⟨b, 0, none⟩ = some (wV t.L 0) ∧ wx.cell? ⟨b, 1, none⟩ = some (wV t.L 1) ∧ wx.cell? ⟨b, 2, none⟩ = some (wV t.L 2) ∧ wx.cell? ⟨b, 3, none⟩ = some (wV t.L 3) ∧ wx.cell? ⟨b, 4, none⟩ = some (wV t.L 4) ∧ wx.cell? ⟨b, 5, none⟩ = some (wV t.L 5) ∧ wx.cell? ⟨b, 6, none⟩ = some (wV t.L 6) ∧ wx.cell? ⟨b, 7, none⟩ = some (wV t.L 7) ∧ wx.cell? ⟨b, 8, none⟩ = some (.int .i64 (t.L.length : Nat)) ∧ wx.cell? ⟨b, 9, none⟩ = some (.int .u8 (t.b : Nat)) ∧ wx.cell? ⟨b, 10, none⟩ = some (.int .u8 (t.l : Nat))) ∧ wx.cell? ⟨p, 0, none⟩ = some (wV fr.L 0) ∧ wx.cell? ⟨p, 1, none⟩ = some (wV fr.L 1) ∧ wx.cell? ⟨p, 2, none⟩ = some (wV fr.L 2) ∧ wx.cell? ⟨p, 3, none⟩ = some (wV fr.L 3) ∧ wx.cell? ⟨p, 4, none⟩ = some (wV fr.L 4) ∧ wx.cell? ⟨p, 5, none⟩ = some (wV fr.L 5) ∧ wx.cell? ⟨p, 6, none⟩ = some (wV fr.L 6) ∧ wx.cell? ⟨p, 7, none⟩ = some (wV fr.L 7) ∧ wx.cell? ⟨p, 8, none⟩ = some (.int .i64 (fr.L.length : Nat)) ∧ wx.cell? ⟨p, 9, none⟩ = some (.int .u8 (fr.b : Nat)) ∧ wx.cell? ⟨p, 10, none⟩ = some (.int .u8 (fr.l : Nat)) from fun wx hx => ⟨(HT6.out.below hx).cells, (HF6.out.below hx).cells⟩)
  go_upto_region 3 with (fail)
  go_cut [7] (fun v7 wc => ∃ q, v7 = .pointer (some ⟨q, 0, none⟩) ∧ Hid (Below w6.heap.size w6 wc ∧ w6.heap.size ≤ q ∧ TbAt wc q q2))
  case first =>
    refine region_but (S := (fun wx => (wx.cell? ⟨b, 0, none⟩ = some (wV t.L 0) ∧ wx.cell? ⟨b, 1, none⟩ = some (wV t.L 1) ∧ wx.cell? ⟨b, 2, none⟩ = some (wV t.L 2) ∧ wx.cell? ⟨b, 3, none⟩ = some (wV t.L 3) ∧ wx.cell? ⟨b, 4, none⟩ = some (wV t.L 4) ∧ wx.cell? ⟨b, 5, none⟩ = some (wV t.L 5) ∧ wx.cell? ⟨b, 6, none⟩ = some (wV t.L 6) ∧ wx.cell? ⟨b, 7, none⟩ = some (wV t.L 7) ∧ wx.cell? ⟨b, 8, none⟩ = some (.int .i64 (t.L.length : Nat)) ∧ wx.cell? ⟨b, 9, none⟩ = some (.int .u8 (t.b : Nat)) ∧ wx.cell? ⟨b, 10, none⟩ = some (.int .u8 (t.l : Nat))) ∧ wx.cell? ⟨p, 0, none⟩ = some (wV fr.L 0) ∧ wx.cell? ⟨p, 1, none⟩ = some (wV fr.L 1) ∧ wx.cell? ⟨p, 2, none⟩ = some (wV fr.L 2) ∧ wx.cell? ⟨p, 3, none⟩ = some (wV fr.L 3) ∧ wx.cell? ⟨p, 4, none⟩ = some (wV fr.L 4) ∧ wx.cell? ⟨p, 5, none⟩ = some (wV fr.L 5) ∧ wx.cell? ⟨p, 6, none⟩ = some (wV fr.L 6) ∧ wx.cell? ⟨p, 7, none⟩ = some (wV fr.L 7) ∧ wx.cell? ⟨p, 8, none⟩ = some (.int .i64 (fr.L.length : Nat)) ∧ wx.cell? ⟨p, 9, none⟩ = some (.int .u8 (fr.b : Nat)) ∧ wx.cell? ⟨p, 10, none⟩ = some (.int .u8 (fr.l : Nat)))) 8 (by kernel_rfl) (KEEP.out _ ((Below.refl _ _).drew)) (fun hHeld => ?_)
    obtain ⟨wz, hwz⟩ : ∃ X, X = w6.drew := ⟨_, rfl⟩
    have HX := Lib.hid (show Below w6.heap.size w6 wz by rw [hwz]; exact (Below.refl _ _).drew)
    replace hHeld := KEEP.out _ HX.out
    rw [← hwz]
    clear hwz
    refine ti 0 rfl (fun w hSw => by (try dsimp only at hSw); go_simp; try with_reducible rfl) ?_
    go_frame
    refine ti 2 rfl (fun w hSw => by (try dsimp only at hSw); go_simp; try with_reducible rfl) ?_
    go_frame
    refine ti 5 rfl (fun w hSw => by (try dsimp only at hSw); go_simp; try with_reducible rfl) ?_
    go_frame
    refine th2 1 7 rfl rfl (by kernel_rfl) (by decide) (by decide) (by kernel_rfl) (by kernel_rfl) (fun K hK => ?_) (fun K hK => ?_)
    · go_simp
      refine (HNO.out _).mono ?_
      rintro e wa1 ⟨rfl, bb⟩
      replace HX := Lib.hid (HX.out.trans (bb.mono HX.out.size))
      clear bb
      go_wp2_with fail
      refine hK.out _ _ (KEEP.out _ HX.out) (fun hHeld => ?_)
      clear hK K
      try go_frame
      refine th2 3 7 rfl rfl (by kernel_rfl) (by decide) (by decide) (by kernel_rfl) (by kernel_rfl) (fun K hK => ?_) (fun K hK => ?_)
      · go_simp
        refine (HLI.out _).mono ?_
        rintro e wa3 ⟨v3, rfl, ow3, bb⟩
        obtain ⟨v3a, v3c, hv3⟩ := own_shape ow3
        have HI3 := Lib.hid (isIn_of ow3)
        subst hv3
        replace HX := Lib.hid (HX.out.trans (bb.mono HX.out.size))
        clear bb
        clear ow3
        obtain ⟨sk, hsk⟩ : ∃ sk, sk = (stops t.L).length := ⟨_, rfl⟩
        rw [← hsk] at HI3 ⊢
        clear hsk
        go_wp2_with fail
        refine hK.out _ _ (KEEP.out _ HX.out) (fun hHeld => ?_)
        clear hK K
        try go_frame
        refine th2 4 7 rfl rfl (by kernel_rfl) (by decide) (by decide) (by kernel_rfl) (by kernel_rfl) (fun K hK => ?_) (fun K hK => ?_)
        · go_simp
          refine (HW1.out _ _ HI3.out).mono ?_
          rintro e wa4 ⟨rfl, bb⟩
          replace HX := Lib.hid (HX.out.trans (bb.mono HX.out.size))
          clear bb
          go_wp2_with fail
          refine hK.out _ _ (KEEP.out _ HX.out) (fun hHeld => ?_)
          clear hK K
          try go_frame
          refine th2 6 7 rfl rfl (by kernel_rfl) (by decide) (by decide) (by kernel_rfl) (by kernel_rfl) (fun K hK => ?_) (fun K hK => ?_)
          · go_simp
            refine (HW2.out _ _ (HI6.out.below HX.out)).mono ?_
            rintro e wa6 ⟨rfl, bb⟩
            replace HX := Lib.hid (HX.out.trans (bb.mono HX.out.size))
            clear bb
            go_wp2_with fail
            refine hK.out _ _ (KEEP.out _ HX.out) (fun hHeld => ?_)
            clear hK K
            try go_frame
            obtain ⟨q7, hq7⟩ : ∃ q, q = wa6.heap.size := ⟨_, rfl⟩
            obtain ⟨wq, hwq⟩ : ∃ X, X = wa6.alloc (.cells #[.int .u64 0, .int .u64 0, .int .u64 0, .int .u64 0, .int .u64 0, .int .u64 0, .int .u64 0, .int .u64 0, .int .i64 0, .int .u8 0, .int .u8 0] TB) := ⟨_, rfl⟩
            have bb : Below wa6.heap.size wa6 wq := by rw [hwq]; exact (Below.refl _ _).alloc (Nat.le_refl _) _
            have HQ7 := Lib.hid (show TbAt wq q7 Tb.zero by unfold TbAt; rw [zero_cells, hwq, hq7]; exact World.alloc_heap_new wa6 _)
            have HQL := Lib.hid (show w6.heap.size ≤ q7 by rw [hq7]; exact HX.out.size)
            replace HX := Lib.hid (HX.out.trans (bb.mono HX.out.size))
            clear bb
            refine th 7 rfl (by kernel_rfl) (by decide) (by kernel_rfl) (fun K hK => ?_)
            go_simp
            rw [← hwq, ← hq7]
            clear hwq hq7
            refine hK.out _ _ (KEEP.out _ HX.out) (fun hHeld => ?_)
            clear hK K
            try go_frame
            obtain ⟨d0, d1, d2, d3, d4, d5, d6, d7, d8, d9, d10⟩ := HQ7.out.cells
            have f := zeros_at HQ7.out
            have f0 := f 0
            have f1 := f 1
            have f2 := f 2
            have f3 := f 3
            have f4 := f 4
            have f5 := f 5
            have f6 := f 6
            have f7 := f 7
            have f8 := f 8
            have f9 := f 9
            have f10 := f 10
            clear f
            refine tx rfl (by kernel_rfl) (by kernel_rfl) (by kernel_rfl) (fun K hK => ?_)
            go_simp
            refine hK.out _ _ ?_
            clear hK K hHeld KEEP
            try go_frame
            go_wp2
            go_meet
            case rel => exact ⟨q7, rfl, Lib.hid ⟨HX.out.trans ((putT_below (Nat.le_refl _) q2).mono HQL.out), HQL.out, putT_at HQ7.out q2⟩⟩
          · obtain ⟨q7, hq7⟩ : ∃ q, q = wa4.heap.size := ⟨_, rfl⟩
            obtain ⟨wq, hwq⟩ : ∃ X, X = wa4.alloc (.cells #[.int .u64 0, .int .u64 0, .int .u64 0, .int .u64 0, .int .u64 0, .int .u64 0, .int .u64 0, .int .u64 0, .int .i64 0, .int .u8 0, .int .u8 0] TB) := ⟨_, rfl⟩
            have bb : Below wa4.heap.size wa4 wq := by rw [hwq]; exact (Below.refl _ _).alloc (Nat.le_refl _) _
            have HQ7 := Lib.hid (show TbAt wq q7 Tb.zero by unfold TbAt; rw [zero_cells, hwq, hq7]; exact World.alloc_heap_new wa4 _)
            have HQL := Lib.hid (show w6.heap.size ≤ q7 by rw [hq7]; exact HX.out.size)
            replace HX := Lib.hid (HX.out.trans (bb.mono HX.out.size))
            clear bb
            go_simp
            rw [← hwq, ← hq7]
            clear hwq hq7
            refine hK.out _ _ (KEEP.out _ HX.out) (fun hHeld => ?_)
            clear hK K
            try go_frame
            refine th 6 rfl (by kernel_rfl) (by decide) (by kernel_rfl) (fun K hK => ?_)
            go_simp
            refine (HW2.out _ _ (HI6.out.below HX.out)).mono ?_
            rintro e wa6 ⟨rfl, bb⟩
            replace HQ7 := Lib.hid (HQ7.out.below bb)
            replace HX := Lib.hid (HX.out.trans (bb.mono HX.out.size))
            clear bb
            go_wp2_with fail
            refine hK.out _ _ (KEEP.out _ HX.out) (fun hHeld => ?_)
            clear hK K
            try go_frame
            obtain ⟨d0, d1, d2, d3, d4, d5, d6, d7, d8, d9, d10⟩ := HQ7.out.cells
            have f := zeros_at HQ7.out
            have f0 := f 0
            have f1 := f 1
            have f2 := f 2
            have f3 := f 3
            have f4 := f 4
            have f5 := f 5
            have f6 := f 6
            have f7 := f 7
            have f8 := f 8
            have f9 := f 9
            have f10 := f 10
            clear f
            refine tx rfl (by kernel_rfl) (by kernel_rfl) (by kernel_rfl) (fun K hK => ?_)
            go_simp
            refine hK.out _ _ ?_
            clear hK K hHeld KEEP
            try go_frame
            go_wp2
            go_meet
            case rel => exact ⟨q7, rfl, Lib.hid ⟨HX.out.trans ((putT_below (Nat.le_refl _) q2).mono HQL.out), HQL.out, putT_at HQ7.out q2⟩⟩
        · obtain ⟨q7, hq7⟩ : ∃ q, q = wa3.heap.size := ⟨_, rfl⟩
          obtain ⟨wq, hwq⟩ : ∃ X, X = wa3.alloc (.cells #[.int .u64 0, .int .u64 0, .int .u64 0, .int .u64 0, .int .u64 0, .int .u64 0, .int .u64 0, .int .u64 0, .int .i64 0, .int .u8 0, .int .u8 0] TB) := ⟨_, rfl⟩
          have bb : Below wa3.heap.size wa3 wq := by rw [hwq]; exact (Below.refl _ _).alloc (Nat.le_refl _) _
          have HQ7 := Lib.hid (show TbAt wq q7 Tb.zero by unfold TbAt; rw [zero_cells, hwq, hq7]; exact World.alloc_heap_new wa3 _)
          have HQL := Lib.hid (show w6.heap.size ≤ q7 by rw [hq7]; exact HX.out.size)
          replace HX := Lib.hid (HX.out.trans (bb.mono HX.out.size))
          replace HI3 := Lib.hid (HI3.out.below bb)
          clear bb
          go_simp
          rw [← hwq, ← hq7]
          clear hwq hq7
          refine hK.out _ _ (KEEP.out _ HX.out) (fun hHeld => ?_)
          clear hK K
          try go_frame
          refine th 4 rfl (by kernel_rfl) (by decide) (by kernel_rfl) (fun K hK => ?_)
          go_simp
          refine (HW1.out _ _ HI3.out).mono ?_
          rintro e wa4 ⟨rfl, bb⟩
          replace HQ7 := Lib.hid (HQ7.out.below bb)
          replace HX := Lib.hid (HX.out.trans (bb.mono HX.out.size))
          clear bb
          go_wp2_with fail
          refine hK.out _ _ (KEEP.out _ HX.out) (fun hHeld => ?_)
          clear hK K
          try go_frame
          refine th 6 rfl (by kernel_rfl) (by decide) (by kernel_rfl) (fun K hK => ?_)
          go_simp
          refine (HW2.out _ _ (HI6.out.below HX.out)).mono ?_
          rintro e wa6 ⟨rfl, bb⟩
          replace HQ7 := Lib.hid (HQ7.out.below bb)
          replace HX := Lib.hid (HX.out.trans (bb.mono HX.out.size))
          clear bb
          go_wp2_with fail
          refine hK.out _ _ (KEEP.out _ HX.out) (fun hHeld => ?_)
          clear hK K
          try go_frame
          obtain ⟨d0, d1, d2, d3, d4, d5, d6, d7, d8, d9, d10⟩ := HQ7.out.cells
          have f := zeros_at HQ7.out
          have f0 := f 0
          have f1 := f 1
          have f2 := f 2
          have f3 := f 3
          have f4 := f 4
          have f5 := f 5
          have f6 := f 6
          have f7 := f 7
          have f8 := f 8
          have f9 := f 9
          have f10 := f 10
          clear f
          refine tx rfl (by kernel_rfl) (by kernel_rfl) (by kernel_rfl) (fun K hK => ?_)
          go_simp
          refine hK.out _ _ ?_
          clear hK K hHeld KEEP
          try go_frame
          go_wp2
          go_meet
          case rel => exact ⟨q7, rfl, Lib.hid ⟨HX.out.trans ((putT_below (Nat.le_refl _) q2).mono HQL.out), HQL.out, putT_at HQ7.out q2⟩⟩
      · obtain ⟨q7, hq7⟩ : ∃ q, q = wa1.heap.size := ⟨_, rfl⟩
        obtain ⟨wq, hwq⟩ : ∃ X, X = wa1.alloc (.cells #[.int .u64 0, .int .u64 0, .int .u64 0, .int .u64 0, .int .u64 0, .int .u64 0, .int .u64 0, .int .u64 0, .int .i64 0, .int .u8 0, .int .u8 0] TB) := ⟨_, rfl⟩
        have bb : Below wa1.heap.size wa1 wq := by rw [hwq]; exact (Below.refl _ _).alloc (Nat.le_refl _) _
        have HQ7 := Lib.hid (show TbAt wq q7 Tb.zero by unfold TbAt; rw [zero_cells, hwq, hq7]; exact World.alloc_heap_new wa1 _)
        have HQL := Lib.hid (show w6.heap.size ≤ q7 by rw [hq7]; exact HX.out.size)
        replace HX := Lib.hid (HX.out.trans (bb.mono HX.out.size))
        clear bb
        go_simp
        rw [← hwq, ← hq7]
        clear hwq hq7
        refine hK.out _ _ (KEEP.out _ HX.out) (fun hHeld => ?_)
        clear hK K
        try go_frame
        refine th 3 rfl (by kernel_rfl) (by decide) (by kernel_rfl) (fun K hK => ?_)
        go_simp
        refine (HLI.out _).mono ?_
        rintro e wa3 ⟨v3, rfl, ow3, bb⟩
        obtain ⟨v3a, v3c, hv3⟩ := own_shape ow3
        have HI3 := Lib.hid (isIn_of ow3)
        subst hv3
        replace HQ7 := Lib.hid (HQ7.out.below bb)
        replace HX := Lib.hid (HX.out.trans (bb.mono HX.out.size))
        clear bb
        clear ow3
        obtain ⟨sk, hsk⟩ : ∃ sk, sk = (stops t.L).length := ⟨_, rfl⟩
        rw [← hsk] at HI3 ⊢
        clear hsk
        go_wp2_with fail
        refine hK.out _ _ (KEEP.out _ HX.out) (fun hHeld => ?_)
        clear hK K
        try go_frame
        refine th 4 rfl (by kernel_rfl) (by decide) (by kernel_rfl) (fun K hK => ?_)
        go_simp
        refine (HW1.out _ _ HI3.out).mono ?_
        rintro e wa4 ⟨rfl, bb⟩
        replace HQ7 := Lib.hid (HQ7.out.below bb)
        replace HX := Lib.hid (HX.out.trans (bb.mono HX.out.size))
        clear bb
        go_wp2_with fail
        refine hK.out _ _ (KEEP.out _ HX.out) (fun hHeld => ?_)
        clear hK K
        try go_frame
        refine th 6 rfl (by kernel_rfl) (by decide) (by kernel_rfl) (fun K hK => ?_)
        go_simp
        refine (HW2.out _ _ (HI6.out.below HX.out)).mono ?_
        rintro e wa6 ⟨rfl, bb⟩
        replace HQ7 := Lib.hid (HQ7.out.below bb)
        replace HX := Lib.hid (HX.out.trans (bb.mono HX.out.size))
        clear bb
        go_wp2_with fail
        refine hK.out _ _ (KEEP.out _ HX.out) (fun hHeld => ?_)
        clear hK K
        try go_frame
        obtain ⟨d0, d1, d2, d3, d4, d5, d6, d7, d8, d9, d10⟩ := HQ7.out.cells
        have f := zeros_at HQ7.out
        have f0 := f 0
        have f1 := f 1
        have f2 := f 2
        have f3 := f 3
        have f4 := f 4
        have f5 := f 5
        have f6 := f 6
        have f7 := f 7
        have f8 := f 8
        have f9 := f 9
        have f10 := f 10
        clear f
        refine tx rfl (by kernel_rfl) (by kernel_rfl) (by kernel_rfl) (fun K hK => ?_)
        go_simp
        refine hK.out _ _ ?_
        clear hK K hHeld KEEP
        try go_frame
        go_wp2
        go_meet
        case rel => exact ⟨q7, rfl, Lib.hid ⟨HX.out.trans ((putT_below (Nat.le_refl _) q2).mono HQL.out), HQL.out, putT_at HQ7.out q2⟩⟩
    · obtain ⟨q7, hq7⟩ : ∃ q, q = wz.heap.size := ⟨_, rfl⟩
      obtain ⟨wq, hwq⟩ : ∃ X, X = wz.alloc (.cells #[.int .u64 0, .int .u64 0, .int .u64 0, .int .u64 0, .int .u64 0, .int .u64 0, .int .u64 0, .int .u64 0, .int .i64 0, .int .u8 0, .int .u8 0] TB) := ⟨_, rfl⟩
      have bb : Below wz.heap.size wz wq := by rw [hwq]; exact (Below.refl _ _).alloc (Nat.le_refl _) _
      have HQ7 := Lib.hid (show TbAt wq q7 Tb.zero by unfold TbAt; rw [zero_cells, hwq, hq7]; exact World.alloc_heap_new wz _)
      have HQL := Lib.hid (show w6.heap.size ≤ q7 by rw [hq7]; exact HX.out.size)
      replace HX := Lib.hid (HX.out.trans (bb.mono HX.out.size))
      clear bb
      go_simp
      rw [← hwq, ← hq7]
      clear hwq hq7
      refine hK.out _ _ (KEEP.out _ HX.out) (fun hHeld => ?_)
      clear hK K
      try go_frame
      refine th 1 rfl (by kernel_rfl) (by decide) (by kernel_rfl) (fun K hK => ?_)
      go_simp
      refine (HNO.out _).mono ?_
      rintro e wa1 ⟨rfl, bb⟩
      replace HQ7 := Lib.hid (HQ7.out.below bb)
      replace HX := Lib.hid (HX.out.trans (bb.mono HX.out.size))
      clear bb
      go_wp2_with fail
      refine hK.out _ _ (KEEP.out _ HX.out) (fun hHeld => ?_)
      clear hK K
      try go_frame
      refine th 3 rfl (by kernel_rfl) (by decide) (by kernel_rfl) (fun K hK => ?_)
      go_simp
      refine (HLI.out _).mono ?_
      rintro e wa3 ⟨v3, rfl, ow3, bb⟩
      obtain ⟨v3a, v3c, hv3⟩ := own_shape ow3
      have HI3 := Lib.hid (isIn_of ow3)
      subst hv3
      replace HQ7 := Lib.hid (HQ7.out.below bb)
      replace HX := Lib.hid (HX.out.trans (bb.mono HX.out.size))
      clear bb
      clear ow3
      obtain ⟨sk, hsk⟩ : ∃ sk, sk = (stops t.L).length := ⟨_, rfl⟩
      rw [← hsk] at HI3 ⊢
      clear hsk
      go_wp2_with fail
      refine hK.out _ _ (KEEP.out _ HX.out) (fun hHeld => ?_)
      clear hK K
      try go_frame
      refine th 4 rfl (by kernel_rfl) (by decide) (by kernel_rfl) (fun K hK => ?_)
      go_simp
      refine (HW1.out _ _ HI3.out).mono ?_
      rintro e wa4 ⟨rfl, bb⟩
      replace HQ7 := Lib.hid (HQ7.out.below bb)
      replace HX := Lib.hid (HX.out.trans (bb.mono HX.out.size))
      clear bb
      go_wp2_with fail
      refine hK.out _ _ (KEEP.out _ HX.out) (fun hHeld => ?_)
      clear hK K
      try go_frame
      refine th 6 rfl (by kernel_rfl) (by decide) (by kernel_rfl) (fun K hK => ?_)
      go_simp
      refine (HW2.out _ _ (HI6.out.below HX.out)).mono ?_
      rintro e wa6 ⟨rfl, bb⟩
      replace HQ7 := Lib.hid (HQ7.out.below bb)
      replace HX := Lib.hid (HX.out.trans (bb.mono HX.out.size))
      clear bb
      go_wp2_with fail
      refine hK.out _ _ (KEEP.out _ HX.out) (fun hHeld => ?_)
      clear hK K
      try go_frame
      obtain ⟨d0, d1, d2, d3, d4, d5, d6, d7, d8, d9, d10⟩ := HQ7.out.cells
      have f := zeros_at HQ7.out
      have f0 := f 0
      have f1 := f 1
      have f2 := f 2
      have f3 := f 3
      have f4 := f 4
      have f5 := f 5
      have f6 := f 6
      have f7 := f 7
      have f8 := f 8
      have f9 := f 9
      have f10 := f 10
      clear f
      refine tx rfl (by kernel_rfl) (by kernel_rfl) (by kernel_rfl) (fun K hK => ?_)
      go_simp
      refine hK.out _ _ ?_
      clear hK K hHeld KEEP
      try go_frame
      go_wp2
      go_meet
      case rel => exact ⟨q7, rfl, Lib.hid ⟨HX.out.trans ((putT_below (Nat.le_refl _) q2).mono HQL.out), HQL.out, putT_at HQ7.out q2⟩⟩
  case rest =>
    obtain ⟨q, rfl, HC⟩ := hcut
    have HTC := Lib.hid (HT6.out.below HC.out.1)
    have HZC := Lib.hid (HZ6.out.below HC.out.1)
    have HQN := Lib.hid (show q ≠ b ∧ q ≠ b + 1 by have := HZ6.out.lt; have := HC.out.2.1; omega)
    have HBC := Lib.hid (HB6.out.trans (HC.out.1.mono HB6.out.size))
    obtain ⟨c0, c1, c2, c3, c4, c5, c6, c7, c8, c9, c10⟩ := HTC.out.cells
    have f10 := zeros_at HC.out.2.2 10
    obtain ⟨wr5, hwr5⟩ : ∃ x, x = wc.setCell ⟨q, 10, none⟩ (.int .u8 (t.l : Nat)) := ⟨_, rfl⟩
    have HQ5 := Lib.hid (show TbAt wr5 q ⟨q2.L, q2.b, t.l⟩ by
      unfold TbAt
      rw [hwr5]
      refine (heap_setCell_same wc q 10 _ _ (.int .u8 (t.l : Nat)) HC.out.2.2).trans ?_
      simp [tbC])
    have HZ5 := Lib.hid (show TbAt wr5 (b + 1) Tb.zero by
      unfold TbAt
      rw [hwr5, Below.heap_setCell _ _ _ _ (by simpa using fun e => HQN.out.2 e.symm)]
      exact HZC.out)
    have HB5 := Lib.hid (show Below w.heap.size w wr5 by rw [hwr5]; exact HBC.out.setCell (by have := HC.out.2.1; have := HB6.out.size; simp only; omega) _)
    go_upto_region 4 with (fail)
    have cq10 : wc.cell? ⟨q, 10, none⟩ = some (.int .u8 (q2.l : Nat)) := HC.out.2.2.cells.2.2.2.2.2.2.2.2.2.2
    go_upto_region 5 with (fail)
    rw [← hwr5]
    clear hwr5 c0 c1 c2 c3 c4 c5 c6 c7 c8 c9 c10 f10 cq10
    obtain ⟨c0, c1, c2, c3, c4, c5, c6, c7, c8, c9, c10⟩ := HQ5.out.cells
    obtain ⟨d0, d1, d2, d3, d4, d5, d6, d7, d8, d9, d10⟩ := HZ5.out.cells
    have f := zeros_at HZ5.out
    have f0 := f 0
    have f1 := f 1
    have f2 := f 2
    have f3 := f 3
    have f4 := f 4
    have f5 := f 5
    have f6 := f 6
    have f7 := f 7
    have f8 := f 8
    have f9 := f 9
    have f10 := f 10
    clear f
    obtain ⟨u, hu⟩ : ∃ u : Tb, u = ⟨q2.L, q2.b, t.l⟩ := ⟨_, rfl⟩
    have HU := Lib.hid (show t.res c = u by rw [hu]; exact HV.out.1)
    clear hu
    go_wp2
    refine bodyPost_ret (v := tbV ⟨q2.L, q2.b, t.l⟩) (by simp [results, Try.results31, go_sem, d0, d1, d2, d3, d4, d5, d6, d7, d8, d9, d10]) rfl ⟨by rw [HV.out.1], ?_⟩
    exact HB5.out.trans ((putT_below (b := b + 1) (Nat.le_refl _) ⟨q2.L, q2.b, t.l⟩).mono (by have := HS.out; omega))
end Go.Proofs.Ytmfbknmcmopjnaa.Lab
