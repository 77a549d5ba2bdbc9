/- The project's Down. -/
import Derived.Test.YtdeahnphcfcfpaaGdUp
namespace Go.Proofs.Ytdeahnphcfcfpaa.Lab
open Go Go.RowKit

set_option maxHeartbeats 4000000 in
set_option maxRecDepth 100000 in
theorem gdown_any (w : World) (lo p rb c o m cols : Nat) (ad : Option Addr) (H : List Hd) (t e n : Int) (b : Cel) (h : GAt w lo p rb c H) (hlo : lo ≤ w.heap.size) (hreg : RegIs w p t e ad m) (hA : 0 < m → ad = some ⟨rb, o, none⟩) (hA0 : m = 0 → ad = none) (hom : o + m ≤ H.length) (hH : H.length ≤ 600) (hR : ∀ x ∈ H, x.R.length = cols) (hc1 : 1 ≤ cols) (hc2 : cols ≤ 600) :
    Calls Try.prog 31 #[gV p, .int .i64 t, .int .i64 e, .int .i64 n, celV b] w fun e w' => ∃ v F, e = .returned v ∧ GRow w' lo w.heap.size v (((H.drop o).take m).drop (m - min n.toNat m)) ∧ F.length = min n.toNat m ∧ F.map (·.R) = List.replicate (min n.toNat m) (newM cols b) ∧ Fr w.heap.size F ∧ GAt w' lo p rb c (downH H o m (min n.toNat m) F) ∧ Buts (· = rb) w w' := by
  obtain ⟨w0, hw0⟩ : ∃ w0, w0 = w.alloc (.cells #[.int .i32 b.ru, .int .i32 b.m0, .int .i32 b.m1, .int .u8 b.k, .int .u8 b.a.fg.k, .int .u8 b.a.fg.r, .int .u8 b.a.fg.g, .int .u8 b.a.fg.b, .int .u8 b.a.bg.k, .int .u8 b.a.bg.r, .int .u8 b.a.bg.g, .int .u8 b.a.bg.b, .int .u16 (b.a.fl : Nat), .int .u8 b.l] 42) := ⟨_, rfl⟩
  have b0 : Below w.heap.size w w0 := by rw [hw0]; exact (Below.refl _ _).alloc (Nat.le_refl _) _
  obtain ⟨z, hz⟩ : ∃ z, z = w.heap.size := ⟨_, rfl⟩
  have HA0 := Lib.hid (show BAt w0 z b by rw [hw0, hz]; exact BAt.newAt w _ rfl b _)
  have HB0 := Lib.hid b0
  have HZ := Lib.hid (show z ≠ rb by have := h.lt; omega)
  have HG0 := Lib.hid (h.below b0)
  have C1 := Lib.hid (hreg w0 b0)
  obtain ⟨q, hq⟩ : ∃ q, q = min n.toNat m := ⟨_, rfl⟩
  obtain ⟨s, hs⟩ : ∃ s, s = m - q := ⟨_, rfl⟩
  have hqm : q ≤ m := by omega
  obtain ⟨N, hN⟩ : ∃ N, N = n.toNat := ⟨_, rfl⟩
  have e1 : max n 0 = (N : Int) := by omega
  have e2 : min (N : Int) (m : Int) = (q : Int) := by omega
  have e3 : IntKind.i64.wrap ((m : Int) - (q : Int)) = (s : Int) := sum_wrap (by omega) (by omega)
  have HE := Lib.hid (show m - q = s ∧ m - s = q ∧ q ≤ m ∧ s ≤ m ∧ q + s = m by omega)
  have HHA := Lib.hid hA
  have HHA0 := Lib.hid hA0
  have HOM := Lib.hid hom
  have HHH := Lib.hid hH
  have HRR := Lib.hid hR
  have HCC := Lib.hid (show 1 ≤ cols ∧ cols ≤ 600 from ⟨hc1, hc2⟩)
  have HLO := Lib.hid hlo
  obtain ⟨a1, hs1, ha1⟩ := hds_tail ad rb o m q hA hqm hA0
  obtain ⟨a2, hs2, ha2⟩ := hds_tail ad rb o m s hA (by omega) hA0
  rw [show m - s = q by omega] at hs2 ha2
  rw [show m - q = s by omega] at hs1 ha1
  have hq1 := hds_to ad m m q hqm
  have hq2 := hds_to ad m m s (by omega)
  have HA1 := Lib.hid ha1
  have HA2 := Lib.hid ha2
  have HSM := Lib.hid (show H.length ≤ c ∧ c ≤ maxLen by
    obtain ⟨a', c', e', k1, k2, _⟩ := h.2.2.src
    injection e' with _ _ e3
    rw [e3]
    exact ⟨k1, k2⟩)
  rw [← hq]
  clear b0 hreg hA hA0 hom hH hR hc1 hc2 hlo h ha1 ha2 hqm hs hN hq
  go_enter Try.func31, Try.ntmps31
  go_upto_region 1 with (fail)
  rw [← hw0, ← hz]
  clear hw0 hz
  go_wp2_with fail
  refine C1.out.mono ?_
  rintro e w' ⟨rfl, rfl⟩
  clear C1
  have HNM := Lib.hid (show max n 0 = (N : Int) ∧ min (N : Int) (m : Int) = (q : Int) from ⟨e1, e2⟩)
  clear e1 e2
  go_upto_region 2 with (fail)
  go_cut [3, 19, 22] (fun v3 _ _ wc => v3 = .int .i64 (q : Nat) ∧ wc = w0)
  case first =>
    obtain ⟨e1, e2⟩ := HNM.out
    by_cases h0 : 0 < n
    · by_cases h1 : n ≤ m
      · have hq : n = (q : Int) := by omega
        have g1 : ¬ n ≤ 0 := by omega
        clear e1 e2 e3
        go_wp2
        go_meet
        case rel => exact ⟨rfl, rfl⟩
      · have hq : (m : Int) = (q : Int) := by omega
        have g1 : ¬ n ≤ 0 := by omega
        have g2 : (m : Int) < n := by omega
        clear e1 e2 e3
        go_wp2
        go_meet
        case rel => exact ⟨rfl, rfl⟩
    · have hq : (0 : Int) = (q : Int) := by omega
      by_cases hz : n = 0
      · subst hz
        clear e1 e2 e3 h0
        go_wp2
        go_meet
        case rel => exact ⟨by first | rfl | rw [← hq], rfl⟩
      · have g1 : n ≤ 0 := by omega
        have g4 : ¬ 0 ≤ n := by omega
        clear e1 e2 e3 h0 hz
        go_wp2
        go_meet
        case rel => exact ⟨by first | rfl | rw [← hq], rfl⟩
  case rest =>
  obtain ⟨rfl, hwc⟩ := hcut
  obtain rfl := hwc.symm
  clear HNM
  go_wp2_with fail
  have HGI := Lib.hid (show GIn w0 lo (.slice a2 q q) ((H.drop (o + s)).take q) from GIn.piece (o := 0) HG0.out.2.2.src (by have := HE.out; have := HOM.out; omega) (Nat.le_refl _) (by have := HE.out; have := HOM.out; have := HSM.out; omega) (fun h0 => by rw [Nat.zero_add]; exact HA2.out h0))
  refine (hclone_any w0 lo _ _ HGI.out (by rw [List.length_take]; have := HE.out; have := HOM.out; have := HHH.out; omega)).mono ?_
  rintro e w1 ⟨v1, rfl, own1, b1⟩
  obtain ⟨va, vc, hv⟩ := own1.shape
  have HV := Lib.hid own1
  have HVB := Lib.hid (show ∀ g, v1.ownBlock = some g → g ≠ rb ∧ w0.heap.size ≤ g from fun g hg => by have := own1.1.lt g hg; have := HG0.out.lt; omega)
  have HG1 := Lib.hid (HG0.out.below b1)
  have HA1' := Lib.hid (HA0.out.below b1)
  have HB1 := Lib.hid (HB0.out.trans (b1.mono HB0.out.size))
  have HGR := Lib.hid (show GRow w1.drew lo lo (.slice (some ⟨rb, 0, none⟩) H.length c) H from HG1.out.2.2)
  have HSRC := Lib.hid (show GIn w1.drew lo (.slice ad s s) ((H.drop o).take s) from GIn.piece (o := 0) HGR.out.src (by have := HE.out; have := HOM.out; omega) (Nat.le_refl _) (by have := HE.out; have := HOM.out; have := HSM.out; omega) (fun h0 => by rw [Nat.zero_add]; exact HHA.out (by have := HE.out; omega)))
  have HPL := Lib.hid (show o + q + ((H.drop o).take s).length ≤ H.length by rw [List.length_take]; have := HE.out; have := HOM.out; omega)
  have HLS := Lib.hid (show ((H.drop o).take s).length ≤ s by rw [List.length_take]; omega)
  have HAS := Lib.hid (show 0 < s → a1 = some ⟨rb, o + q, none⟩ from fun h0 => HA1.out h0)
  clear own1 hv b1 HGI HA0 HG0
  go_upto_region 5 with (fail)
  refine wp_region_held_drew (S := fun _ => True) (by kernel_rfl) ?_ (fun hHeld => ?_)
  · trivial
  refine tk 0 rfl (fun w hSw => by (try dsimp only at hSw); go_simp; try with_reducible rfl) ?_
  go_frame
  refine tk 1 rfl (fun w hSw => by (try dsimp only at hSw); go_simp; try with_reducible rfl) ?_
  go_frame
  refine tk 2 rfl (fun w hSw => by (try dsimp only at hSw); go_simp; try with_reducible rfl) ?_
  go_frame
  refine tk 3 rfl (fun w hSw => by (try dsimp only at hSw); go_simp; try with_reducible rfl) ?_
  go_frame
  refine tk 4 rfl (fun w hSw => by (try dsimp only at hSw); go_simp; try with_reducible rfl) ?_
  go_frame
  refine tk 5 rfl (fun w hSw => by (try dsimp only at hSw); go_simp; try with_reducible rfl) ?_
  go_frame
  refine tk 6 rfl (fun w hSw => by (try dsimp only at hSw); go_simp; try with_reducible rfl) ?_
  go_frame
  refine do_at (i := 7) rfl (by kernel_rfl) (by kernel_rfl) (fun K hK => ?_)
  refine wp_copy_hds (.tmp 33) (.tmp 37) rfl lo lo rb H.length c H HGR.out rfl _ _ rfl HSRC.out (o + q) s s a1 rfl HPL.out HLS.out HAS.out ?_
  intro w3 own3 bt3
  have HO3 := Lib.hid own3
  have HT3 := Lib.hid bt3
  clear own3 bt3
  refine hK.out _ _ ?_ (fun hHeld => ?_)
  · trivial
  clear hK K
  try go_frame
  refine wpAnyH_done (by kernel_rfl) ?_ _

  obtain ⟨K, hK⟩ : ∃ K, K = placeH H (o + q) ((H.drop o).take s) := ⟨_, rfl⟩
  rw [← hK] at HO3
  have HKL := Lib.hid (show K.length = H.length by rw [hK]; exact len_placeH HPL.out)
  have HG3 := Lib.hid (show GAt w3.drew lo p rb c K from (GAt.of_row (show GAt w1.drew lo p rb c H from HG1.out) HT3.out HKL.out HO3.out).drew)
  have HA3 := Lib.hid (show BAt w3.drew z b from (show BAt w3 z b from HA1'.out.but (w := w1.drew) HT3.out HZ.out))
  have HKR := Lib.hid (show ∀ x ∈ K, x.R.length = cols from fun x hx => by
    rw [hK] at hx
    unfold placeH at hx
    rcases List.mem_append.1 hx with hx | hx
    · exact HRR.out x (List.mem_of_mem_take hx)
    · rcases List.mem_append.1 hx with hx | hx
      · exact HRR.out x (List.mem_of_mem_drop (List.mem_of_mem_take hx))
      · exact HRR.out x (List.mem_of_mem_drop hx))
  have HBT3 := Lib.hid (show Buts (· = rb) w w3.drew from ((Buts.of HB1.out).drew.trans (Buts.but (S := (· = rb)) HT3.out rfl)).drew)
  have HRN := Lib.hid (renew_any w3.drew lo p rb c o q q cols ad K b HG3.out (by have := HLO.out; have := HBT3.out.size; omega) (by rw [HKL.out]; have := HE.out; have := HOM.out; omega) (by rw [HKL.out]; exact HHH.out) (fun h0 => HHA.out (by have := HE.out; omega)) HKR.out HCC.out.1 HCC.out.2)
  have HSB := Lib.hid (show (fun wx => wx.cell? ⟨z, 0, none⟩ = some (.int .i32 b.ru) ∧ wx.cell? ⟨z, 1, none⟩ = some (.int .i32 b.m0) ∧ wx.cell? ⟨z, 2, none⟩ = some (.int .i32 b.m1) ∧ wx.cell? ⟨z, 3, none⟩ = some (.int .u8 b.k) ∧ wx.cell? ⟨z, 4, none⟩ = some (.int .u8 b.a.fg.k) ∧ wx.cell? ⟨z, 5, none⟩ = some (.int .u8 b.a.fg.r) ∧ wx.cell? ⟨z, 6, none⟩ = some (.int .u8 b.a.fg.g) ∧ wx.cell? ⟨z, 7, none⟩ = some (.int .u8 b.a.fg.b) ∧ wx.cell? ⟨z, 8, none⟩ = some (.int .u8 b.a.bg.k) ∧ wx.cell? ⟨z, 9, none⟩ = some (.int .u8 b.a.bg.r) ∧ wx.cell? ⟨z, 10, none⟩ = some (.int .u8 b.a.bg.g) ∧ wx.cell? ⟨z, 11, none⟩ = some (.int .u8 b.a.bg.b) ∧ wx.cell? ⟨z, 12, none⟩ = some (.int .u16 (b.a.fl : Nat)) ∧ wx.cell? ⟨z, 13, none⟩ = some (.int .u8 b.l)) w3.drew from by
    obtain ⟨_, ⟨y0, y1, y2, y3, y4, y5, y6, y7, y8, y9, y10, y11, y12, y13⟩, _⟩ := HA3.out
    exact ⟨y0, y1, y2, y3, y4, y5, y6, y7, y8, y9, y10, y11, y12, y13⟩)
  have HKP := Lib.hid (show ∀ w5, Buts (· = rb) w3.drew w5 → (fun wx => wx.cell? ⟨z, 0, none⟩ = some (.int .i32 b.ru) ∧ wx.cell? ⟨z, 1, none⟩ = some (.int .i32 b.m0) ∧ wx.cell? ⟨z, 2, none⟩ = some (.int .i32 b.m1) ∧ wx.cell? ⟨z, 3, none⟩ = some (.int .u8 b.k) ∧ wx.cell? ⟨z, 4, none⟩ = some (.int .u8 b.a.fg.k) ∧ wx.cell? ⟨z, 5, none⟩ = some (.int .u8 b.a.fg.r) ∧ wx.cell? ⟨z, 6, none⟩ = some (.int .u8 b.a.fg.g) ∧ wx.cell? ⟨z, 7, none⟩ = some (.int .u8 b.a.fg.b) ∧ wx.cell? ⟨z, 8, none⟩ = some (.int .u8 b.a.bg.k) ∧ wx.cell? ⟨z, 9, none⟩ = some (.int .u8 b.a.bg.r) ∧ wx.cell? ⟨z, 10, none⟩ = some (.int .u8 b.a.bg.g) ∧ wx.cell? ⟨z, 11, none⟩ = some (.int .u8 b.a.bg.b) ∧ wx.cell? ⟨z, 12, none⟩ = some (.int .u16 (b.a.fl : Nat)) ∧ wx.cell? ⟨z, 13, none⟩ = some (.int .u8 b.l)) w5 from fun w5 k5 => by
    obtain ⟨_, ⟨y0, y1, y2, y3, y4, y5, y6, y7, y8, y9, y10, y11, y12, y13⟩, _⟩ := HA3.out
    have kk : ∀ i v, w3.drew.cell? ⟨z, i, none⟩ = some v → w5.cell? ⟨z, i, none⟩ = some v := fun i v hv => Buts.cellK k5 hv HZ.out
    exact ⟨kk _ _ y0, kk _ _ y1, kk _ _ y2, kk _ _ y3, kk _ _ y4, kk _ _ y5, kk _ _ y6, kk _ _ y7, kk _ _ y8, kk _ _ y9, kk _ _ y10, kk _ _ y11, kk _ _ y12, kk _ _ y13⟩)
  have HXX := Lib.hid hK
  clear hK
  go_upto_region 6 with (fail)
  refine wp_region_held_drew (S := fun wx => wx.cell? ⟨z, 0, none⟩ = some (.int .i32 b.ru) ∧ wx.cell? ⟨z, 1, none⟩ = some (.int .i32 b.m0) ∧ wx.cell? ⟨z, 2, none⟩ = some (.int .i32 b.m1) ∧ wx.cell? ⟨z, 3, none⟩ = some (.int .u8 b.k) ∧ wx.cell? ⟨z, 4, none⟩ = some (.int .u8 b.a.fg.k) ∧ wx.cell? ⟨z, 5, none⟩ = some (.int .u8 b.a.fg.r) ∧ wx.cell? ⟨z, 6, none⟩ = some (.int .u8 b.a.fg.g) ∧ wx.cell? ⟨z, 7, none⟩ = some (.int .u8 b.a.fg.b) ∧ wx.cell? ⟨z, 8, none⟩ = some (.int .u8 b.a.bg.k) ∧ wx.cell? ⟨z, 9, none⟩ = some (.int .u8 b.a.bg.r) ∧ wx.cell? ⟨z, 10, none⟩ = some (.int .u8 b.a.bg.g) ∧ wx.cell? ⟨z, 11, none⟩ = some (.int .u8 b.a.bg.b) ∧ wx.cell? ⟨z, 12, none⟩ = some (.int .u16 (b.a.fl : Nat)) ∧ wx.cell? ⟨z, 13, none⟩ = some (.int .u8 b.l)) (by kernel_rfl) ?_ (fun hHeld => ?_)
  · exact HSB.out
  refine tk 0 rfl (fun w hSw => by (try dsimp only at hSw); go_simp; try with_reducible rfl) ?_
  go_frame
  refine tk 1 rfl (fun w hSw => by (try dsimp only at hSw); go_simp; try with_reducible rfl) ?_
  go_frame
  refine tk 2 rfl (fun w hSw => by (try dsimp only at hSw); go_simp; try with_reducible rfl) ?_
  go_frame
  refine tk 3 rfl (fun w hSw => by (try dsimp only at hSw); go_simp; try with_reducible rfl) ?_
  go_frame
  refine tk 4 rfl (fun w hSw => by (try dsimp only at hSw); go_simp; try with_reducible rfl) ?_
  go_frame
  refine do_at (i := 5) rfl (by kernel_rfl) (by kernel_rfl) (fun K hK => ?_)
  go_simp
  refine (HRN.out).mono ?_
  rintro e w5 ⟨rfl, ⟨F, hF1, hF2, hF3, hF4⟩, bt5⟩
  have HF1 := Lib.hid hF1
  have HF2 := Lib.hid hF2
  have HF3 := Lib.hid hF3
  have HF4 := Lib.hid hF4
  have HT5 := Lib.hid bt5
  clear hF1 hF2 hF3 hF4 bt5
  go_wp2_with fail
  refine hK.out _ _ ?_ (fun hHeld => ?_)
  · exact (HKP.out _ HT5.out)
  clear hK K
  try go_frame
  refine wpAnyH_done (by kernel_rfl) ?_ _

  go_wp2
  go_ret
  have HVF := (HV.out.aside (w := w1) (w' := w5) ((Buts.refl (· = rb) w1).drew.trans (Buts.but (S := (· = rb)) HT3.out rfl) |>.drew.trans HT5.out) HG1.out.2.2.type (fun g hg => (HVB.out g hg).1))
  refine ⟨v1, F, rfl, ?_, HF1.out, HF2.out, HF3.out.mono (HBT3.out.size), ?_, HBT3.out.trans HT5.out⟩
  · have e5 : ((H.drop o).take m).drop (m - q) = (H.drop (o + s)).take q := by
      rw [drop_part, HE.out.1, HE.out.2.1]
    rw [e5]
    exact HVF.lower (Nat.le_refl _) HB0.out.size
  · have hX : ((H.drop o).take m).length = m := by rw [List.length_take, List.length_drop]; have := HOM.out; omega
    have := place_down (H := H) (X := (H.drop o).take m) (F := F) (o := o) (q := q) (by rw [hX]; exact HOM.out) HF1.out (by rw [hX]; exact HE.out.2.2.1)
    rw [hX, HE.out.1] at this
    have e6 : ((H.drop o).take m).take s = (H.drop o).take s := by rw [List.take_take, Nat.min_eq_left HE.out.2.2.2.1]
    unfold downH
    rw [HE.out.1, ← this, e6, ← HXX.out]
    exact HF4.out
end Go.Proofs.Ytdeahnphcfcfpaa.Lab
