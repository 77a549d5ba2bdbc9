/- The reference's May, New of grids. -/
import Derived.Test.YtdeahnphcfcfpaaGgGood
import Derived.Test.YtdeahnphcfcfpaaRoRef
import Derived.Deep.Cut
namespace Go.Proofs.Ytdeahnphcfcfpaa.Lab
open Go Go.RowKit

theorem may_any (w : World) (r c : Int) : Calls Try.prog 10 #[.int .i64 r, .int .i64 c] w fun e w' => e = .returned (.bool (canB r c)) ∧ w = w' := by
  obtain ⟨q, hq⟩ : ∃ q, q = canB r c := ⟨_, rfl⟩
  rw [← hq]
  unfold canB at hq
  by_cases h0 : 1 ≤ r
  · by_cases h1 : r ≤ 512
    · by_cases h2 : 1 ≤ c
      · by_cases h3 : c ≤ 512
        · obtain rfl : q = true := by rw [hq]; simp [h0, h1, h2, h3]
          clear hq
          go_enter Try.func10, Try.ntmps10
          go_wp2
          go_ret
          exact ⟨rfl, rfl⟩
        · obtain rfl : q = false := by rw [hq]; simp [h3]
          clear hq
          go_enter Try.func10, Try.ntmps10
          go_wp2
          go_ret
          exact ⟨rfl, rfl⟩
      · obtain rfl : q = false := by rw [hq]; simp [h2]
        clear hq
        go_enter Try.func10, Try.ntmps10
        go_wp2
        go_ret
        exact ⟨rfl, rfl⟩
    · obtain rfl : q = false := by rw [hq]; simp [h1]
      clear hq
      go_enter Try.func10, Try.ntmps10
      go_wp2
      go_ret
      exact ⟨rfl, rfl⟩
  · obtain rfl : q = false := by rw [hq]; simp [h0]
    clear hq
    go_enter Try.func10, Try.ntmps10
    go_wp2
    go_ret
    exact ⟨rfl, rfl⟩
/-- The reference's grid's own block turns: rows of rows stay. -/
theorem GRow.asideR {w w' : World} {lo base g : Nat} {v : Value} {H : List Hd} {cur : Array Value} (h : GRow w lo base v H) (k : But g w w') (hg : w.heap[g]? = some (.cells cur 29 (0, 0))) : GRow w' lo base v H := by
  refine ⟨?_, h.2.but hg (by decide) k⟩
  rcases h.1.2 with ⟨e1, e2⟩ | ⟨g', cap, cu, e, hb, hgg, rest⟩
  · exact ⟨h.1.1, .inl ⟨e1, e2⟩⟩
  · refine ⟨h.1.1, .inr ⟨g', cap, cu, e, hb, (k.block g' (Array.getElem?_eq_some_iff.1 hgg).1 (fun e => ?_)).trans hgg, rest⟩⟩
    injection e with e
    rw [e, hg] at hgg
    injection hgg with hgg
    injection hgg with _ hgg
    exact absurd hgg (by decide)
set_option maxHeartbeats 8000000 in
set_option maxRecDepth 100000 in
theorem rgnew_yes (w : World) (n m : Nat) (b : Cel) (hc : canB (n : Nat) (m : Nat) = true) : Calls Try.prog 13 #[.int .i64 (n : Nat), .int .i64 (m : Nat), celV b] w fun e w' => ∃ v, e = .returned (.agg #[v]) ∧ Rl w' w.heap.size v (List.replicate n (newM m b)) ∧ Below w.heap.size w w' := by
  have hcc : 1 ≤ n ∧ n ≤ 512 ∧ 1 ≤ m ∧ m ≤ 512 := by
    obtain ⟨n', m', e1, e2, _⟩ := canB_true hc
    omega
  obtain ⟨w0, hw0⟩ : ∃ W0, W0 = ((w.alloc (.cells #[.int .i32 b.ru, .int .i32 b.m0, .int .i32 b.m1, .int .u8 b.k, .int .u8 b.a.fg.k, .int .u8 b.a.fg.r, .int .u8 b.a.fg.g, .int .u8 b.a.fg.b, .int .u8 b.a.bg.k, .int .u8 b.a.bg.r, .int .u8 b.a.bg.g, .int .u8 b.a.bg.b, .int .u16 (b.a.fl : Nat), .int .u8 b.l] 42)).alloc (.cells #[.slice none 0 0] 29)).alloc (.cells #[.slice none 0 0] 29) := ⟨_, rfl⟩
  obtain ⟨b5, hb5⟩ : ∃ b, b = w.heap.size := ⟨_, rfl⟩
  obtain ⟨b6, hb6⟩ : ∃ b, b = w.heap.size + 1 := ⟨_, rfl⟩
  obtain ⟨b7, hb7⟩ : ∃ b, b = w.heap.size + 1 + 1 := ⟨_, rfl⟩
  have B0 : Below w.heap.size w w0 := by rw [hw0]; exact (((Below.refl _ _).alloc (Nat.le_refl _) _).alloc (by simp) _).alloc (by simp; omega) _
  have h5 : Lie w0 b5 [.int .i32 b.ru, .int .i32 b.m0, .int .i32 b.m1, .int .u8 b.k, .int .u8 b.a.fg.k, .int .u8 b.a.fg.r, .int .u8 b.a.fg.g, .int .u8 b.a.fg.b, .int .u8 b.a.bg.k, .int .u8 b.a.bg.r, .int .u8 b.a.bg.g, .int .u8 b.a.bg.b, .int .u16 (b.a.fl : Nat), .int .u8 b.l] := by rw [hw0]; exact ((Lie.new w _ _ b5 hb5).below ((Below.refl _ _).alloc (Nat.le_refl _) _)).below ((Below.refl _ _).alloc (Nat.le_refl _) _)
  have h6 : w0.heap[b6]? = some (.cells #[.slice none 0 0] 29 (0, 0)) := by
    have := World.alloc_heap_new (w.alloc (.cells #[.int .i32 b.ru, .int .i32 b.m0, .int .i32 b.m1, .int .u8 b.k, .int .u8 b.a.fg.k, .int .u8 b.a.fg.r, .int .u8 b.a.fg.g, .int .u8 b.a.fg.b, .int .u8 b.a.bg.k, .int .u8 b.a.bg.r, .int .u8 b.a.bg.g, .int .u8 b.a.bg.b, .int .u16 (b.a.fl : Nat), .int .u8 b.l] 42)) (.cells #[.slice none 0 0] 29)
    rw [World.size_alloc] at this
    rw [hw0, hb6, Below.heap_alloc _ _ _ (by simp)]
    exact this
  have h7 : w0.heap[b7]? = some (.cells #[.slice none 0 0] 29 (0, 0)) := by
    have := World.alloc_heap_new ((w.alloc (.cells #[.int .i32 b.ru, .int .i32 b.m0, .int .i32 b.m1, .int .u8 b.k, .int .u8 b.a.fg.k, .int .u8 b.a.fg.r, .int .u8 b.a.fg.g, .int .u8 b.a.fg.b, .int .u8 b.a.bg.k, .int .u8 b.a.bg.r, .int .u8 b.a.bg.g, .int .u8 b.a.bg.b, .int .u16 (b.a.fl : Nat), .int .u8 b.l] 42)).alloc (.cells #[.slice none 0 0] 29)) (.cells #[.slice none 0 0] 29)
    rw [World.size_alloc, World.size_alloc] at this
    rw [hw0, hb7]
    exact this
  have HNE := Lib.hid (show b5 = w.heap.size ∧ b6 = w.heap.size + 1 ∧ b7 = w.heap.size + 2 ∧ w0.heap.size = w.heap.size + 3 ∧ n ≤ 512 ∧ 1 ≤ m ∧ m ≤ 512 by rw [hw0]; exact ⟨hb5, hb6, by omega, by simp, by omega, by omega, by omega⟩)
  have HB0 := Lib.hid B0
  have H6 := Lib.hid h6
  have HC := Lib.hid hc
  have HSK := Lib.hid (show ∀ W, Buts (· = b7) w0 W → (fun wx => wx.cell? ⟨b5, 0, none⟩ = some (.int .i32 b.ru) ∧ wx.cell? ⟨b5, 1, none⟩ = some (.int .i32 b.m0) ∧ wx.cell? ⟨b5, 2, none⟩ = some (.int .i32 b.m1) ∧ wx.cell? ⟨b5, 3, none⟩ = some (.int .u8 b.k) ∧ wx.cell? ⟨b5, 4, none⟩ = some (.int .u8 b.a.fg.k) ∧ wx.cell? ⟨b5, 5, none⟩ = some (.int .u8 b.a.fg.r) ∧ wx.cell? ⟨b5, 6, none⟩ = some (.int .u8 b.a.fg.g) ∧ wx.cell? ⟨b5, 7, none⟩ = some (.int .u8 b.a.fg.b) ∧ wx.cell? ⟨b5, 8, none⟩ = some (.int .u8 b.a.bg.k) ∧ wx.cell? ⟨b5, 9, none⟩ = some (.int .u8 b.a.bg.r) ∧ wx.cell? ⟨b5, 10, none⟩ = some (.int .u8 b.a.bg.g) ∧ wx.cell? ⟨b5, 11, none⟩ = some (.int .u8 b.a.bg.b) ∧ wx.cell? ⟨b5, 12, none⟩ = some (.int .u16 (b.a.fl : Nat)) ∧ wx.cell? ⟨b5, 13, none⟩ = some (.int .u8 b.l)) W from fun W k => by
    have n5 : ¬ b5 = b7 := by have := HNE.out; omega
    exact ⟨Buts.cellK k (h5.at 0 rfl) n5, Buts.cellK k (h5.at 1 rfl) n5, Buts.cellK k (h5.at 2 rfl) n5, Buts.cellK k (h5.at 3 rfl) n5, Buts.cellK k (h5.at 4 rfl) n5, Buts.cellK k (h5.at 5 rfl) n5, Buts.cellK k (h5.at 6 rfl) n5, Buts.cellK k (h5.at 7 rfl) n5, Buts.cellK k (h5.at 8 rfl) n5, Buts.cellK k (h5.at 9 rfl) n5, Buts.cellK k (h5.at 10 rfl) n5, Buts.cellK k (h5.at 11 rfl) n5, Buts.cellK k (h5.at 12 rfl) n5, Buts.cellK k (h5.at 13 rfl) n5⟩)
  have HV0 := Lib.hid h7
  have HG0 := Lib.hid (show GRow w0 w.heap.size w0.heap.size (.slice none 0 0) [] from GRow.nil _ _ _)
  have HM0 := Lib.hid (show (([] : List Hd).map (·.R)) = List.replicate 0 (newM m b) from rfl)
  have HT0 := Lib.hid (Buts.refl (· = b7) w0)
  have hn5 : n ≤ 512 := hcc.2.1
  clear B0 h5 h6 h7 hc hcc
  go_enter Try.func13, Try.ntmps13
  go_upto_region 2 with (fail)
  rw [← hw0, ← hb7, ← hb6, ← hb5]
  clear hw0 hb7 hb6 hb5
  go_wp2
  go_loopg [8] n (fun G i wr => ∃ (k : Nat) (v : Value) (Kl : List Hd), i = .int .i64 k ∧ k ≤ n ∧ n - k ≤ G ∧ Hid (wr.heap[b7]? = some (.cells #[v] 29 (0, 0))) ∧ Hid (GRow wr w.heap.size w0.heap.size v Kl) ∧ Hid (Kl.map (·.R) = List.replicate k (newM m b)) ∧ Hid (Buts (· = b7) w0 wr))
  case atStart => exact ⟨0, _, [], rfl, Nat.zero_le _, Nat.sub_le _ _, HV0, HG0, HM0, HT0⟩
  case round =>
    obtain ⟨k, v, Kl, rfl, hkn, hgk, H8, HGK, HMK, HBT⟩ := hrel
    clear HV0 HG0 HM0 HT0
    by_cases hlt : k < n
    · have HKL := Lib.hid (show Kl.length = k by have := congrArg List.length HMK.out; rwa [List.length_map, List.length_replicate] at this)
      have L8 := Lib.hid (show b7 < wr.heap.size from (Array.getElem?_eq_some_iff.1 H8.out).1)
      have C8 := Lib.hid (show wr.cell? ⟨b7, 0, none⟩ = some v by rw [cell_of_row wr b7 0 _ _ _ H8.out]; simp)
      have HW1 := Lib.hid (show w.heap.size ≤ wr.heap.size from Nat.le_trans HB0.out.size HBT.out.size)
      have HW2 := Lib.hid HBT.out.size
      have HLN := Lib.hid (show Kl.length + [b].length ≤ 100000 by rw [HKL.out]; simp only [List.length_cons, List.length_nil]; omega)
      have HVB := Lib.hid (show ∀ j, v.ownBlock = some j → w0.heap.size ≤ j from fun j hj => (HGK.out.1.lt j hj).1)
      have HX := Lib.hid (show Below wr.heap.size wr wr.drew from (Below.refl _ _).drew)
      go_wp2_with fail
      refine (may_any wr (n : Nat) (m : Nat)).mono ?_
      rintro e w' ⟨rfl, rfl⟩
      rw [HC.out]
      go_upto_region 5 with (fail)
      refine wp_region_held_drew (S := fun wx => wx.cell? ⟨b5, 0, none⟩ = some (.int .i32 b.ru) ∧ wx.cell? ⟨b5, 1, none⟩ = some (.int .i32 b.m0) ∧ wx.cell? ⟨b5, 2, none⟩ = some (.int .i32 b.m1) ∧ wx.cell? ⟨b5, 3, none⟩ = some (.int .u8 b.k) ∧ wx.cell? ⟨b5, 4, none⟩ = some (.int .u8 b.a.fg.k) ∧ wx.cell? ⟨b5, 5, none⟩ = some (.int .u8 b.a.fg.r) ∧ wx.cell? ⟨b5, 6, none⟩ = some (.int .u8 b.a.fg.g) ∧ wx.cell? ⟨b5, 7, none⟩ = some (.int .u8 b.a.fg.b) ∧ wx.cell? ⟨b5, 8, none⟩ = some (.int .u8 b.a.bg.k) ∧ wx.cell? ⟨b5, 9, none⟩ = some (.int .u8 b.a.bg.r) ∧ wx.cell? ⟨b5, 10, none⟩ = some (.int .u8 b.a.bg.g) ∧ wx.cell? ⟨b5, 11, none⟩ = some (.int .u8 b.a.bg.b) ∧ wx.cell? ⟨b5, 12, none⟩ = some (.int .u16 (b.a.fl : Nat)) ∧ wx.cell? ⟨b5, 13, none⟩ = some (.int .u8 b.l)) (by kernel_rfl) ?_ (fun hHeld => ?_)
      · exact HSK.out _ (HBT.out.trans (Buts.of HX.out))
      obtain ⟨wd, hwd⟩ : ∃ X, X = wr.drew := ⟨_, rfl⟩
      replace HX := Lib.hid (show Below wr.heap.size wr wd by rw [hwd]; exact HX.out)
      replace hHeld := HSK.out _ (HBT.out.trans (Buts.of HX.out))
      rw [← hwd]
      clear hwd
      refine tk 0 rfl (fun w hSw => by (try dsimp only at hSw); go_simp; try with_reducible rfl) ?_
      go_frame
      refine tk 2 rfl (fun w hSw => by (try dsimp only at hSw); go_simp; try with_reducible rfl) ?_
      go_frame
      refine tk 3 rfl (fun w hSw => by (try dsimp only at hSw); go_simp; try with_reducible rfl) ?_
      go_frame
      refine two_at (i := 1) (j := 4) rfl rfl (by kernel_rfl) (by kernel_rfl) (by kernel_rfl) (fun K hK => ?_) (fun K hK => ?_)
      · have hc8 : wd.cell? ⟨b7, 0, none⟩ = some v := (HX.out.cell (p := ⟨b7, 0, none⟩) L8.out).trans C8.out
        go_simp
        clear hc8
        refine hK.out _ _ ?_ (fun hHeld => ?_)
        · exact HSK.out _ (HBT.out.trans (Buts.of HX.out))
        clear hK K
        try go_frame
        refine do_at (i := 4) rfl (by kernel_rfl) (by kernel_rfl) (fun K hK => ?_)
        go_simp
        refine (rnew_any wd (m : Nat) b (by have := HNE.out; omega)).mono ?_
        rintro e wc ⟨vv, rfl, own, bc⟩
        rw [Int.toNat_natCast] at own
        obtain ⟨x, rfl, hxR, hxb, own⟩ := own.hd (by rw [len_newM]; have := HNE.out; omega)
        have HXR := Lib.hid hxR
        have HXB := Lib.hid (Nat.le_trans HX.out.size hxb)
        have HO := Lib.hid (own.lower HX.out.size)
        replace HX := Lib.hid (HX.out.trans (bc.mono HX.out.size))
        clear own hxR hxb bc
        go_wp2_with fail
        refine hK.out _ _ ?_ (fun hHeld => ?_)
        · exact HSK.out _ (HBT.out.trans (Buts.of HX.out))
        clear hK K
        try go_frame
        refine do_at (i := 5) rfl (by kernel_rfl) (by kernel_rfl) (fun K hK => ?_)
        obtain ⟨q, hq⟩ : ∃ q, q = wc.heap.size := ⟨_, rfl⟩
        obtain ⟨wb, hwb⟩ : ∃ X, X = wc.alloc (.cells #[hdV x] 26) := ⟨_, rfl⟩
        have bb : Below wc.heap.size wc wb := by rw [hwb]; exact (Below.refl _ _).alloc (Nat.le_refl _) _
        have HI := Lib.hid (show GIn wb w.heap.size (.slice (some ⟨q, 0, none⟩) 1 1) [x] by rw [hwb]; exact GIn.one (HO.out.lower HW1.out) q hq)
        replace HX := Lib.hid (HX.out.trans (bb.mono HX.out.size))
        clear bb
        go_simp
        rw [← hwb, ← hq]
        clear hwb hq
        refine hK.out _ _ ?_ (fun hHeld => ?_)
        · exact HSK.out _ (HBT.out.trans (Buts.of HX.out))
        clear hK K
        try go_frame
        refine do_at (i := 6) rfl (by kernel_rfl) (by kernel_rfl) (fun K hK => ?_)
        refine wp_append_hds (.tmp 20) (.tmp 24) rfl w.heap.size w0.heap.size v Kl rfl (HGK.out.below HX.out) _ [x] rfl HI.out HLN.out (Nat.le_trans HW2.out HX.out.size) ?_
        intro v' wa ga growa
        obtain ⟨va, vc, hvs⟩ := ga.shape
        obtain ⟨ln, hln⟩ : ∃ ln, ln = (Kl ++ [x]).length := ⟨_, rfl⟩
        rw [← hln] at hvs
        subst hvs
        clear hln
        have HGA := Lib.hid ga
        have HGW := Lib.hid (show Buts (· = b7) w0 wa from ⟨growa.os.trans (HX.out.os.trans HBT.out.os), growa.tape.trans (HX.out.tape.trans HBT.out.tape), growa.output.trans (HX.out.output.trans HBT.out.output), Nat.le_trans HBT.out.size (Nat.le_trans HX.out.size growa.size), fun j hj hn => by rw [growa.block j (Nat.lt_of_lt_of_le (Nat.lt_of_lt_of_le hj HBT.out.size) HX.out.size) (fun e => by have := HVB.out j e.symm; omega), HX.out.block j (Nat.lt_of_lt_of_le hj HBT.out.size), HBT.out.block j hj hn]⟩)
        have H8A := Lib.hid (show wa.heap[b7]? = some (.cells #[v] 29 (0, 0)) from (growa.block b7 (Nat.lt_of_lt_of_le L8.out HX.out.size) (fun e => by have := HVB.out b7 e.symm; have := HNE.out; omega)).trans ((HX.out.block b7 L8.out).trans H8.out))
        clear ga growa
        refine hK.out _ _ ?_ (fun hHeld => ?_)
        · exact HSK.out _ HGW.out
        clear hK K
        try go_frame
        refine tk 7 rfl (fun w hSw => by (try dsimp only at hSw); go_simp; try with_reducible rfl) ?_
        go_frame
        refine do_at (i := 8) rfl (by kernel_rfl) (by kernel_rfl) (fun K hK => ?_)
        have hc8 : wa.cell? ⟨b7, 0, none⟩ = some v := by rw [cell_of_row wa b7 0 _ _ _ H8A.out]; simp
        have hf8 : wa.frozen? ⟨b7, 0, none⟩ = false := frozen_of_row wa b7 0 _ _ H8A.out
        go_simp
        clear hc8 hf8
        refine hK.out _ _ ?_ (fun hHeld => ?_)
        · exact HSK.out _ (HGW.out.trans (Buts.but (S := (· = b7)) (But.set wa b7 0 _) rfl))
        clear hK K
        try go_frame
        refine wpAnyH_done (by kernel_rfl) ?_ _
        have ha8 := Lib.hid (heap_set1 (v := .slice va ln vc) H8A.out)
        have hg8 := Lib.hid (show GRow (wa.setCell ⟨b7, 0, none⟩ (.slice va ln vc)) w.heap.size w0.heap.size (.slice va ln vc) (Kl ++ [x]) from HGA.out.asideR (But.set wa b7 0 _) H8A.out)
        have hb8 := Lib.hid (HGW.out.trans (Buts.but (S := (· = b7)) (But.set wa b7 0 (.slice va ln vc)) rfl))
        have hm8 := Lib.hid (show (Kl ++ [x]).map (·.R) = List.replicate (k + 1) (newM m b) by rw [List.map_append, HMK.out, List.replicate_succ', ← HXR.out]; rfl)
        clear hHeld HGA HGW H8A HX HI HO
        clear HVB HLN HW1 HW2 C8 L8 HKL H8 HGK HMK HBT
        go_wp2
        go_roundg (n - (k + 1))
        case rel => exact ⟨k + 1, _, _, by go_num, by omega, Nat.le_refl _, ha8, hg8, hm8, hb8⟩
        case measure => omega
      · go_simp
        refine (rnew_any wd (m : Nat) b (by have := HNE.out; omega)).mono ?_
        rintro e wc ⟨vv, rfl, own, bc⟩
        rw [Int.toNat_natCast] at own
        obtain ⟨x, rfl, hxR, hxb, own⟩ := own.hd (by rw [len_newM]; have := HNE.out; omega)
        have HXR := Lib.hid hxR
        have HXB := Lib.hid (Nat.le_trans HX.out.size hxb)
        have HO := Lib.hid (own.lower HX.out.size)
        replace HX := Lib.hid (HX.out.trans (bc.mono HX.out.size))
        clear own hxR hxb bc
        go_wp2_with fail
        refine hK.out _ _ ?_ (fun hHeld => ?_)
        · exact HSK.out _ (HBT.out.trans (Buts.of HX.out))
        clear hK K
        try go_frame
        refine two_at (i := 1) (j := 5) rfl rfl (by kernel_rfl) (by kernel_rfl) (by kernel_rfl) (fun K hK => ?_) (fun K hK => ?_)
        · have hc8 : wc.cell? ⟨b7, 0, none⟩ = some v := (HX.out.cell (p := ⟨b7, 0, none⟩) L8.out).trans C8.out
          go_simp
          clear hc8
          refine hK.out _ _ ?_ (fun hHeld => ?_)
          · exact HSK.out _ (HBT.out.trans (Buts.of HX.out))
          clear hK K
          try go_frame
          refine do_at (i := 5) rfl (by kernel_rfl) (by kernel_rfl) (fun K hK => ?_)
          obtain ⟨q, hq⟩ : ∃ q, q = wc.heap.size := ⟨_, rfl⟩
          obtain ⟨wb, hwb⟩ : ∃ X, X = wc.alloc (.cells #[hdV x] 26) := ⟨_, rfl⟩
          have bb : Below wc.heap.size wc wb := by rw [hwb]; exact (Below.refl _ _).alloc (Nat.le_refl _) _
          have HI := Lib.hid (show GIn wb w.heap.size (.slice (some ⟨q, 0, none⟩) 1 1) [x] by rw [hwb]; exact GIn.one (HO.out.lower HW1.out) q hq)
          replace HX := Lib.hid (HX.out.trans (bb.mono HX.out.size))
          clear bb
          go_simp
          rw [← hwb, ← hq]
          clear hwb hq
          refine hK.out _ _ ?_ (fun hHeld => ?_)
          · exact HSK.out _ (HBT.out.trans (Buts.of HX.out))
          clear hK K
          try go_frame
          refine do_at (i := 6) rfl (by kernel_rfl) (by kernel_rfl) (fun K hK => ?_)
          refine wp_append_hds (.tmp 20) (.tmp 24) rfl w.heap.size w0.heap.size v Kl rfl (HGK.out.below HX.out) _ [x] rfl HI.out HLN.out (Nat.le_trans HW2.out HX.out.size) ?_
          intro v' wa ga growa
          obtain ⟨va, vc, hvs⟩ := ga.shape
          obtain ⟨ln, hln⟩ : ∃ ln, ln = (Kl ++ [x]).length := ⟨_, rfl⟩
          rw [← hln] at hvs
          subst hvs
          clear hln
          have HGA := Lib.hid ga
          have HGW := Lib.hid (show Buts (· = b7) w0 wa from ⟨growa.os.trans (HX.out.os.trans HBT.out.os), growa.tape.trans (HX.out.tape.trans HBT.out.tape), growa.output.trans (HX.out.output.trans HBT.out.output), Nat.le_trans HBT.out.size (Nat.le_trans HX.out.size growa.size), fun j hj hn => by rw [growa.block j (Nat.lt_of_lt_of_le (Nat.lt_of_lt_of_le hj HBT.out.size) HX.out.size) (fun e => by have := HVB.out j e.symm; omega), HX.out.block j (Nat.lt_of_lt_of_le hj HBT.out.size), HBT.out.block j hj hn]⟩)
          have H8A := Lib.hid (show wa.heap[b7]? = some (.cells #[v] 29 (0, 0)) from (growa.block b7 (Nat.lt_of_lt_of_le L8.out HX.out.size) (fun e => by have := HVB.out b7 e.symm; have := HNE.out; omega)).trans ((HX.out.block b7 L8.out).trans H8.out))
          clear ga growa
          refine hK.out _ _ ?_ (fun hHeld => ?_)
          · exact HSK.out _ HGW.out
          clear hK K
          try go_frame
          refine tk 7 rfl (fun w hSw => by (try dsimp only at hSw); go_simp; try with_reducible rfl) ?_
          go_frame
          refine do_at (i := 8) rfl (by kernel_rfl) (by kernel_rfl) (fun K hK => ?_)
          have hc8 : wa.cell? ⟨b7, 0, none⟩ = some v := by rw [cell_of_row wa b7 0 _ _ _ H8A.out]; simp
          have hf8 : wa.frozen? ⟨b7, 0, none⟩ = false := frozen_of_row wa b7 0 _ _ H8A.out
          go_simp
          clear hc8 hf8
          refine hK.out _ _ ?_ (fun hHeld => ?_)
          · exact HSK.out _ (HGW.out.trans (Buts.but (S := (· = b7)) (But.set wa b7 0 _) rfl))
          clear hK K
          try go_frame
          refine wpAnyH_done (by kernel_rfl) ?_ _
          have ha8 := Lib.hid (heap_set1 (v := .slice va ln vc) H8A.out)
          have hg8 := Lib.hid (show GRow (wa.setCell ⟨b7, 0, none⟩ (.slice va ln vc)) w.heap.size w0.heap.size (.slice va ln vc) (Kl ++ [x]) from HGA.out.asideR (But.set wa b7 0 _) H8A.out)
          have hb8 := Lib.hid (HGW.out.trans (Buts.but (S := (· = b7)) (But.set wa b7 0 (.slice va ln vc)) rfl))
          have hm8 := Lib.hid (show (Kl ++ [x]).map (·.R) = List.replicate (k + 1) (newM m b) by rw [List.map_append, HMK.out, List.replicate_succ', ← HXR.out]; rfl)
          clear hHeld HGA HGW H8A HX HI HO
          clear HVB HLN HW1 HW2 C8 L8 HKL H8 HGK HMK HBT
          go_wp2
          go_roundg (n - (k + 1))
          case rel => exact ⟨k + 1, _, _, by go_num, by omega, Nat.le_refl _, ha8, hg8, hm8, hb8⟩
          case measure => omega
        · obtain ⟨q, hq⟩ : ∃ q, q = wc.heap.size := ⟨_, rfl⟩
          obtain ⟨wb, hwb⟩ : ∃ X, X = wc.alloc (.cells #[hdV x] 26) := ⟨_, rfl⟩
          have bb : Below wc.heap.size wc wb := by rw [hwb]; exact (Below.refl _ _).alloc (Nat.le_refl _) _
          have HI := Lib.hid (show GIn wb w.heap.size (.slice (some ⟨q, 0, none⟩) 1 1) [x] by rw [hwb]; exact GIn.one (HO.out.lower HW1.out) q hq)
          replace HX := Lib.hid (HX.out.trans (bb.mono HX.out.size))
          clear bb
          go_simp
          rw [← hwb, ← hq]
          clear hwb hq
          refine hK.out _ _ ?_ (fun hHeld => ?_)
          · exact HSK.out _ (HBT.out.trans (Buts.of HX.out))
          clear hK K
          try go_frame
          refine do_at (i := 1) rfl (by kernel_rfl) (by kernel_rfl) (fun K hK => ?_)
          have hc8 : wb.cell? ⟨b7, 0, none⟩ = some v := (HX.out.cell (p := ⟨b7, 0, none⟩) L8.out).trans C8.out
          go_simp
          clear hc8
          refine hK.out _ _ ?_ (fun hHeld => ?_)
          · exact HSK.out _ (HBT.out.trans (Buts.of HX.out))
          clear hK K
          try go_frame
          refine do_at (i := 6) rfl (by kernel_rfl) (by kernel_rfl) (fun K hK => ?_)
          refine wp_append_hds (.tmp 20) (.tmp 24) rfl w.heap.size w0.heap.size v Kl rfl (HGK.out.below HX.out) _ [x] rfl HI.out HLN.out (Nat.le_trans HW2.out HX.out.size) ?_
          intro v' wa ga growa
          obtain ⟨va, vc, hvs⟩ := ga.shape
          obtain ⟨ln, hln⟩ : ∃ ln, ln = (Kl ++ [x]).length := ⟨_, rfl⟩
          rw [← hln] at hvs
          subst hvs
          clear hln
          have HGA := Lib.hid ga
          have HGW := Lib.hid (show Buts (· = b7) w0 wa from ⟨growa.os.trans (HX.out.os.trans HBT.out.os), growa.tape.trans (HX.out.tape.trans HBT.out.tape), growa.output.trans (HX.out.output.trans HBT.out.output), Nat.le_trans HBT.out.size (Nat.le_trans HX.out.size growa.size), fun j hj hn => by rw [growa.block j (Nat.lt_of_lt_of_le (Nat.lt_of_lt_of_le hj HBT.out.size) HX.out.size) (fun e => by have := HVB.out j e.symm; omega), HX.out.block j (Nat.lt_of_lt_of_le hj HBT.out.size), HBT.out.block j hj hn]⟩)
          have H8A := Lib.hid (show wa.heap[b7]? = some (.cells #[v] 29 (0, 0)) from (growa.block b7 (Nat.lt_of_lt_of_le L8.out HX.out.size) (fun e => by have := HVB.out b7 e.symm; have := HNE.out; omega)).trans ((HX.out.block b7 L8.out).trans H8.out))
          clear ga growa
          refine hK.out _ _ ?_ (fun hHeld => ?_)
          · exact HSK.out _ HGW.out
          clear hK K
          try go_frame
          refine tk 7 rfl (fun w hSw => by (try dsimp only at hSw); go_simp; try with_reducible rfl) ?_
          go_frame
          refine do_at (i := 8) rfl (by kernel_rfl) (by kernel_rfl) (fun K hK => ?_)
          have hc8 : wa.cell? ⟨b7, 0, none⟩ = some v := by rw [cell_of_row wa b7 0 _ _ _ H8A.out]; simp
          have hf8 : wa.frozen? ⟨b7, 0, none⟩ = false := frozen_of_row wa b7 0 _ _ H8A.out
          go_simp
          clear hc8 hf8
          refine hK.out _ _ ?_ (fun hHeld => ?_)
          · exact HSK.out _ (HGW.out.trans (Buts.but (S := (· = b7)) (But.set wa b7 0 _) rfl))
          clear hK K
          try go_frame
          refine wpAnyH_done (by kernel_rfl) ?_ _
          have ha8 := Lib.hid (heap_set1 (v := .slice va ln vc) H8A.out)
          have hg8 := Lib.hid (show GRow (wa.setCell ⟨b7, 0, none⟩ (.slice va ln vc)) w.heap.size w0.heap.size (.slice va ln vc) (Kl ++ [x]) from HGA.out.asideR (But.set wa b7 0 _) H8A.out)
          have hb8 := Lib.hid (HGW.out.trans (Buts.but (S := (· = b7)) (But.set wa b7 0 (.slice va ln vc)) rfl))
          have hm8 := Lib.hid (show (Kl ++ [x]).map (·.R) = List.replicate (k + 1) (newM m b) by rw [List.map_append, HMK.out, List.replicate_succ', ← HXR.out]; rfl)
          clear hHeld HGA HGW H8A HX HI HO
          clear HVB HLN HW1 HW2 C8 L8 HKL H8 HGK HMK HBT
          go_wp2
          go_roundg (n - (k + 1))
          case rel => exact ⟨k + 1, _, _, by go_num, by omega, Nat.le_refl _, ha8, hg8, hm8, hb8⟩
          case measure => omega
    · obtain rfl : k = n := by omega
      have h6 := (HBT.out.block b6 (by have := HNE.out; omega) (by have := HNE.out; omega)).trans H6.out
      have c6 : wr.cell? ⟨b6, 0, none⟩ = some (.slice none 0 0) := by rw [cell_of_row wr b6 0 _ _ _ h6]; simp
      have f6 : wr.frozen? ⟨b6, 0, none⟩ = false := frozen_of_row wr b6 0 _ _ h6
      have c7 : wr.cell? ⟨b7, 0, none⟩ = some v := by rw [cell_of_row wr b7 0 _ _ _ H8.out]; simp
      obtain ⟨va, vc, hvs⟩ := HGK.out.shape
      obtain ⟨ln, hln⟩ : ∃ ln, ln = Kl.length := ⟨_, rfl⟩
      rw [← hln] at hvs
      subst hvs
      obtain ⟨xe, hxe⟩ : ∃ X, X = wr.setCell ⟨b6, 0, none⟩ (.slice va ln vc) := ⟨_, rfl⟩
      have HXE := Lib.hid (show xe.cell? ⟨b6, 0, none⟩ = some (.slice va ln vc) by rw [hxe]; exact World.cell?_setCell_same' _ _ _ (by rw [c6]; rfl))
      have HGE := Lib.hid (show GRow xe w.heap.size w0.heap.size (.slice va ln vc) Kl by rw [hxe]; exact HGK.out.asideR (But.set wr b6 0 _) h6)
      have HBE := Lib.hid (show Below w.heap.size w xe by rw [hxe]; exact (HB0.out.trans (HBT.out.below (C := w.heap.size) (fun i hi => by have := HNE.out; omega) HB0.out.size)).trans ((But.set wr b6 0 _).below (C := w.heap.size) (by have := HNE.out; omega) (Nat.le_trans HB0.out.size HBT.out.size)))
      clear h6 hln
      go_wp2
      rw [← hxe]
      clear hxe c6 f6 c7
      have q0 := HXE.out
      exact bodyPost_ret (v := .agg #[.slice va ln vc]) (by simp [results, Try.results13, go_sem, q0]) rfl ⟨_, rfl, ⟨Kl, HGE.out.lower (Nat.le_refl _) HB0.out.size, HMK.out⟩, HBE.out⟩
set_option maxHeartbeats 4000000 in
theorem rgnew_no (w : World) (r c : Int) (b : Cel) (hc : canB r c = false) : Calls Try.prog 13 #[.int .i64 r, .int .i64 c, celV b] w fun e w' => e = .returned (.agg #[.slice none 0 0]) ∧ Below w.heap.size w w' := by
  obtain ⟨w0, hw0⟩ : ∃ W0, W0 = ((w.alloc (.cells #[.int .i32 b.ru, .int .i32 b.m0, .int .i32 b.m1, .int .u8 b.k, .int .u8 b.a.fg.k, .int .u8 b.a.fg.r, .int .u8 b.a.fg.g, .int .u8 b.a.fg.b, .int .u8 b.a.bg.k, .int .u8 b.a.bg.r, .int .u8 b.a.bg.g, .int .u8 b.a.bg.b, .int .u16 (b.a.fl : Nat), .int .u8 b.l] 42)).alloc (.cells #[.slice none 0 0] 29)).alloc (.cells #[.slice none 0 0] 29) := ⟨_, rfl⟩
  obtain ⟨b5, hb5⟩ : ∃ b, b = w.heap.size := ⟨_, rfl⟩
  obtain ⟨b6, hb6⟩ : ∃ b, b = w.heap.size + 1 := ⟨_, rfl⟩
  obtain ⟨b7, hb7⟩ : ∃ b, b = w.heap.size + 1 + 1 := ⟨_, rfl⟩
  have B0 : Below w.heap.size w w0 := by rw [hw0]; exact (((Below.refl _ _).alloc (Nat.le_refl _) _).alloc (by simp) _).alloc (by simp; omega) _
  have h6 : w0.heap[b6]? = some (.cells #[.slice none 0 0] 29 (0, 0)) := by
    have := World.alloc_heap_new (w.alloc (.cells #[.int .i32 b.ru, .int .i32 b.m0, .int .i32 b.m1, .int .u8 b.k, .int .u8 b.a.fg.k, .int .u8 b.a.fg.r, .int .u8 b.a.fg.g, .int .u8 b.a.fg.b, .int .u8 b.a.bg.k, .int .u8 b.a.bg.r, .int .u8 b.a.bg.g, .int .u8 b.a.bg.b, .int .u16 (b.a.fl : Nat), .int .u8 b.l] 42)) (.cells #[.slice none 0 0] 29)
    rw [World.size_alloc] at this
    rw [hw0, hb6, Below.heap_alloc _ _ _ (by simp)]
    exact this
  have h7 : w0.heap[b7]? = some (.cells #[.slice none 0 0] 29 (0, 0)) := by
    have := World.alloc_heap_new ((w.alloc (.cells #[.int .i32 b.ru, .int .i32 b.m0, .int .i32 b.m1, .int .u8 b.k, .int .u8 b.a.fg.k, .int .u8 b.a.fg.r, .int .u8 b.a.fg.g, .int .u8 b.a.fg.b, .int .u8 b.a.bg.k, .int .u8 b.a.bg.r, .int .u8 b.a.bg.g, .int .u8 b.a.bg.b, .int .u16 (b.a.fl : Nat), .int .u8 b.l] 42)).alloc (.cells #[.slice none 0 0] 29)) (.cells #[.slice none 0 0] 29)
    rw [World.size_alloc, World.size_alloc] at this
    rw [hw0, hb7]
    exact this
  have c6 : w0.cell? ⟨b6, 0, none⟩ = some (.slice none 0 0) := by rw [cell_of_row w0 b6 0 _ _ _ h6]; simp
  have f6 : w0.frozen? ⟨b6, 0, none⟩ = false := frozen_of_row w0 b6 0 _ _ h6
  have c7 : w0.cell? ⟨b7, 0, none⟩ = some (.slice none 0 0) := by rw [cell_of_row w0 b7 0 _ _ _ h7]; simp
  have HB0 := Lib.hid B0
  have HC := Lib.hid hc
  have HB6 := Lib.hid (show w.heap.size ≤ b6 by omega)
  obtain ⟨xe, hxe⟩ : ∃ X, X = w0.setCell ⟨b6, 0, none⟩ (.slice none 0 0) := ⟨_, rfl⟩
  have HXE := Lib.hid (show xe.cell? ⟨b6, 0, none⟩ = some (.slice none 0 0) by rw [hxe]; exact World.cell?_setCell_same' _ _ _ (by rw [c6]; rfl))
  have HBE := Lib.hid (show Below w.heap.size w xe by rw [hxe]; exact HB0.out.trans ((But.set w0 b6 0 _).below (C := w.heap.size) HB6.out HB0.out.size))
  clear B0 h6 h7 hc
  by_cases h0 : 0 < r
  · go_enter Try.func13, Try.ntmps13
    go_upto_region 2 with (fail)
    rw [← hw0, ← hb7, ← hb6, ← hb5]
    clear hw0 hb7 hb6 hb5
    go_wp2
    refine wp_loop_rounds (1) ?_
    rw [rounds_succ]
    go_wp2_with fail
    refine (may_any w0 r c).mono ?_
    rintro e w' ⟨rfl, rfl⟩
    rw [HC.out]
    go_wp2
    rw [← hxe]
    clear hxe c6 f6 c7
    have q0 := HXE.out
    exact bodyPost_ret (v := .agg #[.slice none 0 0]) (by simp [results, Try.results13, go_sem, q0]) rfl ⟨rfl, HBE.out⟩
  · go_enter Try.func13, Try.ntmps13
    go_upto_region 2 with (fail)
    rw [← hw0, ← hb7, ← hb6, ← hb5]
    clear hw0 hb7 hb6 hb5
    go_wp2
    refine wp_loop_rounds (1) ?_
    rw [rounds_succ]
    go_wp2
    rw [← hxe]
    clear hxe c6 f6 c7
    have q0 := HXE.out
    exact bodyPost_ret (v := .agg #[.slice none 0 0]) (by simp [results, Try.results13, go_sem, q0]) rfl ⟨rfl, HBE.out⟩
end Go.Proofs.Ytdeahnphcfcfpaa.Lab
