/- Do two lists of rows look alike to Low: seen. -/
import Derived.Test.YtdeahnphcfcfpaaGreatGrOpen
import Derived.Test.YtdeahnphcfcfpaaGreatRoSame
namespace Go.Proofs.YtdeahnphcfcfpaaGreat.Lab
open Go Go.RowKit

set_option maxHeartbeats 16000000 in
set_option maxRecDepth 100000 in
theorem seen_any (w : World) (lo lo' : Nat) (u v : Value) (A B : List Cls) (hA : Rl w lo u A) (hB : Rl w lo' v B) (hg : GLow A B) (hl : A.length ≤ 600) (hr : ∀ R ∈ A, R.length ≤ 1000) :
    Calls Tryz.prog 8 #[u, v] w fun e w' => e = .returned (.bool true) ∧ Below w.heap.size w w' := by
  obtain ⟨KA, hka, rfl⟩ := hA
  obtain ⟨KB, hkb, rfl⟩ := hB
  obtain ⟨ua, uc, rfl⟩ := hka.shape
  obtain ⟨va, vc, rfl⟩ := hkb.shape
  rw [List.length_map] at hl
  have hm : KB.length = KA.length := by have := hg.1; rw [List.length_map, List.length_map] at this; omega
  obtain ⟨n, hn⟩ : ∃ n, n = KA.length := ⟨_, rfl⟩
  rw [hm] at hkb ⊢
  rw [← hn] at hka hkb hl hm ⊢
  have HN := Lib.hid hn
  have HM := Lib.hid hm
  have HKA := Lib.hid hka
  have HKB := Lib.hid hkb
  have HG := Lib.hid hg
  have HR := Lib.hid hr
  have HT0 := Lib.hid (show Below w.heap.size w w from Below.refl _ _)
  clear hn hm hka hkb hg hr
  have hnn : ((n : Int) != (n : Int)) = false := by simp
  go_enter Tryz.func8, Tryz.ntmps8
  go_wp2
  go_loopg [5] n (fun Gs i wr => ∃ (k : Nat), i = .int .i64 k ∧ k ≤ n ∧ n - k ≤ Gs ∧ Hid (Below w.heap.size w wr))
  case atStart => exact ⟨0, rfl, Nat.zero_le _, Nat.sub_le _ _, HT0⟩
  case round =>
    obtain ⟨k, rfl, hkn, hgk, HT⟩ := hrel
    clear HT0 hnn
    by_cases hlt : k < n
    · have HLT := Lib.hid (show k + 1 ≤ n from hlt)
      have hk1 : k < KA.length := by have := HN.out; omega
      have hk2 : k < KB.length := by have := HM.out; omega
      obtain ⟨ga, ca, e, _, hga⟩ := HKA.out.here (by omega)
      injection e with e1 e2 e3
      subst e1
      clear e2 e3
      obtain ⟨gb, cb, e, _, hgb⟩ := HKB.out.here (by omega)
      injection e with e1 e2 e3
      subst e1
      clear e2 e3
      obtain ⟨xa, hxa⟩ : ∃ x, x = KA[k] := ⟨_, rfl⟩
      obtain ⟨xb, hxb⟩ : ∃ x, x = KB[k] := ⟨_, rfl⟩
      have hle : LowE xa.R xb.R := by
        have := HG.out.2 k (by rw [List.length_map]; exact hk1)
        rw [List.getD_eq_getElem?_getD, List.getD_eq_getElem?_getD, List.getElem?_map, List.getElem?_map, List.getElem?_eq_getElem hk1, List.getElem?_eq_getElem hk2] at this
        rw [hxa, hxb]
        exact this
      have hl1 : xa.R.length ≤ 1000 := HR.out _ (by rw [hxa]; exact List.mem_map_of_mem (List.getElem_mem hk1))
      have ra : RowIn w (hdV xa) xa.R := by rw [hxa]; exact (HKA.out.row hk1).row
      have rb : RowIn w (hdV xb) xb.R := by rw [hxb]; exact (HKB.out.row hk2).row
      have ha : w.cell? ⟨ga, k, none⟩ = some (hdV xa) := by rw [hxa]; exact HKA.out.at hk1
      have hb : w.cell? ⟨gb, k, none⟩ = some (hdV xb) := by rw [hxb]; exact HKB.out.at hk2
      clear hxa hxb
      obtain ⟨l, hl⟩ : ∃ l, l = xa.R.length := ⟨_, rfl⟩
      obtain ⟨g1, o1, c1, e1', hC1⟩ : ∃ g o c, hdV xa = .slice (some ⟨g, o, none⟩) l c ∧ ∀ W, Below w.heap.size w W → ∀ j, j < l → C14 W g (o + j * 14) (gc xa.R j) := ⟨xa.b, 0, xa.c, by rw [hl], fun W kb j hj => by
        obtain ⟨g, o, c, e, _, _, h⟩ := (ra.below kb).open (by omega)
        injection e with e _ _
        injection e with e
        injection e with e1 e2
        subst e1 e2
        exact h j (by omega)⟩
      obtain ⟨g2, o2, c2, e2', hC2⟩ : ∃ g o c, hdV xb = .slice (some ⟨g, o, none⟩) l c ∧ ∀ W, Below w.heap.size w W → ∀ j, j < l → C14 W g (o + j * 14) (gc xb.R j) := ⟨xb.b, 0, xb.c, by rw [hl, hle.1], fun W kb j hj => by
        obtain ⟨g, o, c, e, _, _, h⟩ := (rb.below kb).open (by have := hle.1; omega)
        injection e with e _ _
        injection e with e
        injection e with e1 e2
        subst e1 e2
        exact h j (by have := hle.1; omega)⟩
      have HC1 := Lib.hid hC1
      have HC2 := Lib.hid hC2
      rw [e1'] at ha
      rw [e2'] at hb
      have HHD := Lib.hid (show ∀ W, Below w.heap.size w W → (fun wx => wx.cell? ⟨ga, k, none⟩ = some (.slice (some ⟨g1, o1, none⟩) l c1) ∧ wx.cell? ⟨gb, k, none⟩ = some (.slice (some ⟨g2, o2, none⟩) l c2)) W from fun W kb => ⟨(kb.cell (p := ⟨ga, k, none⟩) hga).trans ha, (kb.cell (p := ⟨gb, k, none⟩) hgb).trans hb⟩)
      have HSK := Lib.hid (show ∀ W, Below wr.heap.size wr W → (fun wx => wx.cell? ⟨ga, k, none⟩ = some (.slice (some ⟨g1, o1, none⟩) l c1) ∧ wx.cell? ⟨gb, k, none⟩ = some (.slice (some ⟨g2, o2, none⟩) l c2)) W from fun W kb => HHD.out W (HT.out.trans (kb.mono HT.out.size)))
      have HLE := Lib.hid (show ∀ j, j < l → (gc xa.R j).l = (gc xb.R j).l ∧ ((gc xa.R j).l = 0 → gc xa.R j = gc xb.R j) from fun j hj => hle.2 j (by omega))
      have hl6 : l ≤ 1000 := by omega
      have hln : ((l : Int) != (l : Int)) = false := by simp
      clear ha hb e1' e2' hC1 hC2 ra rb hl hle hl1 hk1 hk2 hga hgb
      go_upto_region 6 with (fail)
      refine wp_region_held_drew (S := fun wx => wx.cell? ⟨ga, k, none⟩ = some (.slice (some ⟨g1, o1, none⟩) l c1) ∧ wx.cell? ⟨gb, k, none⟩ = some (.slice (some ⟨g2, o2, none⟩) l c2)) (by kernel_rfl) ?_ (fun hHeld => ?_)
      · exact HSK.out _ ((Below.refl _ _).drew)
      obtain ⟨wd, hwd⟩ : ∃ X, X = wr.drew := ⟨_, rfl⟩
      have HX := Lib.hid (show Below wr.heap.size wr wd by rw [hwd]; exact (Below.refl _ _).drew)
      replace hHeld := HSK.out _ HX.out
      rw [← hwd]
      clear hwd
      refine tk 0 rfl (fun w hSw => by (try dsimp only at hSw); go_simp; try with_reducible rfl) ?_
      go_frame
      refine tk 1 rfl (fun w hSw => by (try dsimp only at hSw); go_simp; try with_reducible rfl) ?_
      go_frame
      refine tk 2 rfl (fun w hSw => by (try dsimp only at hSw); go_simp; try with_reducible rfl) ?_
      go_frame
      refine tk 3 rfl (fun w hSw => by (try dsimp only at hSw); go_simp; try with_reducible rfl) ?_
      go_frame
      refine tk 4 rfl (fun w hSw => by (try dsimp only at hSw); go_simp; try with_reducible rfl) ?_
      go_frame
      refine tk 5 rfl (fun w hSw => by (try dsimp only at hSw); go_simp; try with_reducible rfl) ?_
      go_frame
      refine tk 6 rfl (fun w hSw => by (try dsimp only at hSw); go_simp; try with_reducible rfl) ?_
      go_frame
      refine tk 7 rfl (fun w hSw => by (try dsimp only at hSw); go_simp; try with_reducible rfl) ?_
      go_frame
      refine tk 8 rfl (fun w hSw => by (try dsimp only at hSw); go_simp; try with_reducible rfl) ?_
      go_frame
      refine tk 9 rfl (fun w hSw => by (try dsimp only at hSw); go_simp; try with_reducible rfl) ?_
      go_frame
      refine tk 10 rfl (fun w hSw => by (try dsimp only at hSw); go_simp; try with_reducible rfl) ?_
      go_frame
      refine wpAnyH_done (by kernel_rfl) ?_ _
      have HB0 := Lib.hid (HT.out.trans (HX.out.mono HT.out.size))
      clear hHeld HX HT HSK hln
      go_wp2
      go_loopg [6] l (fun Gs i wr => ∃ (j : Nat), i = .int .i64 j ∧ j ≤ l ∧ l - j ≤ Gs ∧ Hid (Below w.heap.size w wr))
      case atStart => exact ⟨0, rfl, Nat.zero_le _, Nat.sub_le _ _, HB0⟩
      case round =>
        obtain ⟨j, rfl, hjl, hgj, HI⟩ := hrel
        clear HB0
        have ya := (HHD.out wr HI.out).1
        have yb := (HHD.out wr HI.out).2
        by_cases hlj : j < l
        · have HLJ := Lib.hid (show j + 1 ≤ l from hlj)
          obtain ⟨c, hc⟩ : ∃ c, c = gc xa.R j := ⟨_, rfl⟩
          obtain ⟨d, hd⟩ : ∃ d, d = gc xb.R j := ⟨_, rfl⟩
          obtain ⟨e1, e2⟩ := HLE.out j hlj
          rw [← hc, ← hd] at e1 e2
          have HSK := Lib.hid (show ∀ W, Below wr.heap.size wr W → (fun wx => wx.cell? ⟨ga, k, none⟩ = some (.slice (some ⟨g1, o1, none⟩) l c1) ∧ wx.cell? ⟨gb, k, none⟩ = some (.slice (some ⟨g2, o2, none⟩) l c2) ∧ wx.cell? ⟨g1, o1 + j * 14, none⟩ = some (.int .i32 c.ru) ∧ wx.cell? ⟨g1, o1 + j * 14 + 1, none⟩ = some (.int .i32 c.m0) ∧ wx.cell? ⟨g1, o1 + j * 14 + 2, none⟩ = some (.int .i32 c.m1) ∧ wx.cell? ⟨g1, o1 + j * 14 + 3, none⟩ = some (.int .u8 c.k) ∧ wx.cell? ⟨g1, o1 + j * 14 + 4, none⟩ = some (.int .u8 c.a.fg.k) ∧ wx.cell? ⟨g1, o1 + j * 14 + 5, none⟩ = some (.int .u8 c.a.fg.r) ∧ wx.cell? ⟨g1, o1 + j * 14 + 6, none⟩ = some (.int .u8 c.a.fg.g) ∧ wx.cell? ⟨g1, o1 + j * 14 + 7, none⟩ = some (.int .u8 c.a.fg.b) ∧ wx.cell? ⟨g1, o1 + j * 14 + 8, none⟩ = some (.int .u8 c.a.bg.k) ∧ wx.cell? ⟨g1, o1 + j * 14 + 9, none⟩ = some (.int .u8 c.a.bg.r) ∧ wx.cell? ⟨g1, o1 + j * 14 + 10, none⟩ = some (.int .u8 c.a.bg.g) ∧ wx.cell? ⟨g1, o1 + j * 14 + 11, none⟩ = some (.int .u8 c.a.bg.b) ∧ wx.cell? ⟨g1, o1 + j * 14 + 12, none⟩ = some (.int .u16 (c.a.fl : Nat)) ∧ wx.cell? ⟨g1, o1 + j * 14 + 13, none⟩ = some (.int .u8 c.l) ∧ wx.cell? ⟨g2, o2 + j * 14, none⟩ = some (.int .i32 d.ru) ∧ wx.cell? ⟨g2, o2 + j * 14 + 1, none⟩ = some (.int .i32 d.m0) ∧ wx.cell? ⟨g2, o2 + j * 14 + 2, none⟩ = some (.int .i32 d.m1) ∧ wx.cell? ⟨g2, o2 + j * 14 + 3, none⟩ = some (.int .u8 d.k) ∧ wx.cell? ⟨g2, o2 + j * 14 + 4, none⟩ = some (.int .u8 d.a.fg.k) ∧ wx.cell? ⟨g2, o2 + j * 14 + 5, none⟩ = some (.int .u8 d.a.fg.r) ∧ wx.cell? ⟨g2, o2 + j * 14 + 6, none⟩ = some (.int .u8 d.a.fg.g) ∧ wx.cell? ⟨g2, o2 + j * 14 + 7, none⟩ = some (.int .u8 d.a.fg.b) ∧ wx.cell? ⟨g2, o2 + j * 14 + 8, none⟩ = some (.int .u8 d.a.bg.k) ∧ wx.cell? ⟨g2, o2 + j * 14 + 9, none⟩ = some (.int .u8 d.a.bg.r) ∧ wx.cell? ⟨g2, o2 + j * 14 + 10, none⟩ = some (.int .u8 d.a.bg.g) ∧ wx.cell? ⟨g2, o2 + j * 14 + 11, none⟩ = some (.int .u8 d.a.bg.b) ∧ wx.cell? ⟨g2, o2 + j * 14 + 12, none⟩ = some (.int .u16 (d.a.fl : Nat)) ∧ wx.cell? ⟨g2, o2 + j * 14 + 13, none⟩ = some (.int .u8 d.l)) W from fun W kb => by
            obtain ⟨a0, a1, a2, a3, a4, a5, a6, a7, a8, a9, a10, a11, a12, a13⟩ := HC1.out W (HI.out.trans (kb.mono HI.out.size)) j hlj
            obtain ⟨b0, b1, b2, b3, b4, b5, b6, b7, b8, b9, b10, b11, b12, b13⟩ := HC2.out W (HI.out.trans (kb.mono HI.out.size)) j hlj
            rw [← hc] at a0 a1 a2 a3 a4 a5 a6 a7 a8 a9 a10 a11 a12 a13
            rw [← hd] at b0 b1 b2 b3 b4 b5 b6 b7 b8 b9 b10 b11 b12 b13
            obtain ⟨z1, z2⟩ := HHD.out W (HI.out.trans (kb.mono HI.out.size))
            exact ⟨z1, z2, a0, a1, a2, a3, a4, a5, a6, a7, a8, a9, a10, a11, a12, a13, b0, b1, b2, b3, b4, b5, b6, b7, b8, b9, b10, b11, b12, b13⟩)
          clear hc hd yb
          by_cases hz : c.l = 0
          · obtain rfl := e2 hz
            have hq : ∀ w : World, (Op.equalIn 10000 55 (celV c) (celV c)).run Tryz.prog w = .ok true w := fun w => by rw [eqCel, decide_eq_true rfl]
            have hll : (c.l != c.l) = false := by simp
            have hl0 : (c.l == 0) = true := by simp [hz]
            clear e1 e2 hz
            go_upto_region 11 with (fail)
            refine wp_region_held_drew (S := fun wx => wx.cell? ⟨ga, k, none⟩ = some (.slice (some ⟨g1, o1, none⟩) l c1) ∧ wx.cell? ⟨gb, k, none⟩ = some (.slice (some ⟨g2, o2, none⟩) l c2) ∧ wx.cell? ⟨g1, o1 + j * 14, none⟩ = some (.int .i32 c.ru) ∧ wx.cell? ⟨g1, o1 + j * 14 + 1, none⟩ = some (.int .i32 c.m0) ∧ wx.cell? ⟨g1, o1 + j * 14 + 2, none⟩ = some (.int .i32 c.m1) ∧ wx.cell? ⟨g1, o1 + j * 14 + 3, none⟩ = some (.int .u8 c.k) ∧ wx.cell? ⟨g1, o1 + j * 14 + 4, none⟩ = some (.int .u8 c.a.fg.k) ∧ wx.cell? ⟨g1, o1 + j * 14 + 5, none⟩ = some (.int .u8 c.a.fg.r) ∧ wx.cell? ⟨g1, o1 + j * 14 + 6, none⟩ = some (.int .u8 c.a.fg.g) ∧ wx.cell? ⟨g1, o1 + j * 14 + 7, none⟩ = some (.int .u8 c.a.fg.b) ∧ wx.cell? ⟨g1, o1 + j * 14 + 8, none⟩ = some (.int .u8 c.a.bg.k) ∧ wx.cell? ⟨g1, o1 + j * 14 + 9, none⟩ = some (.int .u8 c.a.bg.r) ∧ wx.cell? ⟨g1, o1 + j * 14 + 10, none⟩ = some (.int .u8 c.a.bg.g) ∧ wx.cell? ⟨g1, o1 + j * 14 + 11, none⟩ = some (.int .u8 c.a.bg.b) ∧ wx.cell? ⟨g1, o1 + j * 14 + 12, none⟩ = some (.int .u16 (c.a.fl : Nat)) ∧ wx.cell? ⟨g1, o1 + j * 14 + 13, none⟩ = some (.int .u8 c.l) ∧ wx.cell? ⟨g2, o2 + j * 14, none⟩ = some (.int .i32 c.ru) ∧ wx.cell? ⟨g2, o2 + j * 14 + 1, none⟩ = some (.int .i32 c.m0) ∧ wx.cell? ⟨g2, o2 + j * 14 + 2, none⟩ = some (.int .i32 c.m1) ∧ wx.cell? ⟨g2, o2 + j * 14 + 3, none⟩ = some (.int .u8 c.k) ∧ wx.cell? ⟨g2, o2 + j * 14 + 4, none⟩ = some (.int .u8 c.a.fg.k) ∧ wx.cell? ⟨g2, o2 + j * 14 + 5, none⟩ = some (.int .u8 c.a.fg.r) ∧ wx.cell? ⟨g2, o2 + j * 14 + 6, none⟩ = some (.int .u8 c.a.fg.g) ∧ wx.cell? ⟨g2, o2 + j * 14 + 7, none⟩ = some (.int .u8 c.a.fg.b) ∧ wx.cell? ⟨g2, o2 + j * 14 + 8, none⟩ = some (.int .u8 c.a.bg.k) ∧ wx.cell? ⟨g2, o2 + j * 14 + 9, none⟩ = some (.int .u8 c.a.bg.r) ∧ wx.cell? ⟨g2, o2 + j * 14 + 10, none⟩ = some (.int .u8 c.a.bg.g) ∧ wx.cell? ⟨g2, o2 + j * 14 + 11, none⟩ = some (.int .u8 c.a.bg.b) ∧ wx.cell? ⟨g2, o2 + j * 14 + 12, none⟩ = some (.int .u16 (c.a.fl : Nat)) ∧ wx.cell? ⟨g2, o2 + j * 14 + 13, none⟩ = some (.int .u8 c.l)) (by kernel_rfl) ?_ (fun hHeld => ?_)
            · exact HSK.out _ ((Below.refl _ _).drew)
            obtain ⟨wd, hwd⟩ : ∃ X, X = wr.drew := ⟨_, rfl⟩
            have HX := Lib.hid (show Below wr.heap.size wr wd by rw [hwd]; exact (Below.refl _ _).drew)
            replace hHeld := HSK.out _ HX.out
            rw [← hwd]
            clear hwd
            refine tk 0 rfl (fun w hSw => by (try dsimp only at hSw); go_simp; try with_reducible rfl) ?_
            go_frame
            refine tk 1 rfl (fun w hSw => by (try dsimp only at hSw); go_simp; try with_reducible rfl) ?_
            go_frame
            refine tk 2 rfl (fun w hSw => by (try dsimp only at hSw); go_simp; try with_reducible rfl) ?_
            go_frame
            refine tk 3 rfl (fun w hSw => by (try dsimp only at hSw); go_simp; try with_reducible rfl) ?_
            go_frame
            refine tk 4 rfl (fun w hSw => by (try dsimp only at hSw); go_simp; try with_reducible rfl) ?_
            go_frame
            refine tk 5 rfl (fun w hSw => by (try dsimp only at hSw); go_simp; try with_reducible rfl) ?_
            go_frame
            refine tk 6 rfl (fun w hSw => by (try dsimp only at hSw); go_simp; try with_reducible rfl) ?_
            go_frame
            refine tk 7 rfl (fun w hSw => by (try dsimp only at hSw); go_simp; try with_reducible rfl) ?_
            go_frame
            refine tk 8 rfl (fun w hSw => by (try dsimp only at hSw); go_simp; try with_reducible rfl) ?_
            go_frame
            refine tk 9 rfl (fun w hSw => by (try dsimp only at hSw); go_simp; try with_reducible rfl) ?_
            go_frame
            refine tk 10 rfl (fun w hSw => by (try dsimp only at hSw); go_simp; try with_reducible rfl) ?_
            go_frame
            refine tk 11 rfl (fun w hSw => by (try dsimp only at hSw); go_simp; try with_reducible rfl) ?_
            go_frame
            refine tk 12 rfl (fun w hSw => by (try dsimp only at hSw); go_simp; try with_reducible rfl) ?_
            go_frame
            refine tk 13 rfl (fun w hSw => by (try dsimp only at hSw); go_simp; try with_reducible rfl) ?_
            go_frame
            refine two_at (i := 14) (j := 15) rfl rfl (by kernel_rfl) (by kernel_rfl) (by kernel_rfl) (fun K hK => ?_) (fun K hK => ?_)
            · obtain ⟨bx, hbx⟩ : ∃ b, b = wd.heap.size := ⟨_, rfl⟩
              obtain ⟨wa14, hwa⟩ : ∃ X, X = wd.alloc (.cells #[.int .i32 0, .int .i32 0, .int .i32 0, .int .u8 0, .int .u8 0, .int .u8 0, .int .u8 0, .int .u8 0, .int .u8 0, .int .u8 0, .int .u8 0, .int .u8 0, .int .u16 0, .int .u8 0] 55) := ⟨_, rfl⟩
              have bb : Below wd.heap.size wd wa14 := by rw [hwa]; exact (Below.refl _ _).alloc (Nat.le_refl _) _
              have HVX := Lib.hid (show wa14.heap[bx]? = some (.cells #[.int .i32 0, .int .i32 0, .int .i32 0, .int .u8 0, .int .u8 0, .int .u8 0, .int .u8 0, .int .u8 0, .int .u8 0, .int .u8 0, .int .u8 0, .int .u8 0, .int .u16 0, .int .u8 0] 55 (0, 0)) by rw [hwa, hbx]; exact World.alloc_heap_new _ _)
              have HVXB := Lib.hid (show wr.heap.size ≤ bx by rw [hbx]; exact HX.out.size)
              replace HX := Lib.hid (HX.out.trans (bb.mono HX.out.size))
              clear bb
              go_simp
              rw [← hwa, ← hbx]
              clear hwa hbx
              refine hK.out _ _ ?_ (fun hHeld => ?_)
              · exact HSK.out _ HX.out
              clear hK K
              try go_frame
              refine do_at (i := 15) rfl (by kernel_rfl) (by kernel_rfl) (fun K hK => ?_)
              obtain ⟨by', hby'⟩ : ∃ b, b = wa14.heap.size := ⟨_, rfl⟩
              obtain ⟨wa15, hwa⟩ : ∃ X, X = wa14.alloc (.cells #[.int .i32 0, .int .i32 0, .int .i32 0, .int .u8 0, .int .u8 0, .int .u8 0, .int .u8 0, .int .u8 0, .int .u8 0, .int .u8 0, .int .u8 0, .int .u8 0, .int .u16 0, .int .u8 0] 55) := ⟨_, rfl⟩
              have bb : Below wa14.heap.size wa14 wa15 := by rw [hwa]; exact (Below.refl _ _).alloc (Nat.le_refl _) _
              have HVY := Lib.hid (show wa15.heap[by']? = some (.cells #[.int .i32 0, .int .i32 0, .int .i32 0, .int .u8 0, .int .u8 0, .int .u8 0, .int .u8 0, .int .u8 0, .int .u8 0, .int .u8 0, .int .u8 0, .int .u8 0, .int .u16 0, .int .u8 0] 55 (0, 0)) by rw [hwa, hby']; exact World.alloc_heap_new _ _)
              have HVYB := Lib.hid (show wr.heap.size ≤ by' by rw [hby']; exact HX.out.size)
              have HNE := Lib.hid (show bx ≠ by' by have := (Array.getElem?_eq_some_iff.1 HVX.out).1; omega)
              replace HVX := Lib.hid ((bb.block bx (Array.getElem?_eq_some_iff.1 HVX.out).1).trans HVX.out)
              replace HX := Lib.hid (HX.out.trans (bb.mono HX.out.size))
              clear bb
              go_simp
              rw [← hwa, ← hby']
              clear hwa hby'
              refine hK.out _ _ ?_ (fun hHeld => ?_)
              · exact HSK.out _ HX.out
              clear hK K
              try go_frame
              refine do_at (i := 16) rfl (by kernel_rfl) (by kernel_rfl) (fun K hK => ?_)
              have HSO := HVX
              have HQc := Lib.hid (setRow_heap wa15 bx _ #[.int .i32 c.ru, .int .i32 c.m0, .int .i32 c.m1, .int .u8 c.k, .int .u8 c.a.fg.k, .int .u8 c.a.fg.r, .int .u8 c.a.fg.g, .int .u8 c.a.fg.b, .int .u8 c.a.bg.k, .int .u8 c.a.bg.r, .int .u8 c.a.bg.g, .int .u8 c.a.bg.b, .int .u16 (c.a.fl : Nat), .int .u8 c.l] _ _ HVX.out)
              have HQB := Lib.hid (show Below wr.heap.size wr (wa15.setRow bx #[.int .i32 c.ru, .int .i32 c.m0, .int .i32 c.m1, .int .u8 c.k, .int .u8 c.a.fg.k, .int .u8 c.a.fg.r, .int .u8 c.a.fg.g, .int .u8 c.a.fg.b, .int .u8 c.a.bg.k, .int .u8 c.a.bg.r, .int .u8 c.a.bg.g, .int .u8 c.a.bg.b, .int .u16 (c.a.fl : Nat), .int .u8 c.l]) from HX.out.trans ((But.setRow wa15 bx #[.int .i32 c.ru, .int .i32 c.m0, .int .i32 c.m1, .int .u8 c.k, .int .u8 c.a.fg.k, .int .u8 c.a.fg.r, .int .u8 c.a.fg.g, .int .u8 c.a.fg.b, .int .u8 c.a.bg.k, .int .u8 c.a.bg.r, .int .u8 c.a.bg.g, .int .u8 c.a.bg.b, .int .u16 (c.a.fl : Nat), .int .u8 c.l]).below HVXB.out HX.out.size))
              replace HVY := Lib.hid (((But.setRow wa15 bx #[.int .i32 c.ru, .int .i32 c.m0, .int .i32 c.m1, .int .u8 c.k, .int .u8 c.a.fg.k, .int .u8 c.a.fg.r, .int .u8 c.a.fg.g, .int .u8 c.a.fg.b, .int .u8 c.a.bg.k, .int .u8 c.a.bg.r, .int .u8 c.a.bg.g, .int .u8 c.a.bg.b, .int .u16 (c.a.fl : Nat), .int .u8 c.l]).block by' (Array.getElem?_eq_some_iff.1 HVY.out).1 (by simpa using HNE.out.symm)).trans HVY.out)
              refine wp_store_row 55 (.tmp 7) (.tmp 46) rfl bx #[.int .i32 c.ru, .int .i32 c.m0, .int .i32 c.m1, .int .u8 c.k, .int .u8 c.a.fg.k, .int .u8 c.a.fg.r, .int .u8 c.a.fg.g, .int .u8 c.a.fg.b, .int .u8 c.a.bg.k, .int .u8 c.a.bg.r, .int .u8 c.a.bg.g, .int .u8 c.a.bg.b, .int .u16 (c.a.fl : Nat), .int .u8 c.l] rfl rfl 55 _ HSO.out (by kernel_rfl) rfl (by simp [Value.oneCell']) ?_
              obtain ⟨wq1, hwq⟩ : ∃ X, X = wa15.setRow bx #[.int .i32 c.ru, .int .i32 c.m0, .int .i32 c.m1, .int .u8 c.k, .int .u8 c.a.fg.k, .int .u8 c.a.fg.r, .int .u8 c.a.fg.g, .int .u8 c.a.fg.b, .int .u8 c.a.bg.k, .int .u8 c.a.bg.r, .int .u8 c.a.bg.g, .int .u8 c.a.bg.b, .int .u16 (c.a.fl : Nat), .int .u8 c.l] := ⟨_, rfl⟩
              rw [← hwq] at HVY HQc HQB ⊢
              clear hwq HSO
              have HQX := HQB
              refine hK.out _ _ ?_ (fun hHeld => ?_)
              · exact HSK.out _ (HQB.out)
              clear hK K
              try simp only [Act.put]
              refine do_at (i := 17) rfl (by kernel_rfl) (by kernel_rfl) (fun K hK => ?_)
              have HSO := HVY
              have HQd := Lib.hid (setRow_heap wq1 by' _ #[.int .i32 c.ru, .int .i32 c.m0, .int .i32 c.m1, .int .u8 c.k, .int .u8 c.a.fg.k, .int .u8 c.a.fg.r, .int .u8 c.a.fg.g, .int .u8 c.a.fg.b, .int .u8 c.a.bg.k, .int .u8 c.a.bg.r, .int .u8 c.a.bg.g, .int .u8 c.a.bg.b, .int .u16 (c.a.fl : Nat), .int .u8 c.l] _ _ HVY.out)
              have HQB := Lib.hid (show Below wr.heap.size wr (wq1.setRow by' #[.int .i32 c.ru, .int .i32 c.m0, .int .i32 c.m1, .int .u8 c.k, .int .u8 c.a.fg.k, .int .u8 c.a.fg.r, .int .u8 c.a.fg.g, .int .u8 c.a.fg.b, .int .u8 c.a.bg.k, .int .u8 c.a.bg.r, .int .u8 c.a.bg.g, .int .u8 c.a.bg.b, .int .u16 (c.a.fl : Nat), .int .u8 c.l]) from HQX.out.trans ((But.setRow wq1 by' #[.int .i32 c.ru, .int .i32 c.m0, .int .i32 c.m1, .int .u8 c.k, .int .u8 c.a.fg.k, .int .u8 c.a.fg.r, .int .u8 c.a.fg.g, .int .u8 c.a.fg.b, .int .u8 c.a.bg.k, .int .u8 c.a.bg.r, .int .u8 c.a.bg.g, .int .u8 c.a.bg.b, .int .u16 (c.a.fl : Nat), .int .u8 c.l]).below HVYB.out HQX.out.size))
              replace HQc := Lib.hid (((But.setRow wq1 by' #[.int .i32 c.ru, .int .i32 c.m0, .int .i32 c.m1, .int .u8 c.k, .int .u8 c.a.fg.k, .int .u8 c.a.fg.r, .int .u8 c.a.fg.g, .int .u8 c.a.fg.b, .int .u8 c.a.bg.k, .int .u8 c.a.bg.r, .int .u8 c.a.bg.g, .int .u8 c.a.bg.b, .int .u16 (c.a.fl : Nat), .int .u8 c.l]).block bx (Array.getElem?_eq_some_iff.1 HQc.out).1 (by simpa using HNE.out)).trans HQc.out)
              refine wp_store_row 55 (.tmp 8) (.tmp 53) rfl by' #[.int .i32 c.ru, .int .i32 c.m0, .int .i32 c.m1, .int .u8 c.k, .int .u8 c.a.fg.k, .int .u8 c.a.fg.r, .int .u8 c.a.fg.g, .int .u8 c.a.fg.b, .int .u8 c.a.bg.k, .int .u8 c.a.bg.r, .int .u8 c.a.bg.g, .int .u8 c.a.bg.b, .int .u16 (c.a.fl : Nat), .int .u8 c.l] rfl rfl 55 _ HSO.out (by kernel_rfl) rfl (by simp [Value.oneCell']) ?_
              obtain ⟨wq2, hwq⟩ : ∃ X, X = wq1.setRow by' #[.int .i32 c.ru, .int .i32 c.m0, .int .i32 c.m1, .int .u8 c.k, .int .u8 c.a.fg.k, .int .u8 c.a.fg.r, .int .u8 c.a.fg.g, .int .u8 c.a.fg.b, .int .u8 c.a.bg.k, .int .u8 c.a.bg.r, .int .u8 c.a.bg.g, .int .u8 c.a.bg.b, .int .u16 (c.a.fl : Nat), .int .u8 c.l] := ⟨_, rfl⟩
              rw [← hwq] at HQc HQd HQB ⊢
              clear hwq HSO
              refine hK.out _ _ ?_ (fun hHeld => ?_)
              · exact HSK.out _ (HQB.out)
              clear hK K
              try simp only [Act.put]
              refine wpAnyH_done (by kernel_rfl) ?_ _
              have HLC := Lib.hid (Lie.of HQc.out)
              have HLD := Lib.hid (Lie.of HQd.out)
              have HIE := Lib.hid (HI.out.trans (HQB.out.mono HI.out.size))
              have lc13 := HLC.out.at 13 rfl
              have ld13 := HLD.out.at 13 rfl
              have lc0 := HLC.out.at 0 rfl
              have lc1 := HLC.out.at 1 rfl
              have lc2 := HLC.out.at 2 rfl
              have lc3 := HLC.out.at 3 rfl
              have lc4 := HLC.out.at 4 rfl
              have lc5 := HLC.out.at 5 rfl
              have lc6 := HLC.out.at 6 rfl
              have lc7 := HLC.out.at 7 rfl
              have lc8 := HLC.out.at 8 rfl
              have lc9 := HLC.out.at 9 rfl
              have lc10 := HLC.out.at 10 rfl
              have lc11 := HLC.out.at 11 rfl
              have lc12 := HLC.out.at 12 rfl
              have ld0 := HLD.out.at 0 rfl
              have ld1 := HLD.out.at 1 rfl
              have ld2 := HLD.out.at 2 rfl
              have ld3 := HLD.out.at 3 rfl
              have ld4 := HLD.out.at 4 rfl
              have ld5 := HLD.out.at 5 rfl
              have ld6 := HLD.out.at 6 rfl
              have ld7 := HLD.out.at 7 rfl
              have ld8 := HLD.out.at 8 rfl
              have ld9 := HLD.out.at 9 rfl
              have ld10 := HLD.out.at 10 rfl
              have ld11 := HLD.out.at 11 rfl
              have ld12 := HLD.out.at 12 rfl
              clear hHeld HX HQX HQB HQc HQd HVX HVXB HVY HVYB HNE HLC HLD HI HSK ya
              go_wp2
              go_roundg (l - (j + 1))
              case rel => exact ⟨j + 1, by go_num, HLJ.out, Nat.le_refl _, HIE⟩
              case measure => have := HLJ.out; omega
            · obtain ⟨by', hby'⟩ : ∃ b, b = wd.heap.size := ⟨_, rfl⟩
              obtain ⟨wa15, hwa⟩ : ∃ X, X = wd.alloc (.cells #[.int .i32 0, .int .i32 0, .int .i32 0, .int .u8 0, .int .u8 0, .int .u8 0, .int .u8 0, .int .u8 0, .int .u8 0, .int .u8 0, .int .u8 0, .int .u8 0, .int .u16 0, .int .u8 0] 55) := ⟨_, rfl⟩
              have bb : Below wd.heap.size wd wa15 := by rw [hwa]; exact (Below.refl _ _).alloc (Nat.le_refl _) _
              have HVY := Lib.hid (show wa15.heap[by']? = some (.cells #[.int .i32 0, .int .i32 0, .int .i32 0, .int .u8 0, .int .u8 0, .int .u8 0, .int .u8 0, .int .u8 0, .int .u8 0, .int .u8 0, .int .u8 0, .int .u8 0, .int .u16 0, .int .u8 0] 55 (0, 0)) by rw [hwa, hby']; exact World.alloc_heap_new _ _)
              have HVYB := Lib.hid (show wr.heap.size ≤ by' by rw [hby']; exact HX.out.size)
              replace HX := Lib.hid (HX.out.trans (bb.mono HX.out.size))
              clear bb
              go_simp
              rw [← hwa, ← hby']
              clear hwa hby'
              refine hK.out _ _ ?_ (fun hHeld => ?_)
              · exact HSK.out _ HX.out
              clear hK K
              try go_frame
              refine do_at (i := 14) rfl (by kernel_rfl) (by kernel_rfl) (fun K hK => ?_)
              obtain ⟨bx, hbx⟩ : ∃ b, b = wa15.heap.size := ⟨_, rfl⟩
              obtain ⟨wa14, hwa⟩ : ∃ X, X = wa15.alloc (.cells #[.int .i32 0, .int .i32 0, .int .i32 0, .int .u8 0, .int .u8 0, .int .u8 0, .int .u8 0, .int .u8 0, .int .u8 0, .int .u8 0, .int .u8 0, .int .u8 0, .int .u16 0, .int .u8 0] 55) := ⟨_, rfl⟩
              have bb : Below wa15.heap.size wa15 wa14 := by rw [hwa]; exact (Below.refl _ _).alloc (Nat.le_refl _) _
              have HVX := Lib.hid (show wa14.heap[bx]? = some (.cells #[.int .i32 0, .int .i32 0, .int .i32 0, .int .u8 0, .int .u8 0, .int .u8 0, .int .u8 0, .int .u8 0, .int .u8 0, .int .u8 0, .int .u8 0, .int .u8 0, .int .u16 0, .int .u8 0] 55 (0, 0)) by rw [hwa, hbx]; exact World.alloc_heap_new _ _)
              have HVXB := Lib.hid (show wr.heap.size ≤ bx by rw [hbx]; exact HX.out.size)
              have HNE := Lib.hid (show bx ≠ by' by have := (Array.getElem?_eq_some_iff.1 HVY.out).1; omega)
              replace HVY := Lib.hid ((bb.block by' (Array.getElem?_eq_some_iff.1 HVY.out).1).trans HVY.out)
              replace HX := Lib.hid (HX.out.trans (bb.mono HX.out.size))
              clear bb
              go_simp
              rw [← hwa, ← hbx]
              clear hwa hbx
              refine hK.out _ _ ?_ (fun hHeld => ?_)
              · exact HSK.out _ HX.out
              clear hK K
              try go_frame
              refine do_at (i := 16) rfl (by kernel_rfl) (by kernel_rfl) (fun K hK => ?_)
              have HSO := HVX
              have HQc := Lib.hid (setRow_heap wa14 bx _ #[.int .i32 c.ru, .int .i32 c.m0, .int .i32 c.m1, .int .u8 c.k, .int .u8 c.a.fg.k, .int .u8 c.a.fg.r, .int .u8 c.a.fg.g, .int .u8 c.a.fg.b, .int .u8 c.a.bg.k, .int .u8 c.a.bg.r, .int .u8 c.a.bg.g, .int .u8 c.a.bg.b, .int .u16 (c.a.fl : Nat), .int .u8 c.l] _ _ HVX.out)
              have HQB := Lib.hid (show Below wr.heap.size wr (wa14.setRow bx #[.int .i32 c.ru, .int .i32 c.m0, .int .i32 c.m1, .int .u8 c.k, .int .u8 c.a.fg.k, .int .u8 c.a.fg.r, .int .u8 c.a.fg.g, .int .u8 c.a.fg.b, .int .u8 c.a.bg.k, .int .u8 c.a.bg.r, .int .u8 c.a.bg.g, .int .u8 c.a.bg.b, .int .u16 (c.a.fl : Nat), .int .u8 c.l]) from HX.out.trans ((But.setRow wa14 bx #[.int .i32 c.ru, .int .i32 c.m0, .int .i32 c.m1, .int .u8 c.k, .int .u8 c.a.fg.k, .int .u8 c.a.fg.r, .int .u8 c.a.fg.g, .int .u8 c.a.fg.b, .int .u8 c.a.bg.k, .int .u8 c.a.bg.r, .int .u8 c.a.bg.g, .int .u8 c.a.bg.b, .int .u16 (c.a.fl : Nat), .int .u8 c.l]).below HVXB.out HX.out.size))
              replace HVY := Lib.hid (((But.setRow wa14 bx #[.int .i32 c.ru, .int .i32 c.m0, .int .i32 c.m1, .int .u8 c.k, .int .u8 c.a.fg.k, .int .u8 c.a.fg.r, .int .u8 c.a.fg.g, .int .u8 c.a.fg.b, .int .u8 c.a.bg.k, .int .u8 c.a.bg.r, .int .u8 c.a.bg.g, .int .u8 c.a.bg.b, .int .u16 (c.a.fl : Nat), .int .u8 c.l]).block by' (Array.getElem?_eq_some_iff.1 HVY.out).1 (by simpa using HNE.out.symm)).trans HVY.out)
              refine wp_store_row 55 (.tmp 7) (.tmp 46) rfl bx #[.int .i32 c.ru, .int .i32 c.m0, .int .i32 c.m1, .int .u8 c.k, .int .u8 c.a.fg.k, .int .u8 c.a.fg.r, .int .u8 c.a.fg.g, .int .u8 c.a.fg.b, .int .u8 c.a.bg.k, .int .u8 c.a.bg.r, .int .u8 c.a.bg.g, .int .u8 c.a.bg.b, .int .u16 (c.a.fl : Nat), .int .u8 c.l] rfl rfl 55 _ HSO.out (by kernel_rfl) rfl (by simp [Value.oneCell']) ?_
              obtain ⟨wq1, hwq⟩ : ∃ X, X = wa14.setRow bx #[.int .i32 c.ru, .int .i32 c.m0, .int .i32 c.m1, .int .u8 c.k, .int .u8 c.a.fg.k, .int .u8 c.a.fg.r, .int .u8 c.a.fg.g, .int .u8 c.a.fg.b, .int .u8 c.a.bg.k, .int .u8 c.a.bg.r, .int .u8 c.a.bg.g, .int .u8 c.a.bg.b, .int .u16 (c.a.fl : Nat), .int .u8 c.l] := ⟨_, rfl⟩
              rw [← hwq] at HVY HQc HQB ⊢
              clear hwq HSO
              have HQX := HQB
              refine hK.out _ _ ?_ (fun hHeld => ?_)
              · exact HSK.out _ (HQB.out)
              clear hK K
              try simp only [Act.put]
              refine do_at (i := 17) rfl (by kernel_rfl) (by kernel_rfl) (fun K hK => ?_)
              have HSO := HVY
              have HQd := Lib.hid (setRow_heap wq1 by' _ #[.int .i32 c.ru, .int .i32 c.m0, .int .i32 c.m1, .int .u8 c.k, .int .u8 c.a.fg.k, .int .u8 c.a.fg.r, .int .u8 c.a.fg.g, .int .u8 c.a.fg.b, .int .u8 c.a.bg.k, .int .u8 c.a.bg.r, .int .u8 c.a.bg.g, .int .u8 c.a.bg.b, .int .u16 (c.a.fl : Nat), .int .u8 c.l] _ _ HVY.out)
              have HQB := Lib.hid (show Below wr.heap.size wr (wq1.setRow by' #[.int .i32 c.ru, .int .i32 c.m0, .int .i32 c.m1, .int .u8 c.k, .int .u8 c.a.fg.k, .int .u8 c.a.fg.r, .int .u8 c.a.fg.g, .int .u8 c.a.fg.b, .int .u8 c.a.bg.k, .int .u8 c.a.bg.r, .int .u8 c.a.bg.g, .int .u8 c.a.bg.b, .int .u16 (c.a.fl : Nat), .int .u8 c.l]) from HQX.out.trans ((But.setRow wq1 by' #[.int .i32 c.ru, .int .i32 c.m0, .int .i32 c.m1, .int .u8 c.k, .int .u8 c.a.fg.k, .int .u8 c.a.fg.r, .int .u8 c.a.fg.g, .int .u8 c.a.fg.b, .int .u8 c.a.bg.k, .int .u8 c.a.bg.r, .int .u8 c.a.bg.g, .int .u8 c.a.bg.b, .int .u16 (c.a.fl : Nat), .int .u8 c.l]).below HVYB.out HQX.out.size))
              replace HQc := Lib.hid (((But.setRow wq1 by' #[.int .i32 c.ru, .int .i32 c.m0, .int .i32 c.m1, .int .u8 c.k, .int .u8 c.a.fg.k, .int .u8 c.a.fg.r, .int .u8 c.a.fg.g, .int .u8 c.a.fg.b, .int .u8 c.a.bg.k, .int .u8 c.a.bg.r, .int .u8 c.a.bg.g, .int .u8 c.a.bg.b, .int .u16 (c.a.fl : Nat), .int .u8 c.l]).block bx (Array.getElem?_eq_some_iff.1 HQc.out).1 (by simpa using HNE.out)).trans HQc.out)
              refine wp_store_row 55 (.tmp 8) (.tmp 53) rfl by' #[.int .i32 c.ru, .int .i32 c.m0, .int .i32 c.m1, .int .u8 c.k, .int .u8 c.a.fg.k, .int .u8 c.a.fg.r, .int .u8 c.a.fg.g, .int .u8 c.a.fg.b, .int .u8 c.a.bg.k, .int .u8 c.a.bg.r, .int .u8 c.a.bg.g, .int .u8 c.a.bg.b, .int .u16 (c.a.fl : Nat), .int .u8 c.l] rfl rfl 55 _ HSO.out (by kernel_rfl) rfl (by simp [Value.oneCell']) ?_
              obtain ⟨wq2, hwq⟩ : ∃ X, X = wq1.setRow by' #[.int .i32 c.ru, .int .i32 c.m0, .int .i32 c.m1, .int .u8 c.k, .int .u8 c.a.fg.k, .int .u8 c.a.fg.r, .int .u8 c.a.fg.g, .int .u8 c.a.fg.b, .int .u8 c.a.bg.k, .int .u8 c.a.bg.r, .int .u8 c.a.bg.g, .int .u8 c.a.bg.b, .int .u16 (c.a.fl : Nat), .int .u8 c.l] := ⟨_, rfl⟩
              rw [← hwq] at HQc HQd HQB ⊢
              clear hwq HSO
              refine hK.out _ _ ?_ (fun hHeld => ?_)
              · exact HSK.out _ (HQB.out)
              clear hK K
              try simp only [Act.put]
              refine wpAnyH_done (by kernel_rfl) ?_ _
              have HLC := Lib.hid (Lie.of HQc.out)
              have HLD := Lib.hid (Lie.of HQd.out)
              have HIE := Lib.hid (HI.out.trans (HQB.out.mono HI.out.size))
              have lc13 := HLC.out.at 13 rfl
              have ld13 := HLD.out.at 13 rfl
              have lc0 := HLC.out.at 0 rfl
              have lc1 := HLC.out.at 1 rfl
              have lc2 := HLC.out.at 2 rfl
              have lc3 := HLC.out.at 3 rfl
              have lc4 := HLC.out.at 4 rfl
              have lc5 := HLC.out.at 5 rfl
              have lc6 := HLC.out.at 6 rfl
              have lc7 := HLC.out.at 7 rfl
              have lc8 := HLC.out.at 8 rfl
              have lc9 := HLC.out.at 9 rfl
              have lc10 := HLC.out.at 10 rfl
              have lc11 := HLC.out.at 11 rfl
              have lc12 := HLC.out.at 12 rfl
              have ld0 := HLD.out.at 0 rfl
              have ld1 := HLD.out.at 1 rfl
              have ld2 := HLD.out.at 2 rfl
              have ld3 := HLD.out.at 3 rfl
              have ld4 := HLD.out.at 4 rfl
              have ld5 := HLD.out.at 5 rfl
              have ld6 := HLD.out.at 6 rfl
              have ld7 := HLD.out.at 7 rfl
              have ld8 := HLD.out.at 8 rfl
              have ld9 := HLD.out.at 9 rfl
              have ld10 := HLD.out.at 10 rfl
              have ld11 := HLD.out.at 11 rfl
              have ld12 := HLD.out.at 12 rfl
              clear hHeld HX HQX HQB HQc HQd HVX HVXB HVY HVYB HNE HLC HLD HI HSK ya
              go_wp2
              go_roundg (l - (j + 1))
              case rel => exact ⟨j + 1, by go_num, HLJ.out, Nat.le_refl _, HIE⟩
              case measure => have := HLJ.out; omega
          · have hll : (c.l != d.l) = false := by simp [e1]
            have hl0 : (c.l == 0) = false := by simp [hz]
            clear e1 e2 hz
            go_upto_region 11 with (fail)
            refine wp_region_held_drew (S := fun wx => wx.cell? ⟨ga, k, none⟩ = some (.slice (some ⟨g1, o1, none⟩) l c1) ∧ wx.cell? ⟨gb, k, none⟩ = some (.slice (some ⟨g2, o2, none⟩) l c2) ∧ wx.cell? ⟨g1, o1 + j * 14, none⟩ = some (.int .i32 c.ru) ∧ wx.cell? ⟨g1, o1 + j * 14 + 1, none⟩ = some (.int .i32 c.m0) ∧ wx.cell? ⟨g1, o1 + j * 14 + 2, none⟩ = some (.int .i32 c.m1) ∧ wx.cell? ⟨g1, o1 + j * 14 + 3, none⟩ = some (.int .u8 c.k) ∧ wx.cell? ⟨g1, o1 + j * 14 + 4, none⟩ = some (.int .u8 c.a.fg.k) ∧ wx.cell? ⟨g1, o1 + j * 14 + 5, none⟩ = some (.int .u8 c.a.fg.r) ∧ wx.cell? ⟨g1, o1 + j * 14 + 6, none⟩ = some (.int .u8 c.a.fg.g) ∧ wx.cell? ⟨g1, o1 + j * 14 + 7, none⟩ = some (.int .u8 c.a.fg.b) ∧ wx.cell? ⟨g1, o1 + j * 14 + 8, none⟩ = some (.int .u8 c.a.bg.k) ∧ wx.cell? ⟨g1, o1 + j * 14 + 9, none⟩ = some (.int .u8 c.a.bg.r) ∧ wx.cell? ⟨g1, o1 + j * 14 + 10, none⟩ = some (.int .u8 c.a.bg.g) ∧ wx.cell? ⟨g1, o1 + j * 14 + 11, none⟩ = some (.int .u8 c.a.bg.b) ∧ wx.cell? ⟨g1, o1 + j * 14 + 12, none⟩ = some (.int .u16 (c.a.fl : Nat)) ∧ wx.cell? ⟨g1, o1 + j * 14 + 13, none⟩ = some (.int .u8 c.l) ∧ wx.cell? ⟨g2, o2 + j * 14, none⟩ = some (.int .i32 d.ru) ∧ wx.cell? ⟨g2, o2 + j * 14 + 1, none⟩ = some (.int .i32 d.m0) ∧ wx.cell? ⟨g2, o2 + j * 14 + 2, none⟩ = some (.int .i32 d.m1) ∧ wx.cell? ⟨g2, o2 + j * 14 + 3, none⟩ = some (.int .u8 d.k) ∧ wx.cell? ⟨g2, o2 + j * 14 + 4, none⟩ = some (.int .u8 d.a.fg.k) ∧ wx.cell? ⟨g2, o2 + j * 14 + 5, none⟩ = some (.int .u8 d.a.fg.r) ∧ wx.cell? ⟨g2, o2 + j * 14 + 6, none⟩ = some (.int .u8 d.a.fg.g) ∧ wx.cell? ⟨g2, o2 + j * 14 + 7, none⟩ = some (.int .u8 d.a.fg.b) ∧ wx.cell? ⟨g2, o2 + j * 14 + 8, none⟩ = some (.int .u8 d.a.bg.k) ∧ wx.cell? ⟨g2, o2 + j * 14 + 9, none⟩ = some (.int .u8 d.a.bg.r) ∧ wx.cell? ⟨g2, o2 + j * 14 + 10, none⟩ = some (.int .u8 d.a.bg.g) ∧ wx.cell? ⟨g2, o2 + j * 14 + 11, none⟩ = some (.int .u8 d.a.bg.b) ∧ wx.cell? ⟨g2, o2 + j * 14 + 12, none⟩ = some (.int .u16 (d.a.fl : Nat)) ∧ wx.cell? ⟨g2, o2 + j * 14 + 13, none⟩ = some (.int .u8 d.l)) (by kernel_rfl) ?_ (fun hHeld => ?_)
            · exact HSK.out _ ((Below.refl _ _).drew)
            obtain ⟨wd, hwd⟩ : ∃ X, X = wr.drew := ⟨_, rfl⟩
            have HX := Lib.hid (show Below wr.heap.size wr wd by rw [hwd]; exact (Below.refl _ _).drew)
            replace hHeld := HSK.out _ HX.out
            rw [← hwd]
            clear hwd
            refine tk 0 rfl (fun w hSw => by (try dsimp only at hSw); go_simp; try with_reducible rfl) ?_
            go_frame
            refine tk 1 rfl (fun w hSw => by (try dsimp only at hSw); go_simp; try with_reducible rfl) ?_
            go_frame
            refine tk 2 rfl (fun w hSw => by (try dsimp only at hSw); go_simp; try with_reducible rfl) ?_
            go_frame
            refine tk 3 rfl (fun w hSw => by (try dsimp only at hSw); go_simp; try with_reducible rfl) ?_
            go_frame
            refine tk 4 rfl (fun w hSw => by (try dsimp only at hSw); go_simp; try with_reducible rfl) ?_
            go_frame
            refine tk 5 rfl (fun w hSw => by (try dsimp only at hSw); go_simp; try with_reducible rfl) ?_
            go_frame
            refine tk 6 rfl (fun w hSw => by (try dsimp only at hSw); go_simp; try with_reducible rfl) ?_
            go_frame
            refine tk 7 rfl (fun w hSw => by (try dsimp only at hSw); go_simp; try with_reducible rfl) ?_
            go_frame
            refine tk 8 rfl (fun w hSw => by (try dsimp only at hSw); go_simp; try with_reducible rfl) ?_
            go_frame
            refine tk 9 rfl (fun w hSw => by (try dsimp only at hSw); go_simp; try with_reducible rfl) ?_
            go_frame
            refine tk 10 rfl (fun w hSw => by (try dsimp only at hSw); go_simp; try with_reducible rfl) ?_
            go_frame
            refine tk 11 rfl (fun w hSw => by (try dsimp only at hSw); go_simp; try with_reducible rfl) ?_
            go_frame
            refine tk 12 rfl (fun w hSw => by (try dsimp only at hSw); go_simp; try with_reducible rfl) ?_
            go_frame
            refine tk 13 rfl (fun w hSw => by (try dsimp only at hSw); go_simp; try with_reducible rfl) ?_
            go_frame
            refine two_at (i := 14) (j := 15) rfl rfl (by kernel_rfl) (by kernel_rfl) (by kernel_rfl) (fun K hK => ?_) (fun K hK => ?_)
            · obtain ⟨bx, hbx⟩ : ∃ b, b = wd.heap.size := ⟨_, rfl⟩
              obtain ⟨wa14, hwa⟩ : ∃ X, X = wd.alloc (.cells #[.int .i32 0, .int .i32 0, .int .i32 0, .int .u8 0, .int .u8 0, .int .u8 0, .int .u8 0, .int .u8 0, .int .u8 0, .int .u8 0, .int .u8 0, .int .u8 0, .int .u16 0, .int .u8 0] 55) := ⟨_, rfl⟩
              have bb : Below wd.heap.size wd wa14 := by rw [hwa]; exact (Below.refl _ _).alloc (Nat.le_refl _) _
              have HVX := Lib.hid (show wa14.heap[bx]? = some (.cells #[.int .i32 0, .int .i32 0, .int .i32 0, .int .u8 0, .int .u8 0, .int .u8 0, .int .u8 0, .int .u8 0, .int .u8 0, .int .u8 0, .int .u8 0, .int .u8 0, .int .u16 0, .int .u8 0] 55 (0, 0)) by rw [hwa, hbx]; exact World.alloc_heap_new _ _)
              have HVXB := Lib.hid (show wr.heap.size ≤ bx by rw [hbx]; exact HX.out.size)
              replace HX := Lib.hid (HX.out.trans (bb.mono HX.out.size))
              clear bb
              go_simp
              rw [← hwa, ← hbx]
              clear hwa hbx
              refine hK.out _ _ ?_ (fun hHeld => ?_)
              · exact HSK.out _ HX.out
              clear hK K
              try go_frame
              refine do_at (i := 15) rfl (by kernel_rfl) (by kernel_rfl) (fun K hK => ?_)
              obtain ⟨by', hby'⟩ : ∃ b, b = wa14.heap.size := ⟨_, rfl⟩
              obtain ⟨wa15, hwa⟩ : ∃ X, X = wa14.alloc (.cells #[.int .i32 0, .int .i32 0, .int .i32 0, .int .u8 0, .int .u8 0, .int .u8 0, .int .u8 0, .int .u8 0, .int .u8 0, .int .u8 0, .int .u8 0, .int .u8 0, .int .u16 0, .int .u8 0] 55) := ⟨_, rfl⟩
              have bb : Below wa14.heap.size wa14 wa15 := by rw [hwa]; exact (Below.refl _ _).alloc (Nat.le_refl _) _
              have HVY := Lib.hid (show wa15.heap[by']? = some (.cells #[.int .i32 0, .int .i32 0, .int .i32 0, .int .u8 0, .int .u8 0, .int .u8 0, .int .u8 0, .int .u8 0, .int .u8 0, .int .u8 0, .int .u8 0, .int .u8 0, .int .u16 0, .int .u8 0] 55 (0, 0)) by rw [hwa, hby']; exact World.alloc_heap_new _ _)
              have HVYB := Lib.hid (show wr.heap.size ≤ by' by rw [hby']; exact HX.out.size)
              have HNE := Lib.hid (show bx ≠ by' by have := (Array.getElem?_eq_some_iff.1 HVX.out).1; omega)
              replace HVX := Lib.hid ((bb.block bx (Array.getElem?_eq_some_iff.1 HVX.out).1).trans HVX.out)
              replace HX := Lib.hid (HX.out.trans (bb.mono HX.out.size))
              clear bb
              go_simp
              rw [← hwa, ← hby']
              clear hwa hby'
              refine hK.out _ _ ?_ (fun hHeld => ?_)
              · exact HSK.out _ HX.out
              clear hK K
              try go_frame
              refine do_at (i := 16) rfl (by kernel_rfl) (by kernel_rfl) (fun K hK => ?_)
              have HSO := HVX
              have HQc := Lib.hid (setRow_heap wa15 bx _ #[.int .i32 c.ru, .int .i32 c.m0, .int .i32 c.m1, .int .u8 c.k, .int .u8 c.a.fg.k, .int .u8 c.a.fg.r, .int .u8 c.a.fg.g, .int .u8 c.a.fg.b, .int .u8 c.a.bg.k, .int .u8 c.a.bg.r, .int .u8 c.a.bg.g, .int .u8 c.a.bg.b, .int .u16 (c.a.fl : Nat), .int .u8 c.l] _ _ HVX.out)
              have HQB := Lib.hid (show Below wr.heap.size wr (wa15.setRow bx #[.int .i32 c.ru, .int .i32 c.m0, .int .i32 c.m1, .int .u8 c.k, .int .u8 c.a.fg.k, .int .u8 c.a.fg.r, .int .u8 c.a.fg.g, .int .u8 c.a.fg.b, .int .u8 c.a.bg.k, .int .u8 c.a.bg.r, .int .u8 c.a.bg.g, .int .u8 c.a.bg.b, .int .u16 (c.a.fl : Nat), .int .u8 c.l]) from HX.out.trans ((But.setRow wa15 bx #[.int .i32 c.ru, .int .i32 c.m0, .int .i32 c.m1, .int .u8 c.k, .int .u8 c.a.fg.k, .int .u8 c.a.fg.r, .int .u8 c.a.fg.g, .int .u8 c.a.fg.b, .int .u8 c.a.bg.k, .int .u8 c.a.bg.r, .int .u8 c.a.bg.g, .int .u8 c.a.bg.b, .int .u16 (c.a.fl : Nat), .int .u8 c.l]).below HVXB.out HX.out.size))
              replace HVY := Lib.hid (((But.setRow wa15 bx #[.int .i32 c.ru, .int .i32 c.m0, .int .i32 c.m1, .int .u8 c.k, .int .u8 c.a.fg.k, .int .u8 c.a.fg.r, .int .u8 c.a.fg.g, .int .u8 c.a.fg.b, .int .u8 c.a.bg.k, .int .u8 c.a.bg.r, .int .u8 c.a.bg.g, .int .u8 c.a.bg.b, .int .u16 (c.a.fl : Nat), .int .u8 c.l]).block by' (Array.getElem?_eq_some_iff.1 HVY.out).1 (by simpa using HNE.out.symm)).trans HVY.out)
              refine wp_store_row 55 (.tmp 7) (.tmp 46) rfl bx #[.int .i32 c.ru, .int .i32 c.m0, .int .i32 c.m1, .int .u8 c.k, .int .u8 c.a.fg.k, .int .u8 c.a.fg.r, .int .u8 c.a.fg.g, .int .u8 c.a.fg.b, .int .u8 c.a.bg.k, .int .u8 c.a.bg.r, .int .u8 c.a.bg.g, .int .u8 c.a.bg.b, .int .u16 (c.a.fl : Nat), .int .u8 c.l] rfl rfl 55 _ HSO.out (by kernel_rfl) rfl (by simp [Value.oneCell']) ?_
              obtain ⟨wq1, hwq⟩ : ∃ X, X = wa15.setRow bx #[.int .i32 c.ru, .int .i32 c.m0, .int .i32 c.m1, .int .u8 c.k, .int .u8 c.a.fg.k, .int .u8 c.a.fg.r, .int .u8 c.a.fg.g, .int .u8 c.a.fg.b, .int .u8 c.a.bg.k, .int .u8 c.a.bg.r, .int .u8 c.a.bg.g, .int .u8 c.a.bg.b, .int .u16 (c.a.fl : Nat), .int .u8 c.l] := ⟨_, rfl⟩
              rw [← hwq] at HVY HQc HQB ⊢
              clear hwq HSO
              have HQX := HQB
              refine hK.out _ _ ?_ (fun hHeld => ?_)
              · exact HSK.out _ (HQB.out)
              clear hK K
              try simp only [Act.put]
              refine do_at (i := 17) rfl (by kernel_rfl) (by kernel_rfl) (fun K hK => ?_)
              have HSO := HVY
              have HQd := Lib.hid (setRow_heap wq1 by' _ #[.int .i32 d.ru, .int .i32 d.m0, .int .i32 d.m1, .int .u8 d.k, .int .u8 d.a.fg.k, .int .u8 d.a.fg.r, .int .u8 d.a.fg.g, .int .u8 d.a.fg.b, .int .u8 d.a.bg.k, .int .u8 d.a.bg.r, .int .u8 d.a.bg.g, .int .u8 d.a.bg.b, .int .u16 (d.a.fl : Nat), .int .u8 d.l] _ _ HVY.out)
              have HQB := Lib.hid (show Below wr.heap.size wr (wq1.setRow by' #[.int .i32 d.ru, .int .i32 d.m0, .int .i32 d.m1, .int .u8 d.k, .int .u8 d.a.fg.k, .int .u8 d.a.fg.r, .int .u8 d.a.fg.g, .int .u8 d.a.fg.b, .int .u8 d.a.bg.k, .int .u8 d.a.bg.r, .int .u8 d.a.bg.g, .int .u8 d.a.bg.b, .int .u16 (d.a.fl : Nat), .int .u8 d.l]) from HQX.out.trans ((But.setRow wq1 by' #[.int .i32 d.ru, .int .i32 d.m0, .int .i32 d.m1, .int .u8 d.k, .int .u8 d.a.fg.k, .int .u8 d.a.fg.r, .int .u8 d.a.fg.g, .int .u8 d.a.fg.b, .int .u8 d.a.bg.k, .int .u8 d.a.bg.r, .int .u8 d.a.bg.g, .int .u8 d.a.bg.b, .int .u16 (d.a.fl : Nat), .int .u8 d.l]).below HVYB.out HQX.out.size))
              replace HQc := Lib.hid (((But.setRow wq1 by' #[.int .i32 d.ru, .int .i32 d.m0, .int .i32 d.m1, .int .u8 d.k, .int .u8 d.a.fg.k, .int .u8 d.a.fg.r, .int .u8 d.a.fg.g, .int .u8 d.a.fg.b, .int .u8 d.a.bg.k, .int .u8 d.a.bg.r, .int .u8 d.a.bg.g, .int .u8 d.a.bg.b, .int .u16 (d.a.fl : Nat), .int .u8 d.l]).block bx (Array.getElem?_eq_some_iff.1 HQc.out).1 (by simpa using HNE.out)).trans HQc.out)
              refine wp_store_row 55 (.tmp 8) (.tmp 53) rfl by' #[.int .i32 d.ru, .int .i32 d.m0, .int .i32 d.m1, .int .u8 d.k, .int .u8 d.a.fg.k, .int .u8 d.a.fg.r, .int .u8 d.a.fg.g, .int .u8 d.a.fg.b, .int .u8 d.a.bg.k, .int .u8 d.a.bg.r, .int .u8 d.a.bg.g, .int .u8 d.a.bg.b, .int .u16 (d.a.fl : Nat), .int .u8 d.l] rfl rfl 55 _ HSO.out (by kernel_rfl) rfl (by simp [Value.oneCell']) ?_
              obtain ⟨wq2, hwq⟩ : ∃ X, X = wq1.setRow by' #[.int .i32 d.ru, .int .i32 d.m0, .int .i32 d.m1, .int .u8 d.k, .int .u8 d.a.fg.k, .int .u8 d.a.fg.r, .int .u8 d.a.fg.g, .int .u8 d.a.fg.b, .int .u8 d.a.bg.k, .int .u8 d.a.bg.r, .int .u8 d.a.bg.g, .int .u8 d.a.bg.b, .int .u16 (d.a.fl : Nat), .int .u8 d.l] := ⟨_, rfl⟩
              rw [← hwq] at HQc HQd HQB ⊢
              clear hwq HSO
              refine hK.out _ _ ?_ (fun hHeld => ?_)
              · exact HSK.out _ (HQB.out)
              clear hK K
              try simp only [Act.put]
              refine wpAnyH_done (by kernel_rfl) ?_ _
              have HLC := Lib.hid (Lie.of HQc.out)
              have HLD := Lib.hid (Lie.of HQd.out)
              have HIE := Lib.hid (HI.out.trans (HQB.out.mono HI.out.size))
              have lc13 := HLC.out.at 13 rfl
              have ld13 := HLD.out.at 13 rfl
              clear hHeld HX HQX HQB HQc HQd HVX HVXB HVY HVYB HNE HLC HLD HI HSK ya
              go_wp2
              go_roundg (l - (j + 1))
              case rel => exact ⟨j + 1, by go_num, HLJ.out, Nat.le_refl _, HIE⟩
              case measure => have := HLJ.out; omega
            · obtain ⟨by', hby'⟩ : ∃ b, b = wd.heap.size := ⟨_, rfl⟩
              obtain ⟨wa15, hwa⟩ : ∃ X, X = wd.alloc (.cells #[.int .i32 0, .int .i32 0, .int .i32 0, .int .u8 0, .int .u8 0, .int .u8 0, .int .u8 0, .int .u8 0, .int .u8 0, .int .u8 0, .int .u8 0, .int .u8 0, .int .u16 0, .int .u8 0] 55) := ⟨_, rfl⟩
              have bb : Below wd.heap.size wd wa15 := by rw [hwa]; exact (Below.refl _ _).alloc (Nat.le_refl _) _
              have HVY := Lib.hid (show wa15.heap[by']? = some (.cells #[.int .i32 0, .int .i32 0, .int .i32 0, .int .u8 0, .int .u8 0, .int .u8 0, .int .u8 0, .int .u8 0, .int .u8 0, .int .u8 0, .int .u8 0, .int .u8 0, .int .u16 0, .int .u8 0] 55 (0, 0)) by rw [hwa, hby']; exact World.alloc_heap_new _ _)
              have HVYB := Lib.hid (show wr.heap.size ≤ by' by rw [hby']; exact HX.out.size)
              replace HX := Lib.hid (HX.out.trans (bb.mono HX.out.size))
              clear bb
              go_simp
              rw [← hwa, ← hby']
              clear hwa hby'
              refine hK.out _ _ ?_ (fun hHeld => ?_)
              · exact HSK.out _ HX.out
              clear hK K
              try go_frame
              refine do_at (i := 14) rfl (by kernel_rfl) (by kernel_rfl) (fun K hK => ?_)
              obtain ⟨bx, hbx⟩ : ∃ b, b = wa15.heap.size := ⟨_, rfl⟩
              obtain ⟨wa14, hwa⟩ : ∃ X, X = wa15.alloc (.cells #[.int .i32 0, .int .i32 0, .int .i32 0, .int .u8 0, .int .u8 0, .int .u8 0, .int .u8 0, .int .u8 0, .int .u8 0, .int .u8 0, .int .u8 0, .int .u8 0, .int .u16 0, .int .u8 0] 55) := ⟨_, rfl⟩
              have bb : Below wa15.heap.size wa15 wa14 := by rw [hwa]; exact (Below.refl _ _).alloc (Nat.le_refl _) _
              have HVX := Lib.hid (show wa14.heap[bx]? = some (.cells #[.int .i32 0, .int .i32 0, .int .i32 0, .int .u8 0, .int .u8 0, .int .u8 0, .int .u8 0, .int .u8 0, .int .u8 0, .int .u8 0, .int .u8 0, .int .u8 0, .int .u16 0, .int .u8 0] 55 (0, 0)) by rw [hwa, hbx]; exact World.alloc_heap_new _ _)
              have HVXB := Lib.hid (show wr.heap.size ≤ bx by rw [hbx]; exact HX.out.size)
              have HNE := Lib.hid (show bx ≠ by' by have := (Array.getElem?_eq_some_iff.1 HVY.out).1; omega)
              replace HVY := Lib.hid ((bb.block by' (Array.getElem?_eq_some_iff.1 HVY.out).1).trans HVY.out)
              replace HX := Lib.hid (HX.out.trans (bb.mono HX.out.size))
              clear bb
              go_simp
              rw [← hwa, ← hbx]
              clear hwa hbx
              refine hK.out _ _ ?_ (fun hHeld => ?_)
              · exact HSK.out _ HX.out
              clear hK K
              try go_frame
              refine do_at (i := 16) rfl (by kernel_rfl) (by kernel_rfl) (fun K hK => ?_)
              have HSO := HVX
              have HQc := Lib.hid (setRow_heap wa14 bx _ #[.int .i32 c.ru, .int .i32 c.m0, .int .i32 c.m1, .int .u8 c.k, .int .u8 c.a.fg.k, .int .u8 c.a.fg.r, .int .u8 c.a.fg.g, .int .u8 c.a.fg.b, .int .u8 c.a.bg.k, .int .u8 c.a.bg.r, .int .u8 c.a.bg.g, .int .u8 c.a.bg.b, .int .u16 (c.a.fl : Nat), .int .u8 c.l] _ _ HVX.out)
              have HQB := Lib.hid (show Below wr.heap.size wr (wa14.setRow bx #[.int .i32 c.ru, .int .i32 c.m0, .int .i32 c.m1, .int .u8 c.k, .int .u8 c.a.fg.k, .int .u8 c.a.fg.r, .int .u8 c.a.fg.g, .int .u8 c.a.fg.b, .int .u8 c.a.bg.k, .int .u8 c.a.bg.r, .int .u8 c.a.bg.g, .int .u8 c.a.bg.b, .int .u16 (c.a.fl : Nat), .int .u8 c.l]) from HX.out.trans ((But.setRow wa14 bx #[.int .i32 c.ru, .int .i32 c.m0, .int .i32 c.m1, .int .u8 c.k, .int .u8 c.a.fg.k, .int .u8 c.a.fg.r, .int .u8 c.a.fg.g, .int .u8 c.a.fg.b, .int .u8 c.a.bg.k, .int .u8 c.a.bg.r, .int .u8 c.a.bg.g, .int .u8 c.a.bg.b, .int .u16 (c.a.fl : Nat), .int .u8 c.l]).below HVXB.out HX.out.size))
              replace HVY := Lib.hid (((But.setRow wa14 bx #[.int .i32 c.ru, .int .i32 c.m0, .int .i32 c.m1, .int .u8 c.k, .int .u8 c.a.fg.k, .int .u8 c.a.fg.r, .int .u8 c.a.fg.g, .int .u8 c.a.fg.b, .int .u8 c.a.bg.k, .int .u8 c.a.bg.r, .int .u8 c.a.bg.g, .int .u8 c.a.bg.b, .int .u16 (c.a.fl : Nat), .int .u8 c.l]).block by' (Array.getElem?_eq_some_iff.1 HVY.out).1 (by simpa using HNE.out.symm)).trans HVY.out)
              refine wp_store_row 55 (.tmp 7) (.tmp 46) rfl bx #[.int .i32 c.ru, .int .i32 c.m0, .int .i32 c.m1, .int .u8 c.k, .int .u8 c.a.fg.k, .int .u8 c.a.fg.r, .int .u8 c.a.fg.g, .int .u8 c.a.fg.b, .int .u8 c.a.bg.k, .int .u8 c.a.bg.r, .int .u8 c.a.bg.g, .int .u8 c.a.bg.b, .int .u16 (c.a.fl : Nat), .int .u8 c.l] rfl rfl 55 _ HSO.out (by kernel_rfl) rfl (by simp [Value.oneCell']) ?_
              obtain ⟨wq1, hwq⟩ : ∃ X, X = wa14.setRow bx #[.int .i32 c.ru, .int .i32 c.m0, .int .i32 c.m1, .int .u8 c.k, .int .u8 c.a.fg.k, .int .u8 c.a.fg.r, .int .u8 c.a.fg.g, .int .u8 c.a.fg.b, .int .u8 c.a.bg.k, .int .u8 c.a.bg.r, .int .u8 c.a.bg.g, .int .u8 c.a.bg.b, .int .u16 (c.a.fl : Nat), .int .u8 c.l] := ⟨_, rfl⟩
              rw [← hwq] at HVY HQc HQB ⊢
              clear hwq HSO
              have HQX := HQB
              refine hK.out _ _ ?_ (fun hHeld => ?_)
              · exact HSK.out _ (HQB.out)
              clear hK K
              try simp only [Act.put]
              refine do_at (i := 17) rfl (by kernel_rfl) (by kernel_rfl) (fun K hK => ?_)
              have HSO := HVY
              have HQd := Lib.hid (setRow_heap wq1 by' _ #[.int .i32 d.ru, .int .i32 d.m0, .int .i32 d.m1, .int .u8 d.k, .int .u8 d.a.fg.k, .int .u8 d.a.fg.r, .int .u8 d.a.fg.g, .int .u8 d.a.fg.b, .int .u8 d.a.bg.k, .int .u8 d.a.bg.r, .int .u8 d.a.bg.g, .int .u8 d.a.bg.b, .int .u16 (d.a.fl : Nat), .int .u8 d.l] _ _ HVY.out)
              have HQB := Lib.hid (show Below wr.heap.size wr (wq1.setRow by' #[.int .i32 d.ru, .int .i32 d.m0, .int .i32 d.m1, .int .u8 d.k, .int .u8 d.a.fg.k, .int .u8 d.a.fg.r, .int .u8 d.a.fg.g, .int .u8 d.a.fg.b, .int .u8 d.a.bg.k, .int .u8 d.a.bg.r, .int .u8 d.a.bg.g, .int .u8 d.a.bg.b, .int .u16 (d.a.fl : Nat), .int .u8 d.l]) from HQX.out.trans ((But.setRow wq1 by' #[.int .i32 d.ru, .int .i32 d.m0, .int .i32 d.m1, .int .u8 d.k, .int .u8 d.a.fg.k, .int .u8 d.a.fg.r, .int .u8 d.a.fg.g, .int .u8 d.a.fg.b, .int .u8 d.a.bg.k, .int .u8 d.a.bg.r, .int .u8 d.a.bg.g, .int .u8 d.a.bg.b, .int .u16 (d.a.fl : Nat), .int .u8 d.l]).below HVYB.out HQX.out.size))
              replace HQc := Lib.hid (((But.setRow wq1 by' #[.int .i32 d.ru, .int .i32 d.m0, .int .i32 d.m1, .int .u8 d.k, .int .u8 d.a.fg.k, .int .u8 d.a.fg.r, .int .u8 d.a.fg.g, .int .u8 d.a.fg.b, .int .u8 d.a.bg.k, .int .u8 d.a.bg.r, .int .u8 d.a.bg.g, .int .u8 d.a.bg.b, .int .u16 (d.a.fl : Nat), .int .u8 d.l]).block bx (Array.getElem?_eq_some_iff.1 HQc.out).1 (by simpa using HNE.out)).trans HQc.out)
              refine wp_store_row 55 (.tmp 8) (.tmp 53) rfl by' #[.int .i32 d.ru, .int .i32 d.m0, .int .i32 d.m1, .int .u8 d.k, .int .u8 d.a.fg.k, .int .u8 d.a.fg.r, .int .u8 d.a.fg.g, .int .u8 d.a.fg.b, .int .u8 d.a.bg.k, .int .u8 d.a.bg.r, .int .u8 d.a.bg.g, .int .u8 d.a.bg.b, .int .u16 (d.a.fl : Nat), .int .u8 d.l] rfl rfl 55 _ HSO.out (by kernel_rfl) rfl (by simp [Value.oneCell']) ?_
              obtain ⟨wq2, hwq⟩ : ∃ X, X = wq1.setRow by' #[.int .i32 d.ru, .int .i32 d.m0, .int .i32 d.m1, .int .u8 d.k, .int .u8 d.a.fg.k, .int .u8 d.a.fg.r, .int .u8 d.a.fg.g, .int .u8 d.a.fg.b, .int .u8 d.a.bg.k, .int .u8 d.a.bg.r, .int .u8 d.a.bg.g, .int .u8 d.a.bg.b, .int .u16 (d.a.fl : Nat), .int .u8 d.l] := ⟨_, rfl⟩
              rw [← hwq] at HQc HQd HQB ⊢
              clear hwq HSO
              refine hK.out _ _ ?_ (fun hHeld => ?_)
              · exact HSK.out _ (HQB.out)
              clear hK K
              try simp only [Act.put]
              refine wpAnyH_done (by kernel_rfl) ?_ _
              have HLC := Lib.hid (Lie.of HQc.out)
              have HLD := Lib.hid (Lie.of HQd.out)
              have HIE := Lib.hid (HI.out.trans (HQB.out.mono HI.out.size))
              have lc13 := HLC.out.at 13 rfl
              have ld13 := HLD.out.at 13 rfl
              clear hHeld HX HQX HQB HQc HQd HVX HVXB HVY HVYB HNE HLC HLD HI HSK ya
              go_wp2
              go_roundg (l - (j + 1))
              case rel => exact ⟨j + 1, by go_num, HLJ.out, Nat.le_refl _, HIE⟩
              case measure => have := HLJ.out; omega
        · have HBE := Lib.hid HI.out
          obtain rfl : j = l := by omega
          clear HI HC1 HC2 HLE HHD
          go_wp2
          go_roundg (n - (k + 1))
          case rel => exact ⟨k + 1, by go_num, HLT.out, Nat.le_refl _, HBE⟩
          case measure => have := HLT.out; omega
    · obtain rfl : k = n := by omega
      have HBE := Lib.hid HT.out
      clear HT
      go_wp2
      go_ret
      exact ⟨rfl, HBE.out⟩
end Go.Proofs.YtdeahnphcfcfpaaGreat.Lab
