/- The law's does, said of rows: scrolls, raises, resized. -/
import Derived.Test.YtdeahnphcfcfpaaGreatGnDoD
import Derived.Test.YtdeahnphcfcfpaaGreatGnGood
namespace Go.Proofs.YtdeahnphcfcfpaaGreat.Lab
open Go Go.RowKit

def DoesN (X : Nat → Prop) (w : World) (lo p rb m : Nat) (G : List Cls) (s : St) : Prop :=
  Calls Tryz.prog 10 #[stV s, gV p] w fun e w' => ∃ v, e = .returned v ∧ (∃ rb' c', GWn w' lo v (wentS s G) p rb' c' (doesG s m G) X ∧ (rb' = rb ∨ w.heap.size ≤ rb')) ∧ (∀ k, v.ownBlock = some k → w.heap.size ≤ k) ∧ Buts (fun j => j = p ∨ j = rb) w w'
set_option maxHeartbeats 8000000 in
set_option maxRecDepth 100000 in
theorem doesN6 (X : Nat → Prop) (w : World) (lo p rb c m : Nat) (G : List Cls) (s : St) (hs : s.ok) (h : Gn w lo p rb c G X) (gd : Good G m) (hlo : lo ≤ w.heap.size) (hX : ∀ j, w.heap.size ≤ j → X j) (he : s.what % 10 = 6) : DoesN X w lo p rb m G s := by
  unfold DoesN
  obtain ⟨w0, hw0⟩ : ∃ W0, W0 = w.alloc (.cells #[.int .u8 (s.what : Nat), .int .u8 (s.row : Nat), .int .u8 (s.col : Nat), .int .u8 (s.n : Nat), .int .u8 (s.m : Nat), .int .u8 (s.cell.ru : Nat), .int .u8 (s.cell.ms : Nat), .int .u8 (s.cell.at1 : Nat), .bool s.cell.wide, .bool s.cell.high, .bool s.odd] 40) := ⟨_, rfl⟩
  obtain ⟨b2, hb2⟩ : ∃ b, b = w.heap.size := ⟨_, rfl⟩
  have B0 : Below w.heap.size w w0 := by rw [hw0]; exact (Below.refl _ _).alloc (Nat.le_refl _) _
  have h2 : Lie w0 b2 [.int .u8 (s.what : Nat), .int .u8 (s.row : Nat), .int .u8 (s.col : Nat), .int .u8 (s.n : Nat), .int .u8 (s.m : Nat), .int .u8 (s.cell.ru : Nat), .int .u8 (s.cell.ms : Nat), .int .u8 (s.cell.at1 : Nat), .bool s.cell.wide, .bool s.cell.high, .bool s.odd] := by rw [hw0]; exact Lie.new w _ _ b2 hb2
  have HL := Lib.hid h2
  have HOK := Lib.hid hs
  have HGD := Lib.hid gd
  have HB0 := Lib.hid B0
  have HGG := Lib.hid (show ∀ W, Below w0.heap.size w0 W → Gn W lo p rb c G X from fun W k => (h.below B0).below k)
  have HLO0 := Lib.hid (Nat.le_trans hlo B0.size)
  have HXX := Lib.hid (show ∀ j, w0.heap.size ≤ j → X j from fun j hj => hX j (Nat.le_trans B0.size hj))
  have HN0 := Lib.hid gd.n0
  have HN6 := Lib.hid (show G.length ≤ 600 by have := gd.n1; omega)
  have HM0 := Lib.hid gd.m0
  have HM6 := Lib.hid (show m ≤ 600 by have := gd.m1; omega)
  have HL01 := Lib.hid (show (blS s).l = 0 ∨ (blS s).l = 1 from celD_lv s.cell)
  have HB := Lib.hid (show Below w0.heap.size w0 w0 from Below.refl _ _)
  have hnz : ((G.length : Int) == 0) = false := by rw [beq_eq_false_iff_ne]; have := gd.n0; omega
  have hpos : 0 < G.length := gd.n0
  have HE := Lib.hid he
  have r1 : Int.tmod (s.what : Int) 10 = 6 := by rw [show Int.tmod (s.what : Int) 10 = ((s.what % 10 : Nat) : Int) from rfl, he]; rfl
  have r1' : (s.what : Int) % 10 = 6 := by omega
  clear he
  have y0 := h2.at 0 rfl
  have y1 := h2.at 1 rfl
  have y2 := h2.at 2 rfl
  have y3 := h2.at 3 rfl
  have y4 := h2.at 4 rfl
  have y5 := h2.at 5 rfl
  have y6 := h2.at 6 rfl
  have y7 := h2.at 7 rfl
  have y8 := h2.at 8 rfl
  have y9 := h2.at 9 rfl
  have y10 := h2.at 10 rfl
  clear B0 h2 hs gd h hlo hX
  go_enter Tryz.func10, Tryz.ntmps10
  go_upto_region 1 with (fail)
  rw [← hw0, ← hb2]
  clear hw0 hb2
  go_wp2_with fail
  refine (gsize w0 lo p rb c m G (HGG.out w0 (Below.refl _ _)).gg HGD.out).mono ?_
  rintro e' w1 ⟨rfl, bb⟩
  clear y0 y1 y2 y3 y4 y5 y6 y7 y8 y9 y10
  replace HB := Lib.hid (HB.out.trans (bb.mono HB.out.size))
  clear bb
  have yb := HL.out.below HB.out
  have y0 := yb.at 0 rfl
  have y1 := yb.at 1 rfl
  have y2 := yb.at 2 rfl
  have y3 := yb.at 3 rfl
  have y4 := yb.at 4 rfl
  have y5 := yb.at 5 rfl
  have y6 := yb.at 6 rfl
  have y7 := yb.at 7 rfl
  have y8 := yb.at 8 rfl
  have y9 := yb.at 9 rfl
  have y10 := yb.at 10 rfl
  clear yb
  go_wp2_with fail
  refine (sregion_any w1 s G.length HOK.out HN0.out HN6.out).mono ?_
  rintro e' w2 ⟨rfl, bb⟩
  clear y0 y1 y2 y3 y4 y5 y6 y7 y8 y9 y10
  replace HB := Lib.hid (HB.out.trans (bb.mono HB.out.size))
  clear bb
  have yb := HL.out.below HB.out
  have y0 := yb.at 0 rfl
  have y1 := yb.at 1 rfl
  have y2 := yb.at 2 rfl
  have y3 := yb.at 3 rfl
  have y4 := yb.at 4 rfl
  have y5 := yb.at 5 rfl
  have y6 := yb.at 6 rfl
  have y7 := yb.at 7 rfl
  have y8 := yb.at 8 rfl
  have y9 := yb.at 9 rfl
  have y10 := yb.at 10 rfl
  clear yb
  go_wp2_with fail
  refine (sblank_any w2 s HOK.out).mono ?_
  rintro e' w3 ⟨rfl, bb⟩
  clear y0 y1 y2 y3 y4 y5 y6 y7 y8 y9 y10
  replace HB := Lib.hid (HB.out.trans (bb.mono HB.out.size))
  clear bb
  have yb := HL.out.below HB.out
  have y0 := yb.at 0 rfl
  have y1 := yb.at 1 rfl
  have y2 := yb.at 2 rfl
  have y3 := yb.at 3 rfl
  have y4 := yb.at 4 rfl
  have y5 := yb.at 5 rfl
  have y6 := yb.at 6 rfl
  have y7 := yb.at 7 rfl
  have y8 := yb.at 8 rfl
  have y9 := yb.at 9 rfl
  have y10 := yb.at 10 rfl
  clear yb
  go_wp2_with fail
  refine (nup X w3 lo p rb c m G (regT s G.length) (regBt s G.length) (regN s) (blS s) (HGG.out w3 HB.out) HGD.out (Nat.le_trans HLO0.out HB.out.size) (fun j hj => HXX.out j (Nat.le_trans HB.out.size hj))).mono ?_
  rintro e' w4 ⟨v, rfl, gg, own, bt⟩
  have H2 := Lib.hid own
  have H3 := Lib.hid gg
  have H4 := Lib.hid bt
  clear y0 y1 y2 y3 y4 y5 y6 y7 y8 y9 y10
  clear own gg bt
  go_wp2
  go_ret
  refine ⟨v, rfl, ⟨rb, c, by unfold wentS doesG; rw [HE.out]; exact H3.out, .inl rfl⟩, fun k hk => Nat.le_trans (Nat.le_trans HB0.out.size HB.out.size) (H2.out k hk), (Buts.of (HB0.out.trans (HB.out.mono HB0.out.size))).trans H4.out.two⟩
set_option maxHeartbeats 8000000 in
set_option maxRecDepth 100000 in
theorem doesN7 (X : Nat → Prop) (w : World) (lo p rb c m : Nat) (G : List Cls) (s : St) (hs : s.ok) (h : Gn w lo p rb c G X) (gd : Good G m) (hlo : lo ≤ w.heap.size) (hX : ∀ j, w.heap.size ≤ j → X j) (he : s.what % 10 = 7) : DoesN X w lo p rb m G s := by
  unfold DoesN
  obtain ⟨w0, hw0⟩ : ∃ W0, W0 = w.alloc (.cells #[.int .u8 (s.what : Nat), .int .u8 (s.row : Nat), .int .u8 (s.col : Nat), .int .u8 (s.n : Nat), .int .u8 (s.m : Nat), .int .u8 (s.cell.ru : Nat), .int .u8 (s.cell.ms : Nat), .int .u8 (s.cell.at1 : Nat), .bool s.cell.wide, .bool s.cell.high, .bool s.odd] 40) := ⟨_, rfl⟩
  obtain ⟨b2, hb2⟩ : ∃ b, b = w.heap.size := ⟨_, rfl⟩
  have B0 : Below w.heap.size w w0 := by rw [hw0]; exact (Below.refl _ _).alloc (Nat.le_refl _) _
  have h2 : Lie w0 b2 [.int .u8 (s.what : Nat), .int .u8 (s.row : Nat), .int .u8 (s.col : Nat), .int .u8 (s.n : Nat), .int .u8 (s.m : Nat), .int .u8 (s.cell.ru : Nat), .int .u8 (s.cell.ms : Nat), .int .u8 (s.cell.at1 : Nat), .bool s.cell.wide, .bool s.cell.high, .bool s.odd] := by rw [hw0]; exact Lie.new w _ _ b2 hb2
  have HL := Lib.hid h2
  have HOK := Lib.hid hs
  have HGD := Lib.hid gd
  have HB0 := Lib.hid B0
  have HGG := Lib.hid (show ∀ W, Below w0.heap.size w0 W → Gn W lo p rb c G X from fun W k => (h.below B0).below k)
  have HLO0 := Lib.hid (Nat.le_trans hlo B0.size)
  have HXX := Lib.hid (show ∀ j, w0.heap.size ≤ j → X j from fun j hj => hX j (Nat.le_trans B0.size hj))
  have HN0 := Lib.hid gd.n0
  have HN6 := Lib.hid (show G.length ≤ 600 by have := gd.n1; omega)
  have HM0 := Lib.hid gd.m0
  have HM6 := Lib.hid (show m ≤ 600 by have := gd.m1; omega)
  have HL01 := Lib.hid (show (blS s).l = 0 ∨ (blS s).l = 1 from celD_lv s.cell)
  have HB := Lib.hid (show Below w0.heap.size w0 w0 from Below.refl _ _)
  have hnz : ((G.length : Int) == 0) = false := by rw [beq_eq_false_iff_ne]; have := gd.n0; omega
  have hpos : 0 < G.length := gd.n0
  have HE := Lib.hid he
  have r1 : Int.tmod (s.what : Int) 10 = 7 := by rw [show Int.tmod (s.what : Int) 10 = ((s.what % 10 : Nat) : Int) from rfl, he]; rfl
  have r1' : (s.what : Int) % 10 = 7 := by omega
  clear he
  have y0 := h2.at 0 rfl
  have y1 := h2.at 1 rfl
  have y2 := h2.at 2 rfl
  have y3 := h2.at 3 rfl
  have y4 := h2.at 4 rfl
  have y5 := h2.at 5 rfl
  have y6 := h2.at 6 rfl
  have y7 := h2.at 7 rfl
  have y8 := h2.at 8 rfl
  have y9 := h2.at 9 rfl
  have y10 := h2.at 10 rfl
  clear B0 h2 hs gd h hlo hX
  go_enter Tryz.func10, Tryz.ntmps10
  go_upto_region 1 with (fail)
  rw [← hw0, ← hb2]
  clear hw0 hb2
  go_wp2_with fail
  refine (gsize w0 lo p rb c m G (HGG.out w0 (Below.refl _ _)).gg HGD.out).mono ?_
  rintro e' w1 ⟨rfl, bb⟩
  clear y0 y1 y2 y3 y4 y5 y6 y7 y8 y9 y10
  replace HB := Lib.hid (HB.out.trans (bb.mono HB.out.size))
  clear bb
  have yb := HL.out.below HB.out
  have y0 := yb.at 0 rfl
  have y1 := yb.at 1 rfl
  have y2 := yb.at 2 rfl
  have y3 := yb.at 3 rfl
  have y4 := yb.at 4 rfl
  have y5 := yb.at 5 rfl
  have y6 := yb.at 6 rfl
  have y7 := yb.at 7 rfl
  have y8 := yb.at 8 rfl
  have y9 := yb.at 9 rfl
  have y10 := yb.at 10 rfl
  clear yb
  go_wp2_with fail
  refine (sregion_any w1 s G.length HOK.out HN0.out HN6.out).mono ?_
  rintro e' w2 ⟨rfl, bb⟩
  clear y0 y1 y2 y3 y4 y5 y6 y7 y8 y9 y10
  replace HB := Lib.hid (HB.out.trans (bb.mono HB.out.size))
  clear bb
  have yb := HL.out.below HB.out
  have y0 := yb.at 0 rfl
  have y1 := yb.at 1 rfl
  have y2 := yb.at 2 rfl
  have y3 := yb.at 3 rfl
  have y4 := yb.at 4 rfl
  have y5 := yb.at 5 rfl
  have y6 := yb.at 6 rfl
  have y7 := yb.at 7 rfl
  have y8 := yb.at 8 rfl
  have y9 := yb.at 9 rfl
  have y10 := yb.at 10 rfl
  clear yb
  go_wp2_with fail
  refine (sblank_any w2 s HOK.out).mono ?_
  rintro e' w3 ⟨rfl, bb⟩
  clear y0 y1 y2 y3 y4 y5 y6 y7 y8 y9 y10
  replace HB := Lib.hid (HB.out.trans (bb.mono HB.out.size))
  clear bb
  have yb := HL.out.below HB.out
  have y0 := yb.at 0 rfl
  have y1 := yb.at 1 rfl
  have y2 := yb.at 2 rfl
  have y3 := yb.at 3 rfl
  have y4 := yb.at 4 rfl
  have y5 := yb.at 5 rfl
  have y6 := yb.at 6 rfl
  have y7 := yb.at 7 rfl
  have y8 := yb.at 8 rfl
  have y9 := yb.at 9 rfl
  have y10 := yb.at 10 rfl
  clear yb
  go_wp2_with fail
  refine (ndown X w3 lo p rb c m G (regT s G.length) (regBt s G.length) (regN s) (blS s) (HGG.out w3 HB.out) HGD.out (Nat.le_trans HLO0.out HB.out.size) (fun j hj => HXX.out j (Nat.le_trans HB.out.size hj))).mono ?_
  rintro e' w4 ⟨v, rfl, gg, own, bt⟩
  have H2 := Lib.hid own
  have H3 := Lib.hid gg
  have H4 := Lib.hid bt
  clear y0 y1 y2 y3 y4 y5 y6 y7 y8 y9 y10
  clear own gg bt
  go_wp2
  go_ret
  refine ⟨v, rfl, ⟨rb, c, by unfold wentS doesG; rw [HE.out]; exact H3.out, .inl rfl⟩, fun k hk => Nat.le_trans (Nat.le_trans HB0.out.size HB.out.size) (H2.out k hk), (Buts.of (HB0.out.trans (HB.out.mono HB0.out.size))).trans H4.out.two⟩
set_option maxHeartbeats 8000000 in
set_option maxRecDepth 100000 in
theorem doesN8 (X : Nat → Prop) (w : World) (lo p rb c m : Nat) (G : List Cls) (s : St) (hs : s.ok) (h : Gn w lo p rb c G X) (gd : Good G m) (hlo : lo ≤ w.heap.size) (hX : ∀ j, w.heap.size ≤ j → X j) (he : s.what % 10 = 8) : DoesN X w lo p rb m G s := by
  unfold DoesN
  obtain ⟨w0, hw0⟩ : ∃ W0, W0 = w.alloc (.cells #[.int .u8 (s.what : Nat), .int .u8 (s.row : Nat), .int .u8 (s.col : Nat), .int .u8 (s.n : Nat), .int .u8 (s.m : Nat), .int .u8 (s.cell.ru : Nat), .int .u8 (s.cell.ms : Nat), .int .u8 (s.cell.at1 : Nat), .bool s.cell.wide, .bool s.cell.high, .bool s.odd] 40) := ⟨_, rfl⟩
  obtain ⟨b2, hb2⟩ : ∃ b, b = w.heap.size := ⟨_, rfl⟩
  have B0 : Below w.heap.size w w0 := by rw [hw0]; exact (Below.refl _ _).alloc (Nat.le_refl _) _
  have h2 : Lie w0 b2 [.int .u8 (s.what : Nat), .int .u8 (s.row : Nat), .int .u8 (s.col : Nat), .int .u8 (s.n : Nat), .int .u8 (s.m : Nat), .int .u8 (s.cell.ru : Nat), .int .u8 (s.cell.ms : Nat), .int .u8 (s.cell.at1 : Nat), .bool s.cell.wide, .bool s.cell.high, .bool s.odd] := by rw [hw0]; exact Lie.new w _ _ b2 hb2
  have HL := Lib.hid h2
  have HOK := Lib.hid hs
  have HGD := Lib.hid gd
  have HB0 := Lib.hid B0
  have HGG := Lib.hid (show ∀ W, Below w0.heap.size w0 W → Gn W lo p rb c G X from fun W k => (h.below B0).below k)
  have HLO0 := Lib.hid (Nat.le_trans hlo B0.size)
  have HXX := Lib.hid (show ∀ j, w0.heap.size ≤ j → X j from fun j hj => hX j (Nat.le_trans B0.size hj))
  have HN0 := Lib.hid gd.n0
  have HN6 := Lib.hid (show G.length ≤ 600 by have := gd.n1; omega)
  have HM0 := Lib.hid gd.m0
  have HM6 := Lib.hid (show m ≤ 600 by have := gd.m1; omega)
  have HL01 := Lib.hid (show (blS s).l = 0 ∨ (blS s).l = 1 from celD_lv s.cell)
  have HB := Lib.hid (show Below w0.heap.size w0 w0 from Below.refl _ _)
  have hnz : ((G.length : Int) == 0) = false := by rw [beq_eq_false_iff_ne]; have := gd.n0; omega
  have hpos : 0 < G.length := gd.n0
  have HE := Lib.hid he
  have r1 : Int.tmod (s.what : Int) 10 = 8 := by rw [show Int.tmod (s.what : Int) 10 = ((s.what % 10 : Nat) : Int) from rfl, he]; rfl
  have r1' : (s.what : Int) % 10 = 8 := by omega
  clear he
  have y0 := h2.at 0 rfl
  have y1 := h2.at 1 rfl
  have y2 := h2.at 2 rfl
  have y3 := h2.at 3 rfl
  have y4 := h2.at 4 rfl
  have y5 := h2.at 5 rfl
  have y6 := h2.at 6 rfl
  have y7 := h2.at 7 rfl
  have y8 := h2.at 8 rfl
  have y9 := h2.at 9 rfl
  have y10 := h2.at 10 rfl
  clear B0 h2 hs gd h hlo hX
  go_enter Tryz.func10, Tryz.ntmps10
  go_upto_region 1 with (fail)
  rw [← hw0, ← hb2]
  clear hw0 hb2
  go_wp2_with fail
  refine (gsize w0 lo p rb c m G (HGG.out w0 (Below.refl _ _)).gg HGD.out).mono ?_
  rintro e' w1 ⟨rfl, bb⟩
  clear y0 y1 y2 y3 y4 y5 y6 y7 y8 y9 y10
  replace HB := Lib.hid (HB.out.trans (bb.mono HB.out.size))
  clear bb
  have yb := HL.out.below HB.out
  have y0 := yb.at 0 rfl
  have y1 := yb.at 1 rfl
  have y2 := yb.at 2 rfl
  have y3 := yb.at 3 rfl
  have y4 := yb.at 4 rfl
  have y5 := yb.at 5 rfl
  have y6 := yb.at 6 rfl
  have y7 := yb.at 7 rfl
  have y8 := yb.at 8 rfl
  have y9 := yb.at 9 rfl
  have y10 := yb.at 10 rfl
  clear yb
  go_wp2_with fail
  refine (sblank_any w1 s HOK.out).mono ?_
  rintro e' w2 ⟨rfl, bb⟩
  obtain ⟨x, hx⟩ : ∃ x, x = blS s := ⟨_, rfl⟩
  rw [← hx]
  simp only [celV]
  rw [← hx] at HL01
  have HXS := Lib.hid hx
  clear hx
  have hfd : ∀ W : World, (Instr.field 55 (.agg #[.int .i32 x.ru, .int .i32 x.m0, .int .i32 x.m1, .int .u8 x.k, .int .u8 x.a.fg.k, .int .u8 x.a.fg.r, .int .u8 x.a.fg.g, .int .u8 x.a.fg.b, .int .u8 x.a.bg.k, .int .u8 x.a.bg.r, .int .u8 x.a.bg.g, .int .u8 x.a.bg.b, .int .u16 (x.a.fl : Nat), .int .u8 x.l]) 4).run Tryz.prog W = .ok (.int .u8 x.l) W := fun _ => by kernel_rfl
  clear y0 y1 y2 y3 y4 y5 y6 y7 y8 y9 y10
  replace HB := Lib.hid (HB.out.trans (bb.mono HB.out.size))
  clear bb
  have yb := HL.out.below HB.out
  have y0 := yb.at 0 rfl
  have y1 := yb.at 1 rfl
  have y2 := yb.at 2 rfl
  have y3 := yb.at 3 rfl
  have y4 := yb.at 4 rfl
  have y5 := yb.at 5 rfl
  have y6 := yb.at 6 rfl
  have y7 := yb.at 7 rfl
  have y8 := yb.at 8 rfl
  have y9 := yb.at 9 rfl
  have y10 := yb.at 10 rfl
  clear yb
  go_wp2_with fail
  refine (nraise X w2 lo p rb c m G x.l (HGG.out w2 HB.out) HGD.out (Nat.le_trans HLO0.out HB.out.size) (fun j hj => HXX.out j (Nat.le_trans HB.out.size hj)) HL01.out).mono ?_
  rintro e' w3 ⟨rfl, gg, bt⟩
  have H3 := Lib.hid gg
  have H4 := Lib.hid bt
  clear y0 y1 y2 y3 y4 y5 y6 y7 y8 y9 y10
  clear gg bt
  go_wp2
  go_ret
  refine ⟨.slice none 0 0, rfl, ⟨rb, c, by unfold wentS doesG; rw [HE.out, ← HXS.out]; exact GWn.nil H3.out, .inl rfl⟩, (fun k hk => by cases hk), (Buts.of (HB0.out.trans (HB.out.mono HB0.out.size))).trans H4.out.two⟩
set_option maxHeartbeats 8000000 in
set_option maxRecDepth 100000 in
theorem doesN9y (X : Nat → Prop) (w : World) (lo p rb c m : Nat) (G : List Cls) (s : St) (hs : s.ok) (h : Gn w lo p rb c G X) (gd : Good G m) (hlo : lo ≤ w.heap.size) (hX : ∀ j, w.heap.size ≤ j → X j) (he : s.what % 10 = 9) (hcan : canB (s.n % 12 : Nat) (s.m % 24 : Nat) = true) : DoesN X w lo p rb m G s := by
  unfold DoesN
  obtain ⟨w0, hw0⟩ : ∃ W0, W0 = w.alloc (.cells #[.int .u8 (s.what : Nat), .int .u8 (s.row : Nat), .int .u8 (s.col : Nat), .int .u8 (s.n : Nat), .int .u8 (s.m : Nat), .int .u8 (s.cell.ru : Nat), .int .u8 (s.cell.ms : Nat), .int .u8 (s.cell.at1 : Nat), .bool s.cell.wide, .bool s.cell.high, .bool s.odd] 40) := ⟨_, rfl⟩
  obtain ⟨b2, hb2⟩ : ∃ b, b = w.heap.size := ⟨_, rfl⟩
  have B0 : Below w.heap.size w w0 := by rw [hw0]; exact (Below.refl _ _).alloc (Nat.le_refl _) _
  have h2 : Lie w0 b2 [.int .u8 (s.what : Nat), .int .u8 (s.row : Nat), .int .u8 (s.col : Nat), .int .u8 (s.n : Nat), .int .u8 (s.m : Nat), .int .u8 (s.cell.ru : Nat), .int .u8 (s.cell.ms : Nat), .int .u8 (s.cell.at1 : Nat), .bool s.cell.wide, .bool s.cell.high, .bool s.odd] := by rw [hw0]; exact Lie.new w _ _ b2 hb2
  have HL := Lib.hid h2
  have HOK := Lib.hid hs
  have HGD := Lib.hid gd
  have HB0 := Lib.hid B0
  have HGG := Lib.hid (show ∀ W, Below w0.heap.size w0 W → Gn W lo p rb c G X from fun W k => (h.below B0).below k)
  have HLO0 := Lib.hid (Nat.le_trans hlo B0.size)
  have HXX := Lib.hid (show ∀ j, w0.heap.size ≤ j → X j from fun j hj => hX j (Nat.le_trans B0.size hj))
  have HN0 := Lib.hid gd.n0
  have HN6 := Lib.hid (show G.length ≤ 600 by have := gd.n1; omega)
  have HM0 := Lib.hid gd.m0
  have HM6 := Lib.hid (show m ≤ 600 by have := gd.m1; omega)
  have HL01 := Lib.hid (show (blS s).l = 0 ∨ (blS s).l = 1 from celD_lv s.cell)
  have HB := Lib.hid (show Below w0.heap.size w0 w0 from Below.refl _ _)
  have hnz : ((G.length : Int) == 0) = false := by rw [beq_eq_false_iff_ne]; have := gd.n0; omega
  have hpos : 0 < G.length := gd.n0
  have HE := Lib.hid he
  have r1 : Int.tmod (s.what : Int) 10 = 9 := by rw [show Int.tmod (s.what : Int) 10 = ((s.what % 10 : Nat) : Int) from rfl, he]; rfl
  have r1' : (s.what : Int) % 10 = 9 := by omega
  clear he
  obtain ⟨n0, hn0⟩ : ∃ k, k = s.n % 12 := ⟨_, rfl⟩
  obtain ⟨m0, hm0⟩ : ∃ k, k = s.m % 24 := ⟨_, rfl⟩
  have hnl : n0 < 12 := by omega
  have hml : m0 < 24 := by omega
  have HNM := Lib.hid (show n0 = s.n % 12 ∧ m0 = s.m % 24 from ⟨hn0, hm0⟩)
  have r4 : Int.tmod (s.n : Int) 12 = (n0 : Int) := by rw [hn0]; rfl
  have r4' : (s.n : Int) % 12 = (n0 : Int) := by omega
  have r5 : Int.tmod (s.m : Int) 24 = (m0 : Int) := by rw [hm0]; rfl
  have r5' : (s.m : Int) % 24 = (m0 : Int) := by omega
  have u3 : IntKind.u8.wrap (n0 : Int) = (n0 : Int) := by rw [IntKind.wrap_u8]; omega
  have u4 : IntKind.i64.wrap (n0 : Int) = (n0 : Int) := by rw [IntKind.wrap_i64]; omega
  have u5 : IntKind.u8.wrap (m0 : Int) = (m0 : Int) := by rw [IntKind.wrap_u8]; omega
  have u6 : IntKind.i64.wrap (m0 : Int) = (m0 : Int) := by rw [IntKind.wrap_i64]; omega
  have HCAN := Lib.hid (show canB (n0 : Nat) (m0 : Nat) = true by rw [hn0, hm0]; exact hcan)
  have HBB := Lib.hid (show b2 ≠ p ∧ b2 ≠ rb by have := h.lt; omega)
  have HSK := Lib.hid (show ∀ W, Buts (fun j => j = p ∨ j = rb) w0 W → (fun wx => wx.cell? ⟨b2, 0, none⟩ = some (.int .u8 (s.what : Nat)) ∧ wx.cell? ⟨b2, 1, none⟩ = some (.int .u8 (s.row : Nat)) ∧ wx.cell? ⟨b2, 2, none⟩ = some (.int .u8 (s.col : Nat)) ∧ wx.cell? ⟨b2, 3, none⟩ = some (.int .u8 (s.n : Nat)) ∧ wx.cell? ⟨b2, 4, none⟩ = some (.int .u8 (s.m : Nat)) ∧ wx.cell? ⟨b2, 5, none⟩ = some (.int .u8 (s.cell.ru : Nat)) ∧ wx.cell? ⟨b2, 6, none⟩ = some (.int .u8 (s.cell.ms : Nat)) ∧ wx.cell? ⟨b2, 7, none⟩ = some (.int .u8 (s.cell.at1 : Nat)) ∧ wx.cell? ⟨b2, 8, none⟩ = some (.bool s.cell.wide) ∧ wx.cell? ⟨b2, 9, none⟩ = some (.bool s.cell.high) ∧ wx.cell? ⟨b2, 10, none⟩ = some (.bool s.odd)) W from fun W k => by
    have nb : ¬ (b2 = p ∨ b2 = rb) := fun e => e.elim HBB.out.1 HBB.out.2
    exact ⟨Buts.cellK k (h2.at 0 rfl) nb, Buts.cellK k (h2.at 1 rfl) nb, Buts.cellK k (h2.at 2 rfl) nb, Buts.cellK k (h2.at 3 rfl) nb, Buts.cellK k (h2.at 4 rfl) nb, Buts.cellK k (h2.at 5 rfl) nb, Buts.cellK k (h2.at 6 rfl) nb, Buts.cellK k (h2.at 7 rfl) nb, Buts.cellK k (h2.at 8 rfl) nb, Buts.cellK k (h2.at 9 rfl) nb, Buts.cellK k (h2.at 10 rfl) nb⟩)
  clear hn0 hm0 hcan
  have y0 := h2.at 0 rfl
  have y1 := h2.at 1 rfl
  have y2 := h2.at 2 rfl
  have y3 := h2.at 3 rfl
  have y4 := h2.at 4 rfl
  have y5 := h2.at 5 rfl
  have y6 := h2.at 6 rfl
  have y7 := h2.at 7 rfl
  have y8 := h2.at 8 rfl
  have y9 := h2.at 9 rfl
  have y10 := h2.at 10 rfl
  clear B0 h2 hs gd h hlo hX
  go_enter Tryz.func10, Tryz.ntmps10
  go_upto_region 1 with (fail)
  rw [← hw0, ← hb2]
  clear hw0 hb2
  go_wp2_with fail
  refine (gsize w0 lo p rb c m G (HGG.out w0 (Below.refl _ _)).gg HGD.out).mono ?_
  rintro e' w1 ⟨rfl, bb⟩
  clear y0 y1 y2 y3 y4 y5 y6 y7 y8 y9 y10
  replace HB := Lib.hid (HB.out.trans (bb.mono HB.out.size))
  clear bb
  have yb := HL.out.below HB.out
  have y0 := yb.at 0 rfl
  have y1 := yb.at 1 rfl
  have y2 := yb.at 2 rfl
  have y3 := yb.at 3 rfl
  have y4 := yb.at 4 rfl
  have y5 := yb.at 5 rfl
  have y6 := yb.at 6 rfl
  have y7 := yb.at 7 rfl
  have y8 := yb.at 8 rfl
  have y9 := yb.at 9 rfl
  have y10 := yb.at 10 rfl
  clear yb
  go_upto_region 15 with (fail)
  refine wp_region_held_drew (S := fun wx => wx.cell? ⟨b2, 0, none⟩ = some (.int .u8 (s.what : Nat)) ∧ wx.cell? ⟨b2, 1, none⟩ = some (.int .u8 (s.row : Nat)) ∧ wx.cell? ⟨b2, 2, none⟩ = some (.int .u8 (s.col : Nat)) ∧ wx.cell? ⟨b2, 3, none⟩ = some (.int .u8 (s.n : Nat)) ∧ wx.cell? ⟨b2, 4, none⟩ = some (.int .u8 (s.m : Nat)) ∧ wx.cell? ⟨b2, 5, none⟩ = some (.int .u8 (s.cell.ru : Nat)) ∧ wx.cell? ⟨b2, 6, none⟩ = some (.int .u8 (s.cell.ms : Nat)) ∧ wx.cell? ⟨b2, 7, none⟩ = some (.int .u8 (s.cell.at1 : Nat)) ∧ wx.cell? ⟨b2, 8, none⟩ = some (.bool s.cell.wide) ∧ wx.cell? ⟨b2, 9, none⟩ = some (.bool s.cell.high) ∧ wx.cell? ⟨b2, 10, none⟩ = some (.bool s.odd)) (by kernel_rfl) ?_ (fun hHeld => ?_)
  · exact HSK.out _ (Buts.of HB.out.drew)
  obtain ⟨wd, hwd⟩ : ∃ X, X = w1.drew := ⟨_, rfl⟩
  have HX := Lib.hid (show Below w0.heap.size w0 wd by rw [hwd]; exact HB.out.drew)
  replace hHeld := HSK.out _ (Buts.of HX.out)
  rw [← hwd]
  clear y0 y1 y2 y3 y4 y5 y6 y7 y8 y9 y10
  clear hwd
  refine tk 0 rfl (fun w hSw => by (try dsimp only at hSw); go_simp; try with_reducible rfl) ?_
  go_frame
  refine tk 1 rfl (fun w hSw => by (try dsimp only at hSw); go_simp; try with_reducible rfl) ?_
  go_frame
  refine tk 2 rfl (fun w hSw => by (try dsimp only at hSw); go_simp; try with_reducible rfl) ?_
  go_frame
  refine tk 3 rfl (fun w hSw => by (try dsimp only at hSw); go_simp; try with_reducible rfl) ?_
  go_frame
  refine tk 4 rfl (fun w hSw => by (try dsimp only at hSw); go_simp; try with_reducible rfl) ?_
  go_frame
  refine tk 5 rfl (fun w hSw => by (try dsimp only at hSw); go_simp; try with_reducible rfl) ?_
  go_frame
  refine tk 6 rfl (fun w hSw => by (try dsimp only at hSw); go_simp; try with_reducible rfl) ?_
  go_frame
  refine tk 7 rfl (fun w hSw => by (try dsimp only at hSw); go_simp; try with_reducible rfl) ?_
  go_frame
  refine tk 8 rfl (fun w hSw => by (try dsimp only at hSw); go_simp; try with_reducible rfl) ?_
  go_frame
  refine tk 9 rfl (fun w hSw => by (try dsimp only at hSw); go_simp; try with_reducible rfl) ?_
  go_frame
  refine do_at (i := 10) rfl (by kernel_rfl) (by kernel_rfl) (fun K hK => ?_)
  go_simp
  refine (sblank_any wd s HOK.out).mono ?_
  rintro e' wz ⟨rfl, bz⟩
  replace HX := Lib.hid (HX.out.trans (bz.mono HX.out.size))
  clear bz
  go_wp2_with fail
  refine hK.out _ _ ?_ (fun hHeld => ?_)
  · exact HSK.out _ (Buts.of HX.out)
  clear hK K
  try go_frame
  refine do_at (i := 11) rfl (by kernel_rfl) (by kernel_rfl) (fun K hK => ?_)
  go_simp
  refine (nresize X wz lo p rb c m n0 m0 G (blS s) (HGG.out wz HX.out) HGD.out (Nat.le_trans HLO0.out HX.out.size) (fun j hj => HXX.out j (Nat.le_trans HX.out.size hj)) HCAN.out).mono ?_
  rintro e' ws ⟨rfl, ⟨rb2, c2, gg, hrb2⟩, bt⟩
  have H3 := Lib.hid gg
  have H4 := Lib.hid (bt.twoP (rb := rb))
  have H5 := Lib.hid (Nat.le_trans HX.out.size hrb2)
  clear gg bt hrb2
  go_wp2_with fail
  refine hK.out _ _ ?_ (fun hHeld => ?_)
  · exact HSK.out _ ((Buts.of HX.out).trans H4.out)
  clear hK K
  try go_frame
  refine wpAnyH_done (by kernel_rfl) ?_ _
  clear hHeld
  go_wp2
  go_ret
  refine ⟨.slice none 0 0, rfl, ⟨rb2, c2, by unfold wentS doesG; rw [HE.out, ← HNM.out.1, ← HNM.out.2]; simp only [HCAN.out, if_true]; exact GWn.nil H3.out, .inr (Nat.le_trans HB0.out.size H5.out)⟩, (fun k hk => by cases hk), ((Buts.of (HB0.out.trans (HX.out.mono HB0.out.size))).trans H4.out)⟩
set_option maxHeartbeats 8000000 in
set_option maxRecDepth 100000 in
theorem doesN9n (X : Nat → Prop) (w : World) (lo p rb c m : Nat) (G : List Cls) (s : St) (hs : s.ok) (h : Gn w lo p rb c G X) (gd : Good G m) (hlo : lo ≤ w.heap.size) (hX : ∀ j, w.heap.size ≤ j → X j) (he : s.what % 10 = 9) (hcan : canB (s.n % 12 : Nat) (s.m % 24 : Nat) = false) : DoesN X w lo p rb m G s := by
  unfold DoesN
  obtain ⟨w0, hw0⟩ : ∃ W0, W0 = w.alloc (.cells #[.int .u8 (s.what : Nat), .int .u8 (s.row : Nat), .int .u8 (s.col : Nat), .int .u8 (s.n : Nat), .int .u8 (s.m : Nat), .int .u8 (s.cell.ru : Nat), .int .u8 (s.cell.ms : Nat), .int .u8 (s.cell.at1 : Nat), .bool s.cell.wide, .bool s.cell.high, .bool s.odd] 40) := ⟨_, rfl⟩
  obtain ⟨b2, hb2⟩ : ∃ b, b = w.heap.size := ⟨_, rfl⟩
  have B0 : Below w.heap.size w w0 := by rw [hw0]; exact (Below.refl _ _).alloc (Nat.le_refl _) _
  have h2 : Lie w0 b2 [.int .u8 (s.what : Nat), .int .u8 (s.row : Nat), .int .u8 (s.col : Nat), .int .u8 (s.n : Nat), .int .u8 (s.m : Nat), .int .u8 (s.cell.ru : Nat), .int .u8 (s.cell.ms : Nat), .int .u8 (s.cell.at1 : Nat), .bool s.cell.wide, .bool s.cell.high, .bool s.odd] := by rw [hw0]; exact Lie.new w _ _ b2 hb2
  have HL := Lib.hid h2
  have HOK := Lib.hid hs
  have HGD := Lib.hid gd
  have HB0 := Lib.hid B0
  have HGG := Lib.hid (show ∀ W, Below w0.heap.size w0 W → Gn W lo p rb c G X from fun W k => (h.below B0).below k)
  have HLO0 := Lib.hid (Nat.le_trans hlo B0.size)
  have HXX := Lib.hid (show ∀ j, w0.heap.size ≤ j → X j from fun j hj => hX j (Nat.le_trans B0.size hj))
  have HN0 := Lib.hid gd.n0
  have HN6 := Lib.hid (show G.length ≤ 600 by have := gd.n1; omega)
  have HM0 := Lib.hid gd.m0
  have HM6 := Lib.hid (show m ≤ 600 by have := gd.m1; omega)
  have HL01 := Lib.hid (show (blS s).l = 0 ∨ (blS s).l = 1 from celD_lv s.cell)
  have HB := Lib.hid (show Below w0.heap.size w0 w0 from Below.refl _ _)
  have hnz : ((G.length : Int) == 0) = false := by rw [beq_eq_false_iff_ne]; have := gd.n0; omega
  have hpos : 0 < G.length := gd.n0
  have HE := Lib.hid he
  have r1 : Int.tmod (s.what : Int) 10 = 9 := by rw [show Int.tmod (s.what : Int) 10 = ((s.what % 10 : Nat) : Int) from rfl, he]; rfl
  have r1' : (s.what : Int) % 10 = 9 := by omega
  clear he
  obtain ⟨n0, hn0⟩ : ∃ k, k = s.n % 12 := ⟨_, rfl⟩
  obtain ⟨m0, hm0⟩ : ∃ k, k = s.m % 24 := ⟨_, rfl⟩
  have hnl : n0 < 12 := by omega
  have hml : m0 < 24 := by omega
  have HNM := Lib.hid (show n0 = s.n % 12 ∧ m0 = s.m % 24 from ⟨hn0, hm0⟩)
  have r4 : Int.tmod (s.n : Int) 12 = (n0 : Int) := by rw [hn0]; rfl
  have r4' : (s.n : Int) % 12 = (n0 : Int) := by omega
  have r5 : Int.tmod (s.m : Int) 24 = (m0 : Int) := by rw [hm0]; rfl
  have r5' : (s.m : Int) % 24 = (m0 : Int) := by omega
  have u3 : IntKind.u8.wrap (n0 : Int) = (n0 : Int) := by rw [IntKind.wrap_u8]; omega
  have u4 : IntKind.i64.wrap (n0 : Int) = (n0 : Int) := by rw [IntKind.wrap_i64]; omega
  have u5 : IntKind.u8.wrap (m0 : Int) = (m0 : Int) := by rw [IntKind.wrap_u8]; omega
  have u6 : IntKind.i64.wrap (m0 : Int) = (m0 : Int) := by rw [IntKind.wrap_i64]; omega
  have HCAN := Lib.hid (show canB (n0 : Nat) (m0 : Nat) = false by rw [hn0, hm0]; exact hcan)
  have HBB := Lib.hid (show b2 ≠ p ∧ b2 ≠ rb by have := h.lt; omega)
  have HSK := Lib.hid (show ∀ W, Buts (fun j => j = p ∨ j = rb) w0 W → (fun wx => wx.cell? ⟨b2, 0, none⟩ = some (.int .u8 (s.what : Nat)) ∧ wx.cell? ⟨b2, 1, none⟩ = some (.int .u8 (s.row : Nat)) ∧ wx.cell? ⟨b2, 2, none⟩ = some (.int .u8 (s.col : Nat)) ∧ wx.cell? ⟨b2, 3, none⟩ = some (.int .u8 (s.n : Nat)) ∧ wx.cell? ⟨b2, 4, none⟩ = some (.int .u8 (s.m : Nat)) ∧ wx.cell? ⟨b2, 5, none⟩ = some (.int .u8 (s.cell.ru : Nat)) ∧ wx.cell? ⟨b2, 6, none⟩ = some (.int .u8 (s.cell.ms : Nat)) ∧ wx.cell? ⟨b2, 7, none⟩ = some (.int .u8 (s.cell.at1 : Nat)) ∧ wx.cell? ⟨b2, 8, none⟩ = some (.bool s.cell.wide) ∧ wx.cell? ⟨b2, 9, none⟩ = some (.bool s.cell.high) ∧ wx.cell? ⟨b2, 10, none⟩ = some (.bool s.odd)) W from fun W k => by
    have nb : ¬ (b2 = p ∨ b2 = rb) := fun e => e.elim HBB.out.1 HBB.out.2
    exact ⟨Buts.cellK k (h2.at 0 rfl) nb, Buts.cellK k (h2.at 1 rfl) nb, Buts.cellK k (h2.at 2 rfl) nb, Buts.cellK k (h2.at 3 rfl) nb, Buts.cellK k (h2.at 4 rfl) nb, Buts.cellK k (h2.at 5 rfl) nb, Buts.cellK k (h2.at 6 rfl) nb, Buts.cellK k (h2.at 7 rfl) nb, Buts.cellK k (h2.at 8 rfl) nb, Buts.cellK k (h2.at 9 rfl) nb, Buts.cellK k (h2.at 10 rfl) nb⟩)
  have hh := h
  obtain ⟨H, hat, _⟩ := hh
  obtain ⟨nk, hnk⟩ : ∃ k, k = H.length := ⟨_, rfl⟩
  obtain ⟨ak, hak⟩ : ∃ a : Option Addr, a = some ⟨rb, 0, none⟩ := ⟨_, rfl⟩
  obtain ⟨ck, hck⟩ : ∃ k, k = c := ⟨_, rfl⟩
  have HKK := Lib.hid (show ∀ W, Below w0.heap.size w0 W → Calls Tryz.prog 40 #[gV p] W fun e w'' => e = .returned (.slice ak nk ck) ∧ W = w'' from fun W k => by rw [hak, hnk, hck]; exact kept_any W p _ ((hat.below B0).below k).cell)
  clear hat hnk hak hck
  clear hn0 hm0 hcan
  have y0 := h2.at 0 rfl
  have y1 := h2.at 1 rfl
  have y2 := h2.at 2 rfl
  have y3 := h2.at 3 rfl
  have y4 := h2.at 4 rfl
  have y5 := h2.at 5 rfl
  have y6 := h2.at 6 rfl
  have y7 := h2.at 7 rfl
  have y8 := h2.at 8 rfl
  have y9 := h2.at 9 rfl
  have y10 := h2.at 10 rfl
  clear B0 h2 hs gd h hlo hX
  go_enter Tryz.func10, Tryz.ntmps10
  go_upto_region 1 with (fail)
  rw [← hw0, ← hb2]
  clear hw0 hb2
  go_wp2_with fail
  refine (gsize w0 lo p rb c m G (HGG.out w0 (Below.refl _ _)).gg HGD.out).mono ?_
  rintro e' w1 ⟨rfl, bb⟩
  clear y0 y1 y2 y3 y4 y5 y6 y7 y8 y9 y10
  replace HB := Lib.hid (HB.out.trans (bb.mono HB.out.size))
  clear bb
  have yb := HL.out.below HB.out
  have y0 := yb.at 0 rfl
  have y1 := yb.at 1 rfl
  have y2 := yb.at 2 rfl
  have y3 := yb.at 3 rfl
  have y4 := yb.at 4 rfl
  have y5 := yb.at 5 rfl
  have y6 := yb.at 6 rfl
  have y7 := yb.at 7 rfl
  have y8 := yb.at 8 rfl
  have y9 := yb.at 9 rfl
  have y10 := yb.at 10 rfl
  clear yb
  go_upto_region 15 with (fail)
  refine wp_region_held_drew (S := fun wx => wx.cell? ⟨b2, 0, none⟩ = some (.int .u8 (s.what : Nat)) ∧ wx.cell? ⟨b2, 1, none⟩ = some (.int .u8 (s.row : Nat)) ∧ wx.cell? ⟨b2, 2, none⟩ = some (.int .u8 (s.col : Nat)) ∧ wx.cell? ⟨b2, 3, none⟩ = some (.int .u8 (s.n : Nat)) ∧ wx.cell? ⟨b2, 4, none⟩ = some (.int .u8 (s.m : Nat)) ∧ wx.cell? ⟨b2, 5, none⟩ = some (.int .u8 (s.cell.ru : Nat)) ∧ wx.cell? ⟨b2, 6, none⟩ = some (.int .u8 (s.cell.ms : Nat)) ∧ wx.cell? ⟨b2, 7, none⟩ = some (.int .u8 (s.cell.at1 : Nat)) ∧ wx.cell? ⟨b2, 8, none⟩ = some (.bool s.cell.wide) ∧ wx.cell? ⟨b2, 9, none⟩ = some (.bool s.cell.high) ∧ wx.cell? ⟨b2, 10, none⟩ = some (.bool s.odd)) (by kernel_rfl) ?_ (fun hHeld => ?_)
  · exact HSK.out _ (Buts.of HB.out.drew)
  obtain ⟨wd, hwd⟩ : ∃ X, X = w1.drew := ⟨_, rfl⟩
  have HX := Lib.hid (show Below w0.heap.size w0 wd by rw [hwd]; exact HB.out.drew)
  replace hHeld := HSK.out _ (Buts.of HX.out)
  rw [← hwd]
  clear y0 y1 y2 y3 y4 y5 y6 y7 y8 y9 y10
  clear hwd
  refine tk 0 rfl (fun w hSw => by (try dsimp only at hSw); go_simp; try with_reducible rfl) ?_
  go_frame
  refine tk 1 rfl (fun w hSw => by (try dsimp only at hSw); go_simp; try with_reducible rfl) ?_
  go_frame
  refine tk 2 rfl (fun w hSw => by (try dsimp only at hSw); go_simp; try with_reducible rfl) ?_
  go_frame
  refine tk 3 rfl (fun w hSw => by (try dsimp only at hSw); go_simp; try with_reducible rfl) ?_
  go_frame
  refine tk 4 rfl (fun w hSw => by (try dsimp only at hSw); go_simp; try with_reducible rfl) ?_
  go_frame
  refine tk 5 rfl (fun w hSw => by (try dsimp only at hSw); go_simp; try with_reducible rfl) ?_
  go_frame
  refine tk 6 rfl (fun w hSw => by (try dsimp only at hSw); go_simp; try with_reducible rfl) ?_
  go_frame
  refine tk 7 rfl (fun w hSw => by (try dsimp only at hSw); go_simp; try with_reducible rfl) ?_
  go_frame
  refine tk 8 rfl (fun w hSw => by (try dsimp only at hSw); go_simp; try with_reducible rfl) ?_
  go_frame
  refine tk 9 rfl (fun w hSw => by (try dsimp only at hSw); go_simp; try with_reducible rfl) ?_
  go_frame
  refine do_at (i := 10) rfl (by kernel_rfl) (by kernel_rfl) (fun K hK => ?_)
  go_simp
  refine (sblank_any wd s HOK.out).mono ?_
  rintro e' wz ⟨rfl, bz⟩
  replace HX := Lib.hid (HX.out.trans (bz.mono HX.out.size))
  clear bz
  go_wp2_with fail
  refine hK.out _ _ ?_ (fun hHeld => ?_)
  · exact HSK.out _ (Buts.of HX.out)
  clear hK K
  try go_frame
  refine do_at (i := 11) rfl (by kernel_rfl) (by kernel_rfl) (fun K hK => ?_)
  go_simp
  refine (gresize_no wz (gV p) nk ck ak (n0 : Nat) (m0 : Nat) (blS s) (fun W k => HKK.out W (HX.out.trans (k.mono HX.out.size))) (.inr HCAN.out)).mono ?_
  rintro e' ws ⟨rfl, bz⟩
  have H4 := Lib.hid (Buts.of (S := (fun j => j = p ∨ j = rb)) bz)
  have H3 := Lib.hid (HGG.out ws (HX.out.trans (bz.mono HX.out.size)))
  clear bz
  go_wp2_with fail
  refine hK.out _ _ ?_ (fun hHeld => ?_)
  · exact HSK.out _ ((Buts.of HX.out).trans H4.out)
  clear hK K
  try go_frame
  refine wpAnyH_done (by kernel_rfl) ?_ _
  clear hHeld
  go_wp2
  go_ret
  refine ⟨.slice none 0 0, rfl, ⟨rb, c, by unfold wentS doesG; rw [HE.out, ← HNM.out.1, ← HNM.out.2]; simp only [HCAN.out, if_neg, Bool.false_eq_true, not_false_eq_true]; exact GWn.nil H3.out, .inl rfl⟩, (fun k hk => by cases hk), ((Buts.of (HB0.out.trans (HX.out.mono HB0.out.size))).trans H4.out)⟩
end Go.Proofs.YtdeahnphcfcfpaaGreat.Lab
