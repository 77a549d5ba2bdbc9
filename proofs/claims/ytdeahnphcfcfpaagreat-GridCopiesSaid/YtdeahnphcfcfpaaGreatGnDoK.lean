/- The law's does, said of rows: acts. -/
import Derived.Test.YtdeahnphcfcfpaaGreatGnDoA
namespace Go.Proofs.YtdeahnphcfcfpaaGreat.Lab
open Go Go.RowKit

set_option maxHeartbeats 8000000 in
set_option maxRecDepth 100000 in
theorem doesNK0 (X : Nat → Prop) (w : World) (lo p rb c m : Nat) (G : List Cls) (s : St) (hs : s.ok) (h : Gn w lo p rb c G X) (gd : Good G m) (hlo : lo ≤ w.heap.size) (hX : ∀ j, w.heap.size ≤ j → X j) (he : s.what % 10 < 6) (hq : s.what % 6 = 0) : DoesN X w lo p rb m G s := by
  unfold DoesN
  obtain ⟨w0, hw0⟩ : ∃ W0, W0 = w.alloc (.cells #[.int .u8 (s.what : Nat), .int .u8 (s.row : Nat), .int .u8 (s.col : Nat), .int .u8 (s.n : Nat), .int .u8 (s.m : Nat), .int .u8 (s.cell.ru : Nat), .int .u8 (s.cell.ms : Nat), .int .u8 (s.cell.at1 : Nat), .bool s.cell.wide, .bool s.cell.high, .bool s.odd] 40) := ⟨_, rfl⟩
  obtain ⟨b2, hb2⟩ : ∃ b, b = w.heap.size := ⟨_, rfl⟩
  have B0 : Below w.heap.size w w0 := by rw [hw0]; exact (Below.refl _ _).alloc (Nat.le_refl _) _
  have h2 : Lie w0 b2 [.int .u8 (s.what : Nat), .int .u8 (s.row : Nat), .int .u8 (s.col : Nat), .int .u8 (s.n : Nat), .int .u8 (s.m : Nat), .int .u8 (s.cell.ru : Nat), .int .u8 (s.cell.ms : Nat), .int .u8 (s.cell.at1 : Nat), .bool s.cell.wide, .bool s.cell.high, .bool s.odd] := by rw [hw0]; exact Lie.new w _ _ b2 hb2
  have HL := Lib.hid h2
  have HOK := Lib.hid hs
  have HGD := Lib.hid gd
  have HB0 := Lib.hid B0
  have HGG := Lib.hid (show ∀ W, Below w0.heap.size w0 W → Gn W lo p rb c G X from fun W k => (h.below B0).below k)
  have HLO0 := Lib.hid (Nat.le_trans hlo B0.size)
  have HXX := Lib.hid (show ∀ j, w0.heap.size ≤ j → X j from fun j hj => hX j (Nat.le_trans B0.size hj))
  have HN0 := Lib.hid gd.n0
  have HN6 := Lib.hid (show G.length ≤ 600 by have := gd.n1; omega)
  have HM0 := Lib.hid gd.m0
  have HM6 := Lib.hid (show m ≤ 600 by have := gd.m1; omega)
  have HL01 := Lib.hid (show (blS s).l = 0 ∨ (blS s).l = 1 from celD_lv s.cell)
  have HB := Lib.hid (show Below w0.heap.size w0 w0 from Below.refl _ _)
  have hnz : ((G.length : Int) == 0) = false := by rw [beq_eq_false_iff_ne]; have := gd.n0; omega
  have hpos : 0 < G.length := gd.n0
  have HE6 := Lib.hid he
  have HKQ := Lib.hid hq
  obtain ⟨e, hee⟩ : ∃ e, e = s.what % 10 := ⟨_, rfl⟩
  have r1 : Int.tmod (s.what : Int) 10 = (e : Int) := by rw [hee]; rfl
  have r1' : (s.what : Int) % 10 = (e : Int) := by omega
  have u1 : IntKind.u8.wrap (e : Int) = (e : Int) := by rw [IntKind.wrap_u8]; omega
  have n6 : ((e : Int) == 6) = false := by rw [beq_eq_false_iff_ne]; omega
  have n7 : ((e : Int) == 7) = false := by rw [beq_eq_false_iff_ne]; omega
  have n8 : ((e : Int) == 8) = false := by rw [beq_eq_false_iff_ne]; omega
  have n9 : ((e : Int) == 9) = false := by rw [beq_eq_false_iff_ne]; omega
  obtain ⟨ar, har⟩ : ∃ a, a = actR s G.length := ⟨_, rfl⟩
  obtain ⟨ac, hac⟩ : ∃ a, a = actC s m := ⟨_, rfl⟩
  obtain ⟨an, han⟩ : ∃ a, a = actN s := ⟨_, rfl⟩
  obtain ⟨x, hx⟩ : ∃ a, a = actX s := ⟨_, rfl⟩
  have HA := Lib.hid (show ar = actR s G.length ∧ ac = actC s m ∧ an = actN s ∧ x = actX s from ⟨har, hac, han, hx⟩)
  have HAV := Lib.hid (show actV s G.length m = .agg #[.int .i64 0, .int .i64 ar, .int .i64 ac, .int .i64 an, .int .i32 x.ru, .int .i32 x.m0, .int .i32 x.m1, .int .u8 x.k, .int .u8 x.a.fg.k, .int .u8 x.a.fg.r, .int .u8 x.a.fg.g, .int .u8 x.a.fg.b, .int .u8 x.a.bg.k, .int .u8 x.a.bg.r, .int .u8 x.a.bg.g, .int .u8 x.a.bg.b, .int .u16 (x.a.fl : Nat), .int .u8 x.l, .int .i32 769] by rw [har, hac, han, hx]; unfold actV actA; rw [hq]; rfl)
  have HXL := Lib.hid (show x.l = 0 ∨ x.l = 1 by rw [hx]; unfold actX; split <;> exact celD_lv s.cell)
  clear he hq hee har hac han hx
  have y0 := h2.at 0 rfl
  have y1 := h2.at 1 rfl
  have y2 := h2.at 2 rfl
  have y3 := h2.at 3 rfl
  have y4 := h2.at 4 rfl
  have y5 := h2.at 5 rfl
  have y6 := h2.at 6 rfl
  have y7 := h2.at 7 rfl
  have y8 := h2.at 8 rfl
  have y9 := h2.at 9 rfl
  have y10 := h2.at 10 rfl
  clear B0 h2 hs gd h hlo hX
  go_enter Tryz.func10, Tryz.ntmps10
  go_upto_region 1 with (fail)
  rw [← hw0, ← hb2]
  clear hw0 hb2
  go_wp2_with fail
  refine (gsize w0 lo p rb c m G (HGG.out w0 (Below.refl _ _)).gg HGD.out).mono ?_
  rintro e' w1 ⟨rfl, bb⟩
  clear y0 y1 y2 y3 y4 y5 y6 y7 y8 y9 y10
  replace HB := Lib.hid (HB.out.trans (bb.mono HB.out.size))
  clear bb
  have yb := HL.out.below HB.out
  have y0 := yb.at 0 rfl
  have y1 := yb.at 1 rfl
  have y2 := yb.at 2 rfl
  have y3 := yb.at 3 rfl
  have y4 := yb.at 4 rfl
  have y5 := yb.at 5 rfl
  have y6 := yb.at 6 rfl
  have y7 := yb.at 7 rfl
  have y8 := yb.at 8 rfl
  have y9 := yb.at 9 rfl
  have y10 := yb.at 10 rfl
  clear yb
  go_wp2_with fail
  refine (sact_any w1 s G.length m HOK.out HN0.out HN6.out HM0.out HM6.out).mono ?_
  rintro e' w2 ⟨rfl, bb⟩
  clear y0 y1 y2 y3 y4 y5 y6 y7 y8 y9 y10
  rw [HAV.out]
  replace HB := Lib.hid (HB.out.trans (bb.mono HB.out.size))
  have HB2 := Lib.hid HB.out.size
  clear bb
  obtain ⟨wa, hwa⟩ : ∃ X, X = w2.alloc (.cells #[.int .i64 0, .int .i64 0, .int .i64 0, .int .i64 0, .int .i32 0, .int .i32 0, .int .i32 0, .int .u8 0, .int .u8 0, .int .u8 0, .int .u8 0, .int .u8 0, .int .u8 0, .int .u8 0, .int .u8 0, .int .u8 0, .int .u16 0, .int .u8 0, .int .i32 0] 79) := ⟨_, rfl⟩
  obtain ⟨b10, hb10⟩ : ∃ b, b = w2.heap.size := ⟨_, rfl⟩
  have hv := World.alloc_heap_new w2 (.cells #[.int .i64 0, .int .i64 0, .int .i64 0, .int .i64 0, .int .i32 0, .int .i32 0, .int .i32 0, .int .u8 0, .int .u8 0, .int .u8 0, .int .u8 0, .int .u8 0, .int .u8 0, .int .u8 0, .int .u8 0, .int .u8 0, .int .u16 0, .int .u8 0, .int .i32 0] 79)
  rw [← hwa, ← hb10] at hv
  replace HB := Lib.hid (show Below w0.heap.size w0 wa by rw [hwa]; exact HB.out.alloc HB.out.size _)
  have HBV := Lib.hid (show w0.heap.size ≤ b10 by have := (Array.getElem?_eq_some_iff.1 hv).1; rw [hb10]; exact HB2.out)
  dsimp only
  go_step
  go_step
  go_step
  go_step
  rw [← hwa, ← hb10]
  clear hwa hb10
  try go_frame
  obtain ⟨w3, hw3⟩ : ∃ X, X = wa.setRow b10 #[.int .i64 0, .int .i64 ar, .int .i64 ac, .int .i64 an, .int .i32 x.ru, .int .i32 x.m0, .int .i32 x.m1, .int .u8 x.k, .int .u8 x.a.fg.k, .int .u8 x.a.fg.r, .int .u8 x.a.fg.g, .int .u8 x.a.fg.b, .int .u8 x.a.bg.k, .int .u8 x.a.bg.r, .int .u8 x.a.bg.g, .int .u8 x.a.bg.b, .int .u16 (x.a.fl : Nat), .int .u8 x.l, .int .i32 769] := ⟨_, rfl⟩
  have h10 : Lie w3 b10 [.int .i64 0, .int .i64 ar, .int .i64 ac, .int .i64 an, .int .i32 x.ru, .int .i32 x.m0, .int .i32 x.m1, .int .u8 x.k, .int .u8 x.a.fg.k, .int .u8 x.a.fg.r, .int .u8 x.a.fg.g, .int .u8 x.a.fg.b, .int .u8 x.a.bg.k, .int .u8 x.a.bg.r, .int .u8 x.a.bg.g, .int .u8 x.a.bg.b, .int .u16 (x.a.fl : Nat), .int .u8 x.l, .int .i32 769] := Lie.of (by rw [hw3]; exact setRow_heap wa b10 _ #[.int .i64 0, .int .i64 ar, .int .i64 ac, .int .i64 an, .int .i32 x.ru, .int .i32 x.m0, .int .i32 x.m1, .int .u8 x.k, .int .u8 x.a.fg.k, .int .u8 x.a.fg.r, .int .u8 x.a.fg.g, .int .u8 x.a.fg.b, .int .u8 x.a.bg.k, .int .u8 x.a.bg.r, .int .u8 x.a.bg.g, .int .u8 x.a.bg.b, .int .u16 (x.a.fl : Nat), .int .u8 x.l, .int .i32 769] _ _ hv)
  have HB3 := Lib.hid (show Below w0.heap.size w0 w3 by rw [hw3]; exact HB.out.trans ((But.setRow wa b10 #[.int .i64 0, .int .i64 ar, .int .i64 ac, .int .i64 an, .int .i32 x.ru, .int .i32 x.m0, .int .i32 x.m1, .int .u8 x.k, .int .u8 x.a.fg.k, .int .u8 x.a.fg.r, .int .u8 x.a.fg.g, .int .u8 x.a.fg.b, .int .u8 x.a.bg.k, .int .u8 x.a.bg.r, .int .u8 x.a.bg.g, .int .u8 x.a.bg.b, .int .u16 (x.a.fl : Nat), .int .u8 x.l, .int .i32 769]).below HBV.out HB.out.size))
  refine wpList_store_row rfl 79 (.tmp 10) (.tmp 73) rfl b10 #[.int .i64 0, .int .i64 ar, .int .i64 ac, .int .i64 an, .int .i32 x.ru, .int .i32 x.m0, .int .i32 x.m1, .int .u8 x.k, .int .u8 x.a.fg.k, .int .u8 x.a.fg.r, .int .u8 x.a.fg.g, .int .u8 x.a.fg.b, .int .u8 x.a.bg.k, .int .u8 x.a.bg.r, .int .u8 x.a.bg.g, .int .u8 x.a.bg.b, .int .u16 (x.a.fl : Nat), .int .u8 x.l, .int .i32 769] rfl rfl 79 _ hv (by kernel_rfl) rfl (by simp [Value.oneCell']) ?_
  rw [← hw3]
  replace HB := HB3
  clear hv HBV HB3 HB2 hw3
  try simp only [Act.put]
  go_upto_region 18 with (fail)
  have q0 := h10.at 0 rfl
  have q1 := h10.at 1 rfl
  have q2 := h10.at 2 rfl
  have q3 := h10.at 3 rfl
  have q4 := h10.at 4 rfl
  have q5 := h10.at 5 rfl
  have q6 := h10.at 6 rfl
  have q7 := h10.at 7 rfl
  have q8 := h10.at 8 rfl
  have q9 := h10.at 9 rfl
  have q10 := h10.at 10 rfl
  have q11 := h10.at 11 rfl
  have q12 := h10.at 12 rfl
  have q13 := h10.at 13 rfl
  have q14 := h10.at 14 rfl
  have q15 := h10.at 15 rfl
  have q16 := h10.at 16 rfl
  have q17 := h10.at 17 rfl
  have q18 := h10.at 18 rfl
  clear h10
  go_wp2_with fail
  refine (nput X w3 lo p rb c m G ar ac x false (HGG.out w3 HB.out) HGD.out (Nat.le_trans HLO0.out HB.out.size) (fun j hj => HXX.out j (Nat.le_trans HB.out.size hj))).mono ?_
  rintro e' w4 ⟨rfl, gg, bt⟩
  have H3 := Lib.hid gg
  have H4 := Lib.hid bt
  clear gg bt q0 q1 q2 q3 q4 q5 q6 q7 q8 q9 q10 q11 q12 q13 q14 q15 q16 q17 q18
  go_wp2
  go_ret
  refine ⟨.slice none 0 0, rfl, ⟨rb, c, by rw [wentS_lt HE6.out, doesG_lt HE6.out, HKQ.out, ← HA.out.1, ← HA.out.2.1, ← HA.out.2.2.1, ← HA.out.2.2.2]; exact GWn.nil H3.out, .inl rfl⟩, (fun k hk => by cases hk), (Buts.of (HB0.out.trans (HB.out.mono HB0.out.size))).trans H4.out.two⟩
set_option maxHeartbeats 8000000 in
set_option maxRecDepth 100000 in
theorem doesNK1 (X : Nat → Prop) (w : World) (lo p rb c m : Nat) (G : List Cls) (s : St) (hs : s.ok) (h : Gn w lo p rb c G X) (gd : Good G m) (hlo : lo ≤ w.heap.size) (hX : ∀ j, w.heap.size ≤ j → X j) (he : s.what % 10 < 6) (hq : s.what % 6 = 1) : DoesN X w lo p rb m G s := by
  unfold DoesN
  obtain ⟨w0, hw0⟩ : ∃ W0, W0 = w.alloc (.cells #[.int .u8 (s.what : Nat), .int .u8 (s.row : Nat), .int .u8 (s.col : Nat), .int .u8 (s.n : Nat), .int .u8 (s.m : Nat), .int .u8 (s.cell.ru : Nat), .int .u8 (s.cell.ms : Nat), .int .u8 (s.cell.at1 : Nat), .bool s.cell.wide, .bool s.cell.high, .bool s.odd] 40) := ⟨_, rfl⟩
  obtain ⟨b2, hb2⟩ : ∃ b, b = w.heap.size := ⟨_, rfl⟩
  have B0 : Below w.heap.size w w0 := by rw [hw0]; exact (Below.refl _ _).alloc (Nat.le_refl _) _
  have h2 : Lie w0 b2 [.int .u8 (s.what : Nat), .int .u8 (s.row : Nat), .int .u8 (s.col : Nat), .int .u8 (s.n : Nat), .int .u8 (s.m : Nat), .int .u8 (s.cell.ru : Nat), .int .u8 (s.cell.ms : Nat), .int .u8 (s.cell.at1 : Nat), .bool s.cell.wide, .bool s.cell.high, .bool s.odd] := by rw [hw0]; exact Lie.new w _ _ b2 hb2
  have HL := Lib.hid h2
  have HOK := Lib.hid hs
  have HGD := Lib.hid gd
  have HB0 := Lib.hid B0
  have HGG := Lib.hid (show ∀ W, Below w0.heap.size w0 W → Gn W lo p rb c G X from fun W k => (h.below B0).below k)
  have HLO0 := Lib.hid (Nat.le_trans hlo B0.size)
  have HXX := Lib.hid (show ∀ j, w0.heap.size ≤ j → X j from fun j hj => hX j (Nat.le_trans B0.size hj))
  have HN0 := Lib.hid gd.n0
  have HN6 := Lib.hid (show G.length ≤ 600 by have := gd.n1; omega)
  have HM0 := Lib.hid gd.m0
  have HM6 := Lib.hid (show m ≤ 600 by have := gd.m1; omega)
  have HL01 := Lib.hid (show (blS s).l = 0 ∨ (blS s).l = 1 from celD_lv s.cell)
  have HB := Lib.hid (show Below w0.heap.size w0 w0 from Below.refl _ _)
  have hnz : ((G.length : Int) == 0) = false := by rw [beq_eq_false_iff_ne]; have := gd.n0; omega
  have hpos : 0 < G.length := gd.n0
  have HE6 := Lib.hid he
  have HKQ := Lib.hid hq
  obtain ⟨e, hee⟩ : ∃ e, e = s.what % 10 := ⟨_, rfl⟩
  have r1 : Int.tmod (s.what : Int) 10 = (e : Int) := by rw [hee]; rfl
  have r1' : (s.what : Int) % 10 = (e : Int) := by omega
  have u1 : IntKind.u8.wrap (e : Int) = (e : Int) := by rw [IntKind.wrap_u8]; omega
  have n6 : ((e : Int) == 6) = false := by rw [beq_eq_false_iff_ne]; omega
  have n7 : ((e : Int) == 7) = false := by rw [beq_eq_false_iff_ne]; omega
  have n8 : ((e : Int) == 8) = false := by rw [beq_eq_false_iff_ne]; omega
  have n9 : ((e : Int) == 9) = false := by rw [beq_eq_false_iff_ne]; omega
  obtain ⟨ar, har⟩ : ∃ a, a = actR s G.length := ⟨_, rfl⟩
  obtain ⟨ac, hac⟩ : ∃ a, a = actC s m := ⟨_, rfl⟩
  obtain ⟨an, han⟩ : ∃ a, a = actN s := ⟨_, rfl⟩
  obtain ⟨x, hx⟩ : ∃ a, a = actX s := ⟨_, rfl⟩
  have HA := Lib.hid (show ar = actR s G.length ∧ ac = actC s m ∧ an = actN s ∧ x = actX s from ⟨har, hac, han, hx⟩)
  have HAV := Lib.hid (show actV s G.length m = .agg #[.int .i64 1, .int .i64 ar, .int .i64 ac, .int .i64 an, .int .i32 x.ru, .int .i32 x.m0, .int .i32 x.m1, .int .u8 x.k, .int .u8 x.a.fg.k, .int .u8 x.a.fg.r, .int .u8 x.a.fg.g, .int .u8 x.a.fg.b, .int .u8 x.a.bg.k, .int .u8 x.a.bg.r, .int .u8 x.a.bg.g, .int .u8 x.a.bg.b, .int .u16 (x.a.fl : Nat), .int .u8 x.l, .int .i32 769] by rw [har, hac, han, hx]; unfold actV actA; rw [hq]; rfl)
  have HXL := Lib.hid (show x.l = 0 ∨ x.l = 1 by rw [hx]; unfold actX; split <;> exact celD_lv s.cell)
  clear he hq hee har hac han hx
  have y0 := h2.at 0 rfl
  have y1 := h2.at 1 rfl
  have y2 := h2.at 2 rfl
  have y3 := h2.at 3 rfl
  have y4 := h2.at 4 rfl
  have y5 := h2.at 5 rfl
  have y6 := h2.at 6 rfl
  have y7 := h2.at 7 rfl
  have y8 := h2.at 8 rfl
  have y9 := h2.at 9 rfl
  have y10 := h2.at 10 rfl
  clear B0 h2 hs gd h hlo hX
  go_enter Tryz.func10, Tryz.ntmps10
  go_upto_region 1 with (fail)
  rw [← hw0, ← hb2]
  clear hw0 hb2
  go_wp2_with fail
  refine (gsize w0 lo p rb c m G (HGG.out w0 (Below.refl _ _)).gg HGD.out).mono ?_
  rintro e' w1 ⟨rfl, bb⟩
  clear y0 y1 y2 y3 y4 y5 y6 y7 y8 y9 y10
  replace HB := Lib.hid (HB.out.trans (bb.mono HB.out.size))
  clear bb
  have yb := HL.out.below HB.out
  have y0 := yb.at 0 rfl
  have y1 := yb.at 1 rfl
  have y2 := yb.at 2 rfl
  have y3 := yb.at 3 rfl
  have y4 := yb.at 4 rfl
  have y5 := yb.at 5 rfl
  have y6 := yb.at 6 rfl
  have y7 := yb.at 7 rfl
  have y8 := yb.at 8 rfl
  have y9 := yb.at 9 rfl
  have y10 := yb.at 10 rfl
  clear yb
  go_wp2_with fail
  refine (sact_any w1 s G.length m HOK.out HN0.out HN6.out HM0.out HM6.out).mono ?_
  rintro e' w2 ⟨rfl, bb⟩
  clear y0 y1 y2 y3 y4 y5 y6 y7 y8 y9 y10
  rw [HAV.out]
  replace HB := Lib.hid (HB.out.trans (bb.mono HB.out.size))
  have HB2 := Lib.hid HB.out.size
  clear bb
  obtain ⟨wa, hwa⟩ : ∃ X, X = w2.alloc (.cells #[.int .i64 0, .int .i64 0, .int .i64 0, .int .i64 0, .int .i32 0, .int .i32 0, .int .i32 0, .int .u8 0, .int .u8 0, .int .u8 0, .int .u8 0, .int .u8 0, .int .u8 0, .int .u8 0, .int .u8 0, .int .u8 0, .int .u16 0, .int .u8 0, .int .i32 0] 79) := ⟨_, rfl⟩
  obtain ⟨b10, hb10⟩ : ∃ b, b = w2.heap.size := ⟨_, rfl⟩
  have hv := World.alloc_heap_new w2 (.cells #[.int .i64 0, .int .i64 0, .int .i64 0, .int .i64 0, .int .i32 0, .int .i32 0, .int .i32 0, .int .u8 0, .int .u8 0, .int .u8 0, .int .u8 0, .int .u8 0, .int .u8 0, .int .u8 0, .int .u8 0, .int .u8 0, .int .u16 0, .int .u8 0, .int .i32 0] 79)
  rw [← hwa, ← hb10] at hv
  replace HB := Lib.hid (show Below w0.heap.size w0 wa by rw [hwa]; exact HB.out.alloc HB.out.size _)
  have HBV := Lib.hid (show w0.heap.size ≤ b10 by have := (Array.getElem?_eq_some_iff.1 hv).1; rw [hb10]; exact HB2.out)
  dsimp only
  go_step
  go_step
  go_step
  go_step
  rw [← hwa, ← hb10]
  clear hwa hb10
  try go_frame
  obtain ⟨w3, hw3⟩ : ∃ X, X = wa.setRow b10 #[.int .i64 1, .int .i64 ar, .int .i64 ac, .int .i64 an, .int .i32 x.ru, .int .i32 x.m0, .int .i32 x.m1, .int .u8 x.k, .int .u8 x.a.fg.k, .int .u8 x.a.fg.r, .int .u8 x.a.fg.g, .int .u8 x.a.fg.b, .int .u8 x.a.bg.k, .int .u8 x.a.bg.r, .int .u8 x.a.bg.g, .int .u8 x.a.bg.b, .int .u16 (x.a.fl : Nat), .int .u8 x.l, .int .i32 769] := ⟨_, rfl⟩
  have h10 : Lie w3 b10 [.int .i64 1, .int .i64 ar, .int .i64 ac, .int .i64 an, .int .i32 x.ru, .int .i32 x.m0, .int .i32 x.m1, .int .u8 x.k, .int .u8 x.a.fg.k, .int .u8 x.a.fg.r, .int .u8 x.a.fg.g, .int .u8 x.a.fg.b, .int .u8 x.a.bg.k, .int .u8 x.a.bg.r, .int .u8 x.a.bg.g, .int .u8 x.a.bg.b, .int .u16 (x.a.fl : Nat), .int .u8 x.l, .int .i32 769] := Lie.of (by rw [hw3]; exact setRow_heap wa b10 _ #[.int .i64 1, .int .i64 ar, .int .i64 ac, .int .i64 an, .int .i32 x.ru, .int .i32 x.m0, .int .i32 x.m1, .int .u8 x.k, .int .u8 x.a.fg.k, .int .u8 x.a.fg.r, .int .u8 x.a.fg.g, .int .u8 x.a.fg.b, .int .u8 x.a.bg.k, .int .u8 x.a.bg.r, .int .u8 x.a.bg.g, .int .u8 x.a.bg.b, .int .u16 (x.a.fl : Nat), .int .u8 x.l, .int .i32 769] _ _ hv)
  have HB3 := Lib.hid (show Below w0.heap.size w0 w3 by rw [hw3]; exact HB.out.trans ((But.setRow wa b10 #[.int .i64 1, .int .i64 ar, .int .i64 ac, .int .i64 an, .int .i32 x.ru, .int .i32 x.m0, .int .i32 x.m1, .int .u8 x.k, .int .u8 x.a.fg.k, .int .u8 x.a.fg.r, .int .u8 x.a.fg.g, .int .u8 x.a.fg.b, .int .u8 x.a.bg.k, .int .u8 x.a.bg.r, .int .u8 x.a.bg.g, .int .u8 x.a.bg.b, .int .u16 (x.a.fl : Nat), .int .u8 x.l, .int .i32 769]).below HBV.out HB.out.size))
  refine wpList_store_row rfl 79 (.tmp 10) (.tmp 73) rfl b10 #[.int .i64 1, .int .i64 ar, .int .i64 ac, .int .i64 an, .int .i32 x.ru, .int .i32 x.m0, .int .i32 x.m1, .int .u8 x.k, .int .u8 x.a.fg.k, .int .u8 x.a.fg.r, .int .u8 x.a.fg.g, .int .u8 x.a.fg.b, .int .u8 x.a.bg.k, .int .u8 x.a.bg.r, .int .u8 x.a.bg.g, .int .u8 x.a.bg.b, .int .u16 (x.a.fl : Nat), .int .u8 x.l, .int .i32 769] rfl rfl 79 _ hv (by kernel_rfl) rfl (by simp [Value.oneCell']) ?_
  rw [← hw3]
  replace HB := HB3
  clear hv HBV HB3 HB2 hw3
  try simp only [Act.put]
  go_upto_region 18 with (fail)
  have q0 := h10.at 0 rfl
  have q1 := h10.at 1 rfl
  have q2 := h10.at 2 rfl
  have q3 := h10.at 3 rfl
  have q4 := h10.at 4 rfl
  have q5 := h10.at 5 rfl
  have q6 := h10.at 6 rfl
  have q7 := h10.at 7 rfl
  have q8 := h10.at 8 rfl
  have q9 := h10.at 9 rfl
  have q10 := h10.at 10 rfl
  have q11 := h10.at 11 rfl
  have q12 := h10.at 12 rfl
  have q13 := h10.at 13 rfl
  have q14 := h10.at 14 rfl
  have q15 := h10.at 15 rfl
  have q16 := h10.at 16 rfl
  have q17 := h10.at 17 rfl
  have q18 := h10.at 18 rfl
  clear h10
  go_wp2_with fail
  refine (nput X w3 lo p rb c m G ar ac x true (HGG.out w3 HB.out) HGD.out (Nat.le_trans HLO0.out HB.out.size) (fun j hj => HXX.out j (Nat.le_trans HB.out.size hj))).mono ?_
  rintro e' w4 ⟨rfl, gg, bt⟩
  have H3 := Lib.hid gg
  have H4 := Lib.hid bt
  clear gg bt q0 q1 q2 q3 q4 q5 q6 q7 q8 q9 q10 q11 q12 q13 q14 q15 q16 q17 q18
  go_wp2
  go_ret
  refine ⟨.slice none 0 0, rfl, ⟨rb, c, by rw [wentS_lt HE6.out, doesG_lt HE6.out, HKQ.out, ← HA.out.1, ← HA.out.2.1, ← HA.out.2.2.1, ← HA.out.2.2.2]; exact GWn.nil H3.out, .inl rfl⟩, (fun k hk => by cases hk), (Buts.of (HB0.out.trans (HB.out.mono HB0.out.size))).trans H4.out.two⟩
set_option maxHeartbeats 8000000 in
set_option maxRecDepth 100000 in
theorem doesNK2 (X : Nat → Prop) (w : World) (lo p rb c m : Nat) (G : List Cls) (s : St) (hs : s.ok) (h : Gn w lo p rb c G X) (gd : Good G m) (hlo : lo ≤ w.heap.size) (hX : ∀ j, w.heap.size ≤ j → X j) (he : s.what % 10 < 6) (hq : s.what % 6 = 2) : DoesN X w lo p rb m G s := by
  unfold DoesN
  obtain ⟨w0, hw0⟩ : ∃ W0, W0 = w.alloc (.cells #[.int .u8 (s.what : Nat), .int .u8 (s.row : Nat), .int .u8 (s.col : Nat), .int .u8 (s.n : Nat), .int .u8 (s.m : Nat), .int .u8 (s.cell.ru : Nat), .int .u8 (s.cell.ms : Nat), .int .u8 (s.cell.at1 : Nat), .bool s.cell.wide, .bool s.cell.high, .bool s.odd] 40) := ⟨_, rfl⟩
  obtain ⟨b2, hb2⟩ : ∃ b, b = w.heap.size := ⟨_, rfl⟩
  have B0 : Below w.heap.size w w0 := by rw [hw0]; exact (Below.refl _ _).alloc (Nat.le_refl _) _
  have h2 : Lie w0 b2 [.int .u8 (s.what : Nat), .int .u8 (s.row : Nat), .int .u8 (s.col : Nat), .int .u8 (s.n : Nat), .int .u8 (s.m : Nat), .int .u8 (s.cell.ru : Nat), .int .u8 (s.cell.ms : Nat), .int .u8 (s.cell.at1 : Nat), .bool s.cell.wide, .bool s.cell.high, .bool s.odd] := by rw [hw0]; exact Lie.new w _ _ b2 hb2
  have HL := Lib.hid h2
  have HOK := Lib.hid hs
  have HGD := Lib.hid gd
  have HB0 := Lib.hid B0
  have HGG := Lib.hid (show ∀ W, Below w0.heap.size w0 W → Gn W lo p rb c G X from fun W k => (h.below B0).below k)
  have HLO0 := Lib.hid (Nat.le_trans hlo B0.size)
  have HXX := Lib.hid (show ∀ j, w0.heap.size ≤ j → X j from fun j hj => hX j (Nat.le_trans B0.size hj))
  have HN0 := Lib.hid gd.n0
  have HN6 := Lib.hid (show G.length ≤ 600 by have := gd.n1; omega)
  have HM0 := Lib.hid gd.m0
  have HM6 := Lib.hid (show m ≤ 600 by have := gd.m1; omega)
  have HL01 := Lib.hid (show (blS s).l = 0 ∨ (blS s).l = 1 from celD_lv s.cell)
  have HB := Lib.hid (show Below w0.heap.size w0 w0 from Below.refl _ _)
  have hnz : ((G.length : Int) == 0) = false := by rw [beq_eq_false_iff_ne]; have := gd.n0; omega
  have hpos : 0 < G.length := gd.n0
  have HE6 := Lib.hid he
  have HKQ := Lib.hid hq
  obtain ⟨e, hee⟩ : ∃ e, e = s.what % 10 := ⟨_, rfl⟩
  have r1 : Int.tmod (s.what : Int) 10 = (e : Int) := by rw [hee]; rfl
  have r1' : (s.what : Int) % 10 = (e : Int) := by omega
  have u1 : IntKind.u8.wrap (e : Int) = (e : Int) := by rw [IntKind.wrap_u8]; omega
  have n6 : ((e : Int) == 6) = false := by rw [beq_eq_false_iff_ne]; omega
  have n7 : ((e : Int) == 7) = false := by rw [beq_eq_false_iff_ne]; omega
  have n8 : ((e : Int) == 8) = false := by rw [beq_eq_false_iff_ne]; omega
  have n9 : ((e : Int) == 9) = false := by rw [beq_eq_false_iff_ne]; omega
  obtain ⟨ar, har⟩ : ∃ a, a = actR s G.length := ⟨_, rfl⟩
  obtain ⟨ac, hac⟩ : ∃ a, a = actC s m := ⟨_, rfl⟩
  obtain ⟨an, han⟩ : ∃ a, a = actN s := ⟨_, rfl⟩
  obtain ⟨x, hx⟩ : ∃ a, a = actX s := ⟨_, rfl⟩
  have HA := Lib.hid (show ar = actR s G.length ∧ ac = actC s m ∧ an = actN s ∧ x = actX s from ⟨har, hac, han, hx⟩)
  have HAV := Lib.hid (show actV s G.length m = .agg #[.int .i64 2, .int .i64 ar, .int .i64 ac, .int .i64 an, .int .i32 x.ru, .int .i32 x.m0, .int .i32 x.m1, .int .u8 x.k, .int .u8 x.a.fg.k, .int .u8 x.a.fg.r, .int .u8 x.a.fg.g, .int .u8 x.a.fg.b, .int .u8 x.a.bg.k, .int .u8 x.a.bg.r, .int .u8 x.a.bg.g, .int .u8 x.a.bg.b, .int .u16 (x.a.fl : Nat), .int .u8 x.l, .int .i32 769] by rw [har, hac, han, hx]; unfold actV actA; rw [hq]; rfl)
  have HXL := Lib.hid (show x.l = 0 ∨ x.l = 1 by rw [hx]; unfold actX; split <;> exact celD_lv s.cell)
  clear he hq hee har hac han hx
  have y0 := h2.at 0 rfl
  have y1 := h2.at 1 rfl
  have y2 := h2.at 2 rfl
  have y3 := h2.at 3 rfl
  have y4 := h2.at 4 rfl
  have y5 := h2.at 5 rfl
  have y6 := h2.at 6 rfl
  have y7 := h2.at 7 rfl
  have y8 := h2.at 8 rfl
  have y9 := h2.at 9 rfl
  have y10 := h2.at 10 rfl
  clear B0 h2 hs gd h hlo hX
  go_enter Tryz.func10, Tryz.ntmps10
  go_upto_region 1 with (fail)
  rw [← hw0, ← hb2]
  clear hw0 hb2
  go_wp2_with fail
  refine (gsize w0 lo p rb c m G (HGG.out w0 (Below.refl _ _)).gg HGD.out).mono ?_
  rintro e' w1 ⟨rfl, bb⟩
  clear y0 y1 y2 y3 y4 y5 y6 y7 y8 y9 y10
  replace HB := Lib.hid (HB.out.trans (bb.mono HB.out.size))
  clear bb
  have yb := HL.out.below HB.out
  have y0 := yb.at 0 rfl
  have y1 := yb.at 1 rfl
  have y2 := yb.at 2 rfl
  have y3 := yb.at 3 rfl
  have y4 := yb.at 4 rfl
  have y5 := yb.at 5 rfl
  have y6 := yb.at 6 rfl
  have y7 := yb.at 7 rfl
  have y8 := yb.at 8 rfl
  have y9 := yb.at 9 rfl
  have y10 := yb.at 10 rfl
  clear yb
  go_wp2_with fail
  refine (sact_any w1 s G.length m HOK.out HN0.out HN6.out HM0.out HM6.out).mono ?_
  rintro e' w2 ⟨rfl, bb⟩
  clear y0 y1 y2 y3 y4 y5 y6 y7 y8 y9 y10
  rw [HAV.out]
  replace HB := Lib.hid (HB.out.trans (bb.mono HB.out.size))
  have HB2 := Lib.hid HB.out.size
  clear bb
  obtain ⟨wa, hwa⟩ : ∃ X, X = w2.alloc (.cells #[.int .i64 0, .int .i64 0, .int .i64 0, .int .i64 0, .int .i32 0, .int .i32 0, .int .i32 0, .int .u8 0, .int .u8 0, .int .u8 0, .int .u8 0, .int .u8 0, .int .u8 0, .int .u8 0, .int .u8 0, .int .u8 0, .int .u16 0, .int .u8 0, .int .i32 0] 79) := ⟨_, rfl⟩
  obtain ⟨b10, hb10⟩ : ∃ b, b = w2.heap.size := ⟨_, rfl⟩
  have hv := World.alloc_heap_new w2 (.cells #[.int .i64 0, .int .i64 0, .int .i64 0, .int .i64 0, .int .i32 0, .int .i32 0, .int .i32 0, .int .u8 0, .int .u8 0, .int .u8 0, .int .u8 0, .int .u8 0, .int .u8 0, .int .u8 0, .int .u8 0, .int .u8 0, .int .u16 0, .int .u8 0, .int .i32 0] 79)
  rw [← hwa, ← hb10] at hv
  replace HB := Lib.hid (show Below w0.heap.size w0 wa by rw [hwa]; exact HB.out.alloc HB.out.size _)
  have HBV := Lib.hid (show w0.heap.size ≤ b10 by have := (Array.getElem?_eq_some_iff.1 hv).1; rw [hb10]; exact HB2.out)
  dsimp only
  go_step
  go_step
  go_step
  go_step
  rw [← hwa, ← hb10]
  clear hwa hb10
  try go_frame
  obtain ⟨w3, hw3⟩ : ∃ X, X = wa.setRow b10 #[.int .i64 2, .int .i64 ar, .int .i64 ac, .int .i64 an, .int .i32 x.ru, .int .i32 x.m0, .int .i32 x.m1, .int .u8 x.k, .int .u8 x.a.fg.k, .int .u8 x.a.fg.r, .int .u8 x.a.fg.g, .int .u8 x.a.fg.b, .int .u8 x.a.bg.k, .int .u8 x.a.bg.r, .int .u8 x.a.bg.g, .int .u8 x.a.bg.b, .int .u16 (x.a.fl : Nat), .int .u8 x.l, .int .i32 769] := ⟨_, rfl⟩
  have h10 : Lie w3 b10 [.int .i64 2, .int .i64 ar, .int .i64 ac, .int .i64 an, .int .i32 x.ru, .int .i32 x.m0, .int .i32 x.m1, .int .u8 x.k, .int .u8 x.a.fg.k, .int .u8 x.a.fg.r, .int .u8 x.a.fg.g, .int .u8 x.a.fg.b, .int .u8 x.a.bg.k, .int .u8 x.a.bg.r, .int .u8 x.a.bg.g, .int .u8 x.a.bg.b, .int .u16 (x.a.fl : Nat), .int .u8 x.l, .int .i32 769] := Lie.of (by rw [hw3]; exact setRow_heap wa b10 _ #[.int .i64 2, .int .i64 ar, .int .i64 ac, .int .i64 an, .int .i32 x.ru, .int .i32 x.m0, .int .i32 x.m1, .int .u8 x.k, .int .u8 x.a.fg.k, .int .u8 x.a.fg.r, .int .u8 x.a.fg.g, .int .u8 x.a.fg.b, .int .u8 x.a.bg.k, .int .u8 x.a.bg.r, .int .u8 x.a.bg.g, .int .u8 x.a.bg.b, .int .u16 (x.a.fl : Nat), .int .u8 x.l, .int .i32 769] _ _ hv)
  have HB3 := Lib.hid (show Below w0.heap.size w0 w3 by rw [hw3]; exact HB.out.trans ((But.setRow wa b10 #[.int .i64 2, .int .i64 ar, .int .i64 ac, .int .i64 an, .int .i32 x.ru, .int .i32 x.m0, .int .i32 x.m1, .int .u8 x.k, .int .u8 x.a.fg.k, .int .u8 x.a.fg.r, .int .u8 x.a.fg.g, .int .u8 x.a.fg.b, .int .u8 x.a.bg.k, .int .u8 x.a.bg.r, .int .u8 x.a.bg.g, .int .u8 x.a.bg.b, .int .u16 (x.a.fl : Nat), .int .u8 x.l, .int .i32 769]).below HBV.out HB.out.size))
  refine wpList_store_row rfl 79 (.tmp 10) (.tmp 73) rfl b10 #[.int .i64 2, .int .i64 ar, .int .i64 ac, .int .i64 an, .int .i32 x.ru, .int .i32 x.m0, .int .i32 x.m1, .int .u8 x.k, .int .u8 x.a.fg.k, .int .u8 x.a.fg.r, .int .u8 x.a.fg.g, .int .u8 x.a.fg.b, .int .u8 x.a.bg.k, .int .u8 x.a.bg.r, .int .u8 x.a.bg.g, .int .u8 x.a.bg.b, .int .u16 (x.a.fl : Nat), .int .u8 x.l, .int .i32 769] rfl rfl 79 _ hv (by kernel_rfl) rfl (by simp [Value.oneCell']) ?_
  rw [← hw3]
  replace HB := HB3
  clear hv HBV HB3 HB2 hw3
  try simp only [Act.put]
  go_upto_region 18 with (fail)
  have q0 := h10.at 0 rfl
  have q1 := h10.at 1 rfl
  have q2 := h10.at 2 rfl
  have q3 := h10.at 3 rfl
  have q4 := h10.at 4 rfl
  have q5 := h10.at 5 rfl
  have q6 := h10.at 6 rfl
  have q7 := h10.at 7 rfl
  have q8 := h10.at 8 rfl
  have q9 := h10.at 9 rfl
  have q10 := h10.at 10 rfl
  have q11 := h10.at 11 rfl
  have q12 := h10.at 12 rfl
  have q13 := h10.at 13 rfl
  have q14 := h10.at 14 rfl
  have q15 := h10.at 15 rfl
  have q16 := h10.at 16 rfl
  have q17 := h10.at 17 rfl
  have q18 := h10.at 18 rfl
  clear h10
  go_wp2_with fail
  refine (nmark X w3 lo p rb c m G ar ac 769 x.l (HGG.out w3 HB.out) HGD.out (Nat.le_trans HLO0.out HB.out.size) (fun j hj => HXX.out j (Nat.le_trans HB.out.size hj)) HXL.out).mono ?_
  rintro e' w4 ⟨rfl, gg, bt⟩
  have H3 := Lib.hid gg
  have H4 := Lib.hid bt
  clear gg bt q0 q1 q2 q3 q4 q5 q6 q7 q8 q9 q10 q11 q12 q13 q14 q15 q16 q17 q18
  go_wp2
  go_ret
  refine ⟨.slice none 0 0, rfl, ⟨rb, c, by rw [wentS_lt HE6.out, doesG_lt HE6.out, HKQ.out, ← HA.out.1, ← HA.out.2.1, ← HA.out.2.2.1, ← HA.out.2.2.2]; exact GWn.nil H3.out, .inl rfl⟩, (fun k hk => by cases hk), (Buts.of (HB0.out.trans (HB.out.mono HB0.out.size))).trans H4.out.two⟩
set_option maxHeartbeats 8000000 in
set_option maxRecDepth 100000 in
theorem doesNK3 (X : Nat → Prop) (w : World) (lo p rb c m : Nat) (G : List Cls) (s : St) (hs : s.ok) (h : Gn w lo p rb c G X) (gd : Good G m) (hlo : lo ≤ w.heap.size) (hX : ∀ j, w.heap.size ≤ j → X j) (he : s.what % 10 < 6) (hq : s.what % 6 = 3) : DoesN X w lo p rb m G s := by
  unfold DoesN
  obtain ⟨w0, hw0⟩ : ∃ W0, W0 = w.alloc (.cells #[.int .u8 (s.what : Nat), .int .u8 (s.row : Nat), .int .u8 (s.col : Nat), .int .u8 (s.n : Nat), .int .u8 (s.m : Nat), .int .u8 (s.cell.ru : Nat), .int .u8 (s.cell.ms : Nat), .int .u8 (s.cell.at1 : Nat), .bool s.cell.wide, .bool s.cell.high, .bool s.odd] 40) := ⟨_, rfl⟩
  obtain ⟨b2, hb2⟩ : ∃ b, b = w.heap.size := ⟨_, rfl⟩
  have B0 : Below w.heap.size w w0 := by rw [hw0]; exact (Below.refl _ _).alloc (Nat.le_refl _) _
  have h2 : Lie w0 b2 [.int .u8 (s.what : Nat), .int .u8 (s.row : Nat), .int .u8 (s.col : Nat), .int .u8 (s.n : Nat), .int .u8 (s.m : Nat), .int .u8 (s.cell.ru : Nat), .int .u8 (s.cell.ms : Nat), .int .u8 (s.cell.at1 : Nat), .bool s.cell.wide, .bool s.cell.high, .bool s.odd] := by rw [hw0]; exact Lie.new w _ _ b2 hb2
  have HL := Lib.hid h2
  have HOK := Lib.hid hs
  have HGD := Lib.hid gd
  have HB0 := Lib.hid B0
  have HGG := Lib.hid (show ∀ W, Below w0.heap.size w0 W → Gn W lo p rb c G X from fun W k => (h.below B0).below k)
  have HLO0 := Lib.hid (Nat.le_trans hlo B0.size)
  have HXX := Lib.hid (show ∀ j, w0.heap.size ≤ j → X j from fun j hj => hX j (Nat.le_trans B0.size hj))
  have HN0 := Lib.hid gd.n0
  have HN6 := Lib.hid (show G.length ≤ 600 by have := gd.n1; omega)
  have HM0 := Lib.hid gd.m0
  have HM6 := Lib.hid (show m ≤ 600 by have := gd.m1; omega)
  have HL01 := Lib.hid (show (blS s).l = 0 ∨ (blS s).l = 1 from celD_lv s.cell)
  have HB := Lib.hid (show Below w0.heap.size w0 w0 from Below.refl _ _)
  have hnz : ((G.length : Int) == 0) = false := by rw [beq_eq_false_iff_ne]; have := gd.n0; omega
  have hpos : 0 < G.length := gd.n0
  have HE6 := Lib.hid he
  have HKQ := Lib.hid hq
  obtain ⟨e, hee⟩ : ∃ e, e = s.what % 10 := ⟨_, rfl⟩
  have r1 : Int.tmod (s.what : Int) 10 = (e : Int) := by rw [hee]; rfl
  have r1' : (s.what : Int) % 10 = (e : Int) := by omega
  have u1 : IntKind.u8.wrap (e : Int) = (e : Int) := by rw [IntKind.wrap_u8]; omega
  have n6 : ((e : Int) == 6) = false := by rw [beq_eq_false_iff_ne]; omega
  have n7 : ((e : Int) == 7) = false := by rw [beq_eq_false_iff_ne]; omega
  have n8 : ((e : Int) == 8) = false := by rw [beq_eq_false_iff_ne]; omega
  have n9 : ((e : Int) == 9) = false := by rw [beq_eq_false_iff_ne]; omega
  obtain ⟨ar, har⟩ : ∃ a, a = actR s G.length := ⟨_, rfl⟩
  obtain ⟨ac, hac⟩ : ∃ a, a = actC s m := ⟨_, rfl⟩
  obtain ⟨an, han⟩ : ∃ a, a = actN s := ⟨_, rfl⟩
  obtain ⟨x, hx⟩ : ∃ a, a = actX s := ⟨_, rfl⟩
  have HA := Lib.hid (show ar = actR s G.length ∧ ac = actC s m ∧ an = actN s ∧ x = actX s from ⟨har, hac, han, hx⟩)
  have HAV := Lib.hid (show actV s G.length m = .agg #[.int .i64 3, .int .i64 ar, .int .i64 ac, .int .i64 an, .int .i32 x.ru, .int .i32 x.m0, .int .i32 x.m1, .int .u8 x.k, .int .u8 x.a.fg.k, .int .u8 x.a.fg.r, .int .u8 x.a.fg.g, .int .u8 x.a.fg.b, .int .u8 x.a.bg.k, .int .u8 x.a.bg.r, .int .u8 x.a.bg.g, .int .u8 x.a.bg.b, .int .u16 (x.a.fl : Nat), .int .u8 x.l, .int .i32 769] by rw [har, hac, han, hx]; unfold actV actA; rw [hq]; rfl)
  have HXL := Lib.hid (show x.l = 0 ∨ x.l = 1 by rw [hx]; unfold actX; split <;> exact celD_lv s.cell)
  clear he hq hee har hac han hx
  have y0 := h2.at 0 rfl
  have y1 := h2.at 1 rfl
  have y2 := h2.at 2 rfl
  have y3 := h2.at 3 rfl
  have y4 := h2.at 4 rfl
  have y5 := h2.at 5 rfl
  have y6 := h2.at 6 rfl
  have y7 := h2.at 7 rfl
  have y8 := h2.at 8 rfl
  have y9 := h2.at 9 rfl
  have y10 := h2.at 10 rfl
  clear B0 h2 hs gd h hlo hX
  go_enter Tryz.func10, Tryz.ntmps10
  go_upto_region 1 with (fail)
  rw [← hw0, ← hb2]
  clear hw0 hb2
  go_wp2_with fail
  refine (gsize w0 lo p rb c m G (HGG.out w0 (Below.refl _ _)).gg HGD.out).mono ?_
  rintro e' w1 ⟨rfl, bb⟩
  clear y0 y1 y2 y3 y4 y5 y6 y7 y8 y9 y10
  replace HB := Lib.hid (HB.out.trans (bb.mono HB.out.size))
  clear bb
  have yb := HL.out.below HB.out
  have y0 := yb.at 0 rfl
  have y1 := yb.at 1 rfl
  have y2 := yb.at 2 rfl
  have y3 := yb.at 3 rfl
  have y4 := yb.at 4 rfl
  have y5 := yb.at 5 rfl
  have y6 := yb.at 6 rfl
  have y7 := yb.at 7 rfl
  have y8 := yb.at 8 rfl
  have y9 := yb.at 9 rfl
  have y10 := yb.at 10 rfl
  clear yb
  go_wp2_with fail
  refine (sact_any w1 s G.length m HOK.out HN0.out HN6.out HM0.out HM6.out).mono ?_
  rintro e' w2 ⟨rfl, bb⟩
  clear y0 y1 y2 y3 y4 y5 y6 y7 y8 y9 y10
  rw [HAV.out]
  replace HB := Lib.hid (HB.out.trans (bb.mono HB.out.size))
  have HB2 := Lib.hid HB.out.size
  clear bb
  obtain ⟨wa, hwa⟩ : ∃ X, X = w2.alloc (.cells #[.int .i64 0, .int .i64 0, .int .i64 0, .int .i64 0, .int .i32 0, .int .i32 0, .int .i32 0, .int .u8 0, .int .u8 0, .int .u8 0, .int .u8 0, .int .u8 0, .int .u8 0, .int .u8 0, .int .u8 0, .int .u8 0, .int .u16 0, .int .u8 0, .int .i32 0] 79) := ⟨_, rfl⟩
  obtain ⟨b10, hb10⟩ : ∃ b, b = w2.heap.size := ⟨_, rfl⟩
  have hv := World.alloc_heap_new w2 (.cells #[.int .i64 0, .int .i64 0, .int .i64 0, .int .i64 0, .int .i32 0, .int .i32 0, .int .i32 0, .int .u8 0, .int .u8 0, .int .u8 0, .int .u8 0, .int .u8 0, .int .u8 0, .int .u8 0, .int .u8 0, .int .u8 0, .int .u16 0, .int .u8 0, .int .i32 0] 79)
  rw [← hwa, ← hb10] at hv
  replace HB := Lib.hid (show Below w0.heap.size w0 wa by rw [hwa]; exact HB.out.alloc HB.out.size _)
  have HBV := Lib.hid (show w0.heap.size ≤ b10 by have := (Array.getElem?_eq_some_iff.1 hv).1; rw [hb10]; exact HB2.out)
  dsimp only
  go_step
  go_step
  go_step
  go_step
  rw [← hwa, ← hb10]
  clear hwa hb10
  try go_frame
  obtain ⟨w3, hw3⟩ : ∃ X, X = wa.setRow b10 #[.int .i64 3, .int .i64 ar, .int .i64 ac, .int .i64 an, .int .i32 x.ru, .int .i32 x.m0, .int .i32 x.m1, .int .u8 x.k, .int .u8 x.a.fg.k, .int .u8 x.a.fg.r, .int .u8 x.a.fg.g, .int .u8 x.a.fg.b, .int .u8 x.a.bg.k, .int .u8 x.a.bg.r, .int .u8 x.a.bg.g, .int .u8 x.a.bg.b, .int .u16 (x.a.fl : Nat), .int .u8 x.l, .int .i32 769] := ⟨_, rfl⟩
  have h10 : Lie w3 b10 [.int .i64 3, .int .i64 ar, .int .i64 ac, .int .i64 an, .int .i32 x.ru, .int .i32 x.m0, .int .i32 x.m1, .int .u8 x.k, .int .u8 x.a.fg.k, .int .u8 x.a.fg.r, .int .u8 x.a.fg.g, .int .u8 x.a.fg.b, .int .u8 x.a.bg.k, .int .u8 x.a.bg.r, .int .u8 x.a.bg.g, .int .u8 x.a.bg.b, .int .u16 (x.a.fl : Nat), .int .u8 x.l, .int .i32 769] := Lie.of (by rw [hw3]; exact setRow_heap wa b10 _ #[.int .i64 3, .int .i64 ar, .int .i64 ac, .int .i64 an, .int .i32 x.ru, .int .i32 x.m0, .int .i32 x.m1, .int .u8 x.k, .int .u8 x.a.fg.k, .int .u8 x.a.fg.r, .int .u8 x.a.fg.g, .int .u8 x.a.fg.b, .int .u8 x.a.bg.k, .int .u8 x.a.bg.r, .int .u8 x.a.bg.g, .int .u8 x.a.bg.b, .int .u16 (x.a.fl : Nat), .int .u8 x.l, .int .i32 769] _ _ hv)
  have HB3 := Lib.hid (show Below w0.heap.size w0 w3 by rw [hw3]; exact HB.out.trans ((But.setRow wa b10 #[.int .i64 3, .int .i64 ar, .int .i64 ac, .int .i64 an, .int .i32 x.ru, .int .i32 x.m0, .int .i32 x.m1, .int .u8 x.k, .int .u8 x.a.fg.k, .int .u8 x.a.fg.r, .int .u8 x.a.fg.g, .int .u8 x.a.fg.b, .int .u8 x.a.bg.k, .int .u8 x.a.bg.r, .int .u8 x.a.bg.g, .int .u8 x.a.bg.b, .int .u16 (x.a.fl : Nat), .int .u8 x.l, .int .i32 769]).below HBV.out HB.out.size))
  refine wpList_store_row rfl 79 (.tmp 10) (.tmp 73) rfl b10 #[.int .i64 3, .int .i64 ar, .int .i64 ac, .int .i64 an, .int .i32 x.ru, .int .i32 x.m0, .int .i32 x.m1, .int .u8 x.k, .int .u8 x.a.fg.k, .int .u8 x.a.fg.r, .int .u8 x.a.fg.g, .int .u8 x.a.fg.b, .int .u8 x.a.bg.k, .int .u8 x.a.bg.r, .int .u8 x.a.bg.g, .int .u8 x.a.bg.b, .int .u16 (x.a.fl : Nat), .int .u8 x.l, .int .i32 769] rfl rfl 79 _ hv (by kernel_rfl) rfl (by simp [Value.oneCell']) ?_
  rw [← hw3]
  replace HB := HB3
  clear hv HBV HB3 HB2 hw3
  try simp only [Act.put]
  go_upto_region 18 with (fail)
  have q0 := h10.at 0 rfl
  have q1 := h10.at 1 rfl
  have q2 := h10.at 2 rfl
  have q3 := h10.at 3 rfl
  have q4 := h10.at 4 rfl
  have q5 := h10.at 5 rfl
  have q6 := h10.at 6 rfl
  have q7 := h10.at 7 rfl
  have q8 := h10.at 8 rfl
  have q9 := h10.at 9 rfl
  have q10 := h10.at 10 rfl
  have q11 := h10.at 11 rfl
  have q12 := h10.at 12 rfl
  have q13 := h10.at 13 rfl
  have q14 := h10.at 14 rfl
  have q15 := h10.at 15 rfl
  have q16 := h10.at 16 rfl
  have q17 := h10.at 17 rfl
  have q18 := h10.at 18 rfl
  clear h10
  go_wp2_with fail
  refine (ninsert X w3 lo p rb c m G ar ac an x (HGG.out w3 HB.out) HGD.out (Nat.le_trans HLO0.out HB.out.size) (fun j hj => HXX.out j (Nat.le_trans HB.out.size hj))).mono ?_
  rintro e' w4 ⟨rfl, gg, bt⟩
  have H3 := Lib.hid gg
  have H4 := Lib.hid bt
  clear gg bt q0 q1 q2 q3 q4 q5 q6 q7 q8 q9 q10 q11 q12 q13 q14 q15 q16 q17 q18
  go_wp2
  go_ret
  refine ⟨.slice none 0 0, rfl, ⟨rb, c, by rw [wentS_lt HE6.out, doesG_lt HE6.out, HKQ.out, ← HA.out.1, ← HA.out.2.1, ← HA.out.2.2.1, ← HA.out.2.2.2]; exact GWn.nil H3.out, .inl rfl⟩, (fun k hk => by cases hk), (Buts.of (HB0.out.trans (HB.out.mono HB0.out.size))).trans H4.out.two⟩
set_option maxHeartbeats 8000000 in
set_option maxRecDepth 100000 in
theorem doesNK4 (X : Nat → Prop) (w : World) (lo p rb c m : Nat) (G : List Cls) (s : St) (hs : s.ok) (h : Gn w lo p rb c G X) (gd : Good G m) (hlo : lo ≤ w.heap.size) (hX : ∀ j, w.heap.size ≤ j → X j) (he : s.what % 10 < 6) (hq : s.what % 6 = 4) : DoesN X w lo p rb m G s := by
  unfold DoesN
  obtain ⟨w0, hw0⟩ : ∃ W0, W0 = w.alloc (.cells #[.int .u8 (s.what : Nat), .int .u8 (s.row : Nat), .int .u8 (s.col : Nat), .int .u8 (s.n : Nat), .int .u8 (s.m : Nat), .int .u8 (s.cell.ru : Nat), .int .u8 (s.cell.ms : Nat), .int .u8 (s.cell.at1 : Nat), .bool s.cell.wide, .bool s.cell.high, .bool s.odd] 40) := ⟨_, rfl⟩
  obtain ⟨b2, hb2⟩ : ∃ b, b = w.heap.size := ⟨_, rfl⟩
  have B0 : Below w.heap.size w w0 := by rw [hw0]; exact (Below.refl _ _).alloc (Nat.le_refl _) _
  have h2 : Lie w0 b2 [.int .u8 (s.what : Nat), .int .u8 (s.row : Nat), .int .u8 (s.col : Nat), .int .u8 (s.n : Nat), .int .u8 (s.m : Nat), .int .u8 (s.cell.ru : Nat), .int .u8 (s.cell.ms : Nat), .int .u8 (s.cell.at1 : Nat), .bool s.cell.wide, .bool s.cell.high, .bool s.odd] := by rw [hw0]; exact Lie.new w _ _ b2 hb2
  have HL := Lib.hid h2
  have HOK := Lib.hid hs
  have HGD := Lib.hid gd
  have HB0 := Lib.hid B0
  have HGG := Lib.hid (show ∀ W, Below w0.heap.size w0 W → Gn W lo p rb c G X from fun W k => (h.below B0).below k)
  have HLO0 := Lib.hid (Nat.le_trans hlo B0.size)
  have HXX := Lib.hid (show ∀ j, w0.heap.size ≤ j → X j from fun j hj => hX j (Nat.le_trans B0.size hj))
  have HN0 := Lib.hid gd.n0
  have HN6 := Lib.hid (show G.length ≤ 600 by have := gd.n1; omega)
  have HM0 := Lib.hid gd.m0
  have HM6 := Lib.hid (show m ≤ 600 by have := gd.m1; omega)
  have HL01 := Lib.hid (show (blS s).l = 0 ∨ (blS s).l = 1 from celD_lv s.cell)
  have HB := Lib.hid (show Below w0.heap.size w0 w0 from Below.refl _ _)
  have hnz : ((G.length : Int) == 0) = false := by rw [beq_eq_false_iff_ne]; have := gd.n0; omega
  have hpos : 0 < G.length := gd.n0
  have HE6 := Lib.hid he
  have HKQ := Lib.hid hq
  obtain ⟨e, hee⟩ : ∃ e, e = s.what % 10 := ⟨_, rfl⟩
  have r1 : Int.tmod (s.what : Int) 10 = (e : Int) := by rw [hee]; rfl
  have r1' : (s.what : Int) % 10 = (e : Int) := by omega
  have u1 : IntKind.u8.wrap (e : Int) = (e : Int) := by rw [IntKind.wrap_u8]; omega
  have n6 : ((e : Int) == 6) = false := by rw [beq_eq_false_iff_ne]; omega
  have n7 : ((e : Int) == 7) = false := by rw [beq_eq_false_iff_ne]; omega
  have n8 : ((e : Int) == 8) = false := by rw [beq_eq_false_iff_ne]; omega
  have n9 : ((e : Int) == 9) = false := by rw [beq_eq_false_iff_ne]; omega
  obtain ⟨ar, har⟩ : ∃ a, a = actR s G.length := ⟨_, rfl⟩
  obtain ⟨ac, hac⟩ : ∃ a, a = actC s m := ⟨_, rfl⟩
  obtain ⟨an, han⟩ : ∃ a, a = actN s := ⟨_, rfl⟩
  obtain ⟨x, hx⟩ : ∃ a, a = actX s := ⟨_, rfl⟩
  have HA := Lib.hid (show ar = actR s G.length ∧ ac = actC s m ∧ an = actN s ∧ x = actX s from ⟨har, hac, han, hx⟩)
  have HAV := Lib.hid (show actV s G.length m = .agg #[.int .i64 4, .int .i64 ar, .int .i64 ac, .int .i64 an, .int .i32 x.ru, .int .i32 x.m0, .int .i32 x.m1, .int .u8 x.k, .int .u8 x.a.fg.k, .int .u8 x.a.fg.r, .int .u8 x.a.fg.g, .int .u8 x.a.fg.b, .int .u8 x.a.bg.k, .int .u8 x.a.bg.r, .int .u8 x.a.bg.g, .int .u8 x.a.bg.b, .int .u16 (x.a.fl : Nat), .int .u8 x.l, .int .i32 769] by rw [har, hac, han, hx]; unfold actV actA; rw [hq]; rfl)
  have HXL := Lib.hid (show x.l = 0 ∨ x.l = 1 by rw [hx]; unfold actX; split <;> exact celD_lv s.cell)
  clear he hq hee har hac han hx
  have y0 := h2.at 0 rfl
  have y1 := h2.at 1 rfl
  have y2 := h2.at 2 rfl
  have y3 := h2.at 3 rfl
  have y4 := h2.at 4 rfl
  have y5 := h2.at 5 rfl
  have y6 := h2.at 6 rfl
  have y7 := h2.at 7 rfl
  have y8 := h2.at 8 rfl
  have y9 := h2.at 9 rfl
  have y10 := h2.at 10 rfl
  clear B0 h2 hs gd h hlo hX
  go_enter Tryz.func10, Tryz.ntmps10
  go_upto_region 1 with (fail)
  rw [← hw0, ← hb2]
  clear hw0 hb2
  go_wp2_with fail
  refine (gsize w0 lo p rb c m G (HGG.out w0 (Below.refl _ _)).gg HGD.out).mono ?_
  rintro e' w1 ⟨rfl, bb⟩
  clear y0 y1 y2 y3 y4 y5 y6 y7 y8 y9 y10
  replace HB := Lib.hid (HB.out.trans (bb.mono HB.out.size))
  clear bb
  have yb := HL.out.below HB.out
  have y0 := yb.at 0 rfl
  have y1 := yb.at 1 rfl
  have y2 := yb.at 2 rfl
  have y3 := yb.at 3 rfl
  have y4 := yb.at 4 rfl
  have y5 := yb.at 5 rfl
  have y6 := yb.at 6 rfl
  have y7 := yb.at 7 rfl
  have y8 := yb.at 8 rfl
  have y9 := yb.at 9 rfl
  have y10 := yb.at 10 rfl
  clear yb
  go_wp2_with fail
  refine (sact_any w1 s G.length m HOK.out HN0.out HN6.out HM0.out HM6.out).mono ?_
  rintro e' w2 ⟨rfl, bb⟩
  clear y0 y1 y2 y3 y4 y5 y6 y7 y8 y9 y10
  rw [HAV.out]
  replace HB := Lib.hid (HB.out.trans (bb.mono HB.out.size))
  have HB2 := Lib.hid HB.out.size
  clear bb
  obtain ⟨wa, hwa⟩ : ∃ X, X = w2.alloc (.cells #[.int .i64 0, .int .i64 0, .int .i64 0, .int .i64 0, .int .i32 0, .int .i32 0, .int .i32 0, .int .u8 0, .int .u8 0, .int .u8 0, .int .u8 0, .int .u8 0, .int .u8 0, .int .u8 0, .int .u8 0, .int .u8 0, .int .u16 0, .int .u8 0, .int .i32 0] 79) := ⟨_, rfl⟩
  obtain ⟨b10, hb10⟩ : ∃ b, b = w2.heap.size := ⟨_, rfl⟩
  have hv := World.alloc_heap_new w2 (.cells #[.int .i64 0, .int .i64 0, .int .i64 0, .int .i64 0, .int .i32 0, .int .i32 0, .int .i32 0, .int .u8 0, .int .u8 0, .int .u8 0, .int .u8 0, .int .u8 0, .int .u8 0, .int .u8 0, .int .u8 0, .int .u8 0, .int .u16 0, .int .u8 0, .int .i32 0] 79)
  rw [← hwa, ← hb10] at hv
  replace HB := Lib.hid (show Below w0.heap.size w0 wa by rw [hwa]; exact HB.out.alloc HB.out.size _)
  have HBV := Lib.hid (show w0.heap.size ≤ b10 by have := (Array.getElem?_eq_some_iff.1 hv).1; rw [hb10]; exact HB2.out)
  dsimp only
  go_step
  go_step
  go_step
  go_step
  rw [← hwa, ← hb10]
  clear hwa hb10
  try go_frame
  obtain ⟨w3, hw3⟩ : ∃ X, X = wa.setRow b10 #[.int .i64 4, .int .i64 ar, .int .i64 ac, .int .i64 an, .int .i32 x.ru, .int .i32 x.m0, .int .i32 x.m1, .int .u8 x.k, .int .u8 x.a.fg.k, .int .u8 x.a.fg.r, .int .u8 x.a.fg.g, .int .u8 x.a.fg.b, .int .u8 x.a.bg.k, .int .u8 x.a.bg.r, .int .u8 x.a.bg.g, .int .u8 x.a.bg.b, .int .u16 (x.a.fl : Nat), .int .u8 x.l, .int .i32 769] := ⟨_, rfl⟩
  have h10 : Lie w3 b10 [.int .i64 4, .int .i64 ar, .int .i64 ac, .int .i64 an, .int .i32 x.ru, .int .i32 x.m0, .int .i32 x.m1, .int .u8 x.k, .int .u8 x.a.fg.k, .int .u8 x.a.fg.r, .int .u8 x.a.fg.g, .int .u8 x.a.fg.b, .int .u8 x.a.bg.k, .int .u8 x.a.bg.r, .int .u8 x.a.bg.g, .int .u8 x.a.bg.b, .int .u16 (x.a.fl : Nat), .int .u8 x.l, .int .i32 769] := Lie.of (by rw [hw3]; exact setRow_heap wa b10 _ #[.int .i64 4, .int .i64 ar, .int .i64 ac, .int .i64 an, .int .i32 x.ru, .int .i32 x.m0, .int .i32 x.m1, .int .u8 x.k, .int .u8 x.a.fg.k, .int .u8 x.a.fg.r, .int .u8 x.a.fg.g, .int .u8 x.a.fg.b, .int .u8 x.a.bg.k, .int .u8 x.a.bg.r, .int .u8 x.a.bg.g, .int .u8 x.a.bg.b, .int .u16 (x.a.fl : Nat), .int .u8 x.l, .int .i32 769] _ _ hv)
  have HB3 := Lib.hid (show Below w0.heap.size w0 w3 by rw [hw3]; exact HB.out.trans ((But.setRow wa b10 #[.int .i64 4, .int .i64 ar, .int .i64 ac, .int .i64 an, .int .i32 x.ru, .int .i32 x.m0, .int .i32 x.m1, .int .u8 x.k, .int .u8 x.a.fg.k, .int .u8 x.a.fg.r, .int .u8 x.a.fg.g, .int .u8 x.a.fg.b, .int .u8 x.a.bg.k, .int .u8 x.a.bg.r, .int .u8 x.a.bg.g, .int .u8 x.a.bg.b, .int .u16 (x.a.fl : Nat), .int .u8 x.l, .int .i32 769]).below HBV.out HB.out.size))
  refine wpList_store_row rfl 79 (.tmp 10) (.tmp 73) rfl b10 #[.int .i64 4, .int .i64 ar, .int .i64 ac, .int .i64 an, .int .i32 x.ru, .int .i32 x.m0, .int .i32 x.m1, .int .u8 x.k, .int .u8 x.a.fg.k, .int .u8 x.a.fg.r, .int .u8 x.a.fg.g, .int .u8 x.a.fg.b, .int .u8 x.a.bg.k, .int .u8 x.a.bg.r, .int .u8 x.a.bg.g, .int .u8 x.a.bg.b, .int .u16 (x.a.fl : Nat), .int .u8 x.l, .int .i32 769] rfl rfl 79 _ hv (by kernel_rfl) rfl (by simp [Value.oneCell']) ?_
  rw [← hw3]
  replace HB := HB3
  clear hv HBV HB3 HB2 hw3
  try simp only [Act.put]
  go_upto_region 18 with (fail)
  have q0 := h10.at 0 rfl
  have q1 := h10.at 1 rfl
  have q2 := h10.at 2 rfl
  have q3 := h10.at 3 rfl
  have q4 := h10.at 4 rfl
  have q5 := h10.at 5 rfl
  have q6 := h10.at 6 rfl
  have q7 := h10.at 7 rfl
  have q8 := h10.at 8 rfl
  have q9 := h10.at 9 rfl
  have q10 := h10.at 10 rfl
  have q11 := h10.at 11 rfl
  have q12 := h10.at 12 rfl
  have q13 := h10.at 13 rfl
  have q14 := h10.at 14 rfl
  have q15 := h10.at 15 rfl
  have q16 := h10.at 16 rfl
  have q17 := h10.at 17 rfl
  have q18 := h10.at 18 rfl
  clear h10
  go_wp2_with fail
  refine (ndelete X w3 lo p rb c m G ar ac an x (HGG.out w3 HB.out) HGD.out (Nat.le_trans HLO0.out HB.out.size) (fun j hj => HXX.out j (Nat.le_trans HB.out.size hj))).mono ?_
  rintro e' w4 ⟨rfl, gg, bt⟩
  have H3 := Lib.hid gg
  have H4 := Lib.hid bt
  clear gg bt q0 q1 q2 q3 q4 q5 q6 q7 q8 q9 q10 q11 q12 q13 q14 q15 q16 q17 q18
  go_wp2
  go_ret
  refine ⟨.slice none 0 0, rfl, ⟨rb, c, by rw [wentS_lt HE6.out, doesG_lt HE6.out, HKQ.out, ← HA.out.1, ← HA.out.2.1, ← HA.out.2.2.1, ← HA.out.2.2.2]; exact GWn.nil H3.out, .inl rfl⟩, (fun k hk => by cases hk), (Buts.of (HB0.out.trans (HB.out.mono HB0.out.size))).trans H4.out.two⟩
set_option maxHeartbeats 8000000 in
set_option maxRecDepth 100000 in
theorem doesNK5 (X : Nat → Prop) (w : World) (lo p rb c m : Nat) (G : List Cls) (s : St) (hs : s.ok) (h : Gn w lo p rb c G X) (gd : Good G m) (hlo : lo ≤ w.heap.size) (hX : ∀ j, w.heap.size ≤ j → X j) (he : s.what % 10 < 6) (hq : s.what % 6 = 5) : DoesN X w lo p rb m G s := by
  unfold DoesN
  obtain ⟨w0, hw0⟩ : ∃ W0, W0 = w.alloc (.cells #[.int .u8 (s.what : Nat), .int .u8 (s.row : Nat), .int .u8 (s.col : Nat), .int .u8 (s.n : Nat), .int .u8 (s.m : Nat), .int .u8 (s.cell.ru : Nat), .int .u8 (s.cell.ms : Nat), .int .u8 (s.cell.at1 : Nat), .bool s.cell.wide, .bool s.cell.high, .bool s.odd] 40) := ⟨_, rfl⟩
  obtain ⟨b2, hb2⟩ : ∃ b, b = w.heap.size := ⟨_, rfl⟩
  have B0 : Below w.heap.size w w0 := by rw [hw0]; exact (Below.refl _ _).alloc (Nat.le_refl _) _
  have h2 : Lie w0 b2 [.int .u8 (s.what : Nat), .int .u8 (s.row : Nat), .int .u8 (s.col : Nat), .int .u8 (s.n : Nat), .int .u8 (s.m : Nat), .int .u8 (s.cell.ru : Nat), .int .u8 (s.cell.ms : Nat), .int .u8 (s.cell.at1 : Nat), .bool s.cell.wide, .bool s.cell.high, .bool s.odd] := by rw [hw0]; exact Lie.new w _ _ b2 hb2
  have HL := Lib.hid h2
  have HOK := Lib.hid hs
  have HGD := Lib.hid gd
  have HB0 := Lib.hid B0
  have HGG := Lib.hid (show ∀ W, Below w0.heap.size w0 W → Gn W lo p rb c G X from fun W k => (h.below B0).below k)
  have HLO0 := Lib.hid (Nat.le_trans hlo B0.size)
  have HXX := Lib.hid (show ∀ j, w0.heap.size ≤ j → X j from fun j hj => hX j (Nat.le_trans B0.size hj))
  have HN0 := Lib.hid gd.n0
  have HN6 := Lib.hid (show G.length ≤ 600 by have := gd.n1; omega)
  have HM0 := Lib.hid gd.m0
  have HM6 := Lib.hid (show m ≤ 600 by have := gd.m1; omega)
  have HL01 := Lib.hid (show (blS s).l = 0 ∨ (blS s).l = 1 from celD_lv s.cell)
  have HB := Lib.hid (show Below w0.heap.size w0 w0 from Below.refl _ _)
  have hnz : ((G.length : Int) == 0) = false := by rw [beq_eq_false_iff_ne]; have := gd.n0; omega
  have hpos : 0 < G.length := gd.n0
  have HE6 := Lib.hid he
  have HKQ := Lib.hid hq
  obtain ⟨e, hee⟩ : ∃ e, e = s.what % 10 := ⟨_, rfl⟩
  have r1 : Int.tmod (s.what : Int) 10 = (e : Int) := by rw [hee]; rfl
  have r1' : (s.what : Int) % 10 = (e : Int) := by omega
  have u1 : IntKind.u8.wrap (e : Int) = (e : Int) := by rw [IntKind.wrap_u8]; omega
  have n6 : ((e : Int) == 6) = false := by rw [beq_eq_false_iff_ne]; omega
  have n7 : ((e : Int) == 7) = false := by rw [beq_eq_false_iff_ne]; omega
  have n8 : ((e : Int) == 8) = false := by rw [beq_eq_false_iff_ne]; omega
  have n9 : ((e : Int) == 9) = false := by rw [beq_eq_false_iff_ne]; omega
  obtain ⟨ar, har⟩ : ∃ a, a = actR s G.length := ⟨_, rfl⟩
  obtain ⟨ac, hac⟩ : ∃ a, a = actC s m := ⟨_, rfl⟩
  obtain ⟨an, han⟩ : ∃ a, a = actN s := ⟨_, rfl⟩
  obtain ⟨x, hx⟩ : ∃ a, a = actX s := ⟨_, rfl⟩
  have HA := Lib.hid (show ar = actR s G.length ∧ ac = actC s m ∧ an = actN s ∧ x = actX s from ⟨har, hac, han, hx⟩)
  have HAV := Lib.hid (show actV s G.length m = .agg #[.int .i64 5, .int .i64 ar, .int .i64 ac, .int .i64 an, .int .i32 x.ru, .int .i32 x.m0, .int .i32 x.m1, .int .u8 x.k, .int .u8 x.a.fg.k, .int .u8 x.a.fg.r, .int .u8 x.a.fg.g, .int .u8 x.a.fg.b, .int .u8 x.a.bg.k, .int .u8 x.a.bg.r, .int .u8 x.a.bg.g, .int .u8 x.a.bg.b, .int .u16 (x.a.fl : Nat), .int .u8 x.l, .int .i32 769] by rw [har, hac, han, hx]; unfold actV actA; rw [hq]; rfl)
  have HXL := Lib.hid (show x.l = 0 ∨ x.l = 1 by rw [hx]; unfold actX; split <;> exact celD_lv s.cell)
  clear he hq hee har hac han hx
  have y0 := h2.at 0 rfl
  have y1 := h2.at 1 rfl
  have y2 := h2.at 2 rfl
  have y3 := h2.at 3 rfl
  have y4 := h2.at 4 rfl
  have y5 := h2.at 5 rfl
  have y6 := h2.at 6 rfl
  have y7 := h2.at 7 rfl
  have y8 := h2.at 8 rfl
  have y9 := h2.at 9 rfl
  have y10 := h2.at 10 rfl
  clear B0 h2 hs gd h hlo hX
  go_enter Tryz.func10, Tryz.ntmps10
  go_upto_region 1 with (fail)
  rw [← hw0, ← hb2]
  clear hw0 hb2
  go_wp2_with fail
  refine (gsize w0 lo p rb c m G (HGG.out w0 (Below.refl _ _)).gg HGD.out).mono ?_
  rintro e' w1 ⟨rfl, bb⟩
  clear y0 y1 y2 y3 y4 y5 y6 y7 y8 y9 y10
  replace HB := Lib.hid (HB.out.trans (bb.mono HB.out.size))
  clear bb
  have yb := HL.out.below HB.out
  have y0 := yb.at 0 rfl
  have y1 := yb.at 1 rfl
  have y2 := yb.at 2 rfl
  have y3 := yb.at 3 rfl
  have y4 := yb.at 4 rfl
  have y5 := yb.at 5 rfl
  have y6 := yb.at 6 rfl
  have y7 := yb.at 7 rfl
  have y8 := yb.at 8 rfl
  have y9 := yb.at 9 rfl
  have y10 := yb.at 10 rfl
  clear yb
  go_wp2_with fail
  refine (sact_any w1 s G.length m HOK.out HN0.out HN6.out HM0.out HM6.out).mono ?_
  rintro e' w2 ⟨rfl, bb⟩
  clear y0 y1 y2 y3 y4 y5 y6 y7 y8 y9 y10
  rw [HAV.out]
  replace HB := Lib.hid (HB.out.trans (bb.mono HB.out.size))
  have HB2 := Lib.hid HB.out.size
  clear bb
  obtain ⟨wa, hwa⟩ : ∃ X, X = w2.alloc (.cells #[.int .i64 0, .int .i64 0, .int .i64 0, .int .i64 0, .int .i32 0, .int .i32 0, .int .i32 0, .int .u8 0, .int .u8 0, .int .u8 0, .int .u8 0, .int .u8 0, .int .u8 0, .int .u8 0, .int .u8 0, .int .u8 0, .int .u16 0, .int .u8 0, .int .i32 0] 79) := ⟨_, rfl⟩
  obtain ⟨b10, hb10⟩ : ∃ b, b = w2.heap.size := ⟨_, rfl⟩
  have hv := World.alloc_heap_new w2 (.cells #[.int .i64 0, .int .i64 0, .int .i64 0, .int .i64 0, .int .i32 0, .int .i32 0, .int .i32 0, .int .u8 0, .int .u8 0, .int .u8 0, .int .u8 0, .int .u8 0, .int .u8 0, .int .u8 0, .int .u8 0, .int .u8 0, .int .u16 0, .int .u8 0, .int .i32 0] 79)
  rw [← hwa, ← hb10] at hv
  replace HB := Lib.hid (show Below w0.heap.size w0 wa by rw [hwa]; exact HB.out.alloc HB.out.size _)
  have HBV := Lib.hid (show w0.heap.size ≤ b10 by have := (Array.getElem?_eq_some_iff.1 hv).1; rw [hb10]; exact HB2.out)
  dsimp only
  go_step
  go_step
  go_step
  go_step
  rw [← hwa, ← hb10]
  clear hwa hb10
  try go_frame
  obtain ⟨w3, hw3⟩ : ∃ X, X = wa.setRow b10 #[.int .i64 5, .int .i64 ar, .int .i64 ac, .int .i64 an, .int .i32 x.ru, .int .i32 x.m0, .int .i32 x.m1, .int .u8 x.k, .int .u8 x.a.fg.k, .int .u8 x.a.fg.r, .int .u8 x.a.fg.g, .int .u8 x.a.fg.b, .int .u8 x.a.bg.k, .int .u8 x.a.bg.r, .int .u8 x.a.bg.g, .int .u8 x.a.bg.b, .int .u16 (x.a.fl : Nat), .int .u8 x.l, .int .i32 769] := ⟨_, rfl⟩
  have h10 : Lie w3 b10 [.int .i64 5, .int .i64 ar, .int .i64 ac, .int .i64 an, .int .i32 x.ru, .int .i32 x.m0, .int .i32 x.m1, .int .u8 x.k, .int .u8 x.a.fg.k, .int .u8 x.a.fg.r, .int .u8 x.a.fg.g, .int .u8 x.a.fg.b, .int .u8 x.a.bg.k, .int .u8 x.a.bg.r, .int .u8 x.a.bg.g, .int .u8 x.a.bg.b, .int .u16 (x.a.fl : Nat), .int .u8 x.l, .int .i32 769] := Lie.of (by rw [hw3]; exact setRow_heap wa b10 _ #[.int .i64 5, .int .i64 ar, .int .i64 ac, .int .i64 an, .int .i32 x.ru, .int .i32 x.m0, .int .i32 x.m1, .int .u8 x.k, .int .u8 x.a.fg.k, .int .u8 x.a.fg.r, .int .u8 x.a.fg.g, .int .u8 x.a.fg.b, .int .u8 x.a.bg.k, .int .u8 x.a.bg.r, .int .u8 x.a.bg.g, .int .u8 x.a.bg.b, .int .u16 (x.a.fl : Nat), .int .u8 x.l, .int .i32 769] _ _ hv)
  have HB3 := Lib.hid (show Below w0.heap.size w0 w3 by rw [hw3]; exact HB.out.trans ((But.setRow wa b10 #[.int .i64 5, .int .i64 ar, .int .i64 ac, .int .i64 an, .int .i32 x.ru, .int .i32 x.m0, .int .i32 x.m1, .int .u8 x.k, .int .u8 x.a.fg.k, .int .u8 x.a.fg.r, .int .u8 x.a.fg.g, .int .u8 x.a.fg.b, .int .u8 x.a.bg.k, .int .u8 x.a.bg.r, .int .u8 x.a.bg.g, .int .u8 x.a.bg.b, .int .u16 (x.a.fl : Nat), .int .u8 x.l, .int .i32 769]).below HBV.out HB.out.size))
  refine wpList_store_row rfl 79 (.tmp 10) (.tmp 73) rfl b10 #[.int .i64 5, .int .i64 ar, .int .i64 ac, .int .i64 an, .int .i32 x.ru, .int .i32 x.m0, .int .i32 x.m1, .int .u8 x.k, .int .u8 x.a.fg.k, .int .u8 x.a.fg.r, .int .u8 x.a.fg.g, .int .u8 x.a.fg.b, .int .u8 x.a.bg.k, .int .u8 x.a.bg.r, .int .u8 x.a.bg.g, .int .u8 x.a.bg.b, .int .u16 (x.a.fl : Nat), .int .u8 x.l, .int .i32 769] rfl rfl 79 _ hv (by kernel_rfl) rfl (by simp [Value.oneCell']) ?_
  rw [← hw3]
  replace HB := HB3
  clear hv HBV HB3 HB2 hw3
  try simp only [Act.put]
  go_upto_region 18 with (fail)
  have q0 := h10.at 0 rfl
  have q1 := h10.at 1 rfl
  have q2 := h10.at 2 rfl
  have q3 := h10.at 3 rfl
  have q4 := h10.at 4 rfl
  have q5 := h10.at 5 rfl
  have q6 := h10.at 6 rfl
  have q7 := h10.at 7 rfl
  have q8 := h10.at 8 rfl
  have q9 := h10.at 9 rfl
  have q10 := h10.at 10 rfl
  have q11 := h10.at 11 rfl
  have q12 := h10.at 12 rfl
  have q13 := h10.at 13 rfl
  have q14 := h10.at 14 rfl
  have q15 := h10.at 15 rfl
  have q16 := h10.at 16 rfl
  have q17 := h10.at 17 rfl
  have q18 := h10.at 18 rfl
  clear h10
  go_wp2_with fail
  refine (nerase X w3 lo p rb c m G ar ac an x (HGG.out w3 HB.out) HGD.out (Nat.le_trans HLO0.out HB.out.size) (fun j hj => HXX.out j (Nat.le_trans HB.out.size hj))).mono ?_
  rintro e' w4 ⟨rfl, gg, bt⟩
  have H3 := Lib.hid gg
  have H4 := Lib.hid bt
  clear gg bt q0 q1 q2 q3 q4 q5 q6 q7 q8 q9 q10 q11 q12 q13 q14 q15 q16 q17 q18
  go_wp2
  go_ret
  refine ⟨.slice none 0 0, rfl, ⟨rb, c, by rw [wentS_lt HE6.out, doesG_lt HE6.out, HKQ.out, ← HA.out.1, ← HA.out.2.1, ← HA.out.2.2.1, ← HA.out.2.2.2]; exact GWn.nil H3.out, .inl rfl⟩, (fun k hk => by cases hk), (Buts.of (HB0.out.trans (HB.out.mono HB0.out.size))).trans H4.out.two⟩
end Go.Proofs.YtdeahnphcfcfpaaGreat.Lab
