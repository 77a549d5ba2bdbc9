/- What an act does, by the program. -/
import Derived.Test.YtlaafmjiiiaceaaDoorRcAct
import Derived.Test.YtlaafmjiiiaceaaDoorRcFill
import Derived.Test.YtlaafmjiiiaceaaDoorRcCopy
import Derived.Test.YtlaafmjiiiaceaaDoorRpBlank
set_option linter.unusedVariables false
namespace Go.Proofs.YtlaafmjiiiaceaaDoor.Lab
open Go Go.RowKit

def doesG (a : Ac) (G : List Cls) (m : Nat) : List Cls :=
  if a.what % 8 < 2 then (if ofI (cellM a).ru = 1 then fillG G (clipM (rectM a) G.length m) (cellM a) else G)
  else if a.what % 8 < 4 then fillG G (clipM (rectM a) G.length m) (blankM (cellM a).a (cellM a).l)
  else copyR G m (rectM a) (smallM a.p) (smallM a.q)
set_option maxHeartbeats 16000000 in
set_option maxRecDepth 100000 in
theorem does_any (w : World) (a : Ac) (v : Value) (G : List Cls) (U : Nat → Value) (m : Nat) (ha : a.ok) (h : GSee w v G U) (hg : GG G m) (hT : Tabs w) : Calls Tryd.prog 10 #[acV a, v] w (Makes12 w (doesG a G m)) := by
  obtain ⟨va, vc, hv⟩ := h.shape
  obtain ⟨n, hn⟩ : ∃ n, n = G.length := ⟨_, rfl⟩
  rw [← hn] at hv
  subst hv
  have HGS := Lib.hid h
  have HGG := Lib.hid hg
  have HTT := Lib.hid hT
  obtain ⟨b1, hb1⟩ : ∃ b, b = w.heap.size := ⟨_, rfl⟩
  obtain ⟨w0, hw0⟩ : ∃ x, x = w.alloc (.cells #[.int .u8 (a.what : Nat), .int .i64 a.r.t, .int .i64 a.r.l, .int .i64 a.r.n, .int .i64 a.r.c, .int .i64 a.p, .int .i64 a.q, .int .u8 (a.d.ru : Nat), .int .u8 (a.d.ms : Nat), .int .u8 (a.d.at1 : Nat), .bool a.d.wide, .bool a.d.high, .int .u8 (a.ru : Nat)] 36) := ⟨_, rfl⟩
  have HB0 := Lib.hid (show Below w.heap.size w w0 by rw [hw0]; exact (Below.refl _ _).alloc (Nat.le_refl _) _)
  have H1 := Lib.hid (show Lie w0 b1 (cells13 a) by rw [hw0]; exact Lie.new w _ _ b1 hb1)
  have C1 := Lib.hid (fun W => rect1_any W a ha)
  have C2 := Lib.hid (fun W => cell12_any W a ha)
  have hf3 : ∀ W : World, (Instr.field 62 (celV (cellM a)) 3).run Tryd.prog W = .ok (attV (cellM a).a) W := fun _ => by kernel_rfl
  have hf4 : ∀ W : World, (Instr.field 62 (celV (cellM a)) 4).run Tryd.prog W = .ok (.int .u8 (cellM a).l) W := fun _ => by kernel_rfl
  have C3 := Lib.hid (fun W => to_any W a ha)
  have HKO := Lib.hid (show (rectM a).Ok ∧ I64 (smallM a.p) ∧ I64 (smallM a.q) from ⟨rectM_ok ha, small_ok ha.p, small_ok ha.q⟩)
  have HWH := Lib.hid (show a.what < 256 from ha.w)
  obtain ⟨k, hk⟩ : ∃ k, k = a.what % 8 := ⟨_, rfl⟩
  obtain ⟨K, hK⟩ : ∃ K, K = doesG a G m := ⟨_, rfl⟩
  have HKD := Lib.hid (show K = if k < 2 then (if ofI (cellM a).ru = 1 then fillG G (clipM (rectM a) G.length m) (cellM a) else G)
    else if k < 4 then fillG G (clipM (rectM a) G.length m) (blankM (cellM a).a (cellM a).l)
    else copyR G m (rectM a) (smallM a.p) (smallM a.q) by rw [hK, hk]; rfl)
  have HK8 := Lib.hid (show k < 8 ∧ k = a.what % 8 by omega)
  rw [← hK]
  clear ha hk hK hn h hg hT
  have KEEP := Lib.hid (show ∀ W, Below w0.heap.size w0 W → (fun wx => wx.cell? ⟨b1, 0, none⟩ = some (.int .u8 (a.what : Nat)) ∧ wx.cell? ⟨b1, 1, none⟩ = some (.int .i64 a.r.t) ∧ wx.cell? ⟨b1, 2, none⟩ = some (.int .i64 a.r.l) ∧ wx.cell? ⟨b1, 3, none⟩ = some (.int .i64 a.r.n) ∧ wx.cell? ⟨b1, 4, none⟩ = some (.int .i64 a.r.c) ∧ wx.cell? ⟨b1, 5, none⟩ = some (.int .i64 a.p) ∧ wx.cell? ⟨b1, 6, none⟩ = some (.int .i64 a.q) ∧ wx.cell? ⟨b1, 7, none⟩ = some (.int .u8 (a.d.ru : Nat)) ∧ wx.cell? ⟨b1, 8, none⟩ = some (.int .u8 (a.d.ms : Nat)) ∧ wx.cell? ⟨b1, 9, none⟩ = some (.int .u8 (a.d.at1 : Nat)) ∧ wx.cell? ⟨b1, 10, none⟩ = some (.bool a.d.wide) ∧ wx.cell? ⟨b1, 11, none⟩ = some (.bool a.d.high) ∧ wx.cell? ⟨b1, 12, none⟩ = some (.int .u8 (a.ru : Nat))) W from fun W kb => by
    have h := H1.out.below kb
    exact ⟨h.at 0 rfl, h.at 1 rfl, h.at 2 rfl, h.at 3 rfl, h.at 4 rfl, h.at 5 rfl, h.at 6 rfl, h.at 7 rfl, h.at 8 rfl, h.at 9 rfl, h.at 10 rfl, h.at 11 rfl, h.at 12 rfl⟩)
  obtain ⟨a0, a1, a2, a3, a4, a5, a6, a7, a8, a9, a10, a11, a12⟩ := KEEP.out w0 (Below.refl _ _)
  have u1 : ((a.what : Nat) : Int).tmod 8 = (k : Int) := by have := HK8.out; rw [this.2]; rfl
  have u2 : ((a.what : Nat) : Int) % 8 = (k : Int) := by have := HK8.out; rw [this.2]; rfl
  have u3 : IntKind.u8.wrap (k : Int) = (k : Int) := by have := HK8.out; rw [IntKind.wrap_u8]; omega
  have hk8 : k < 8 := HK8.out.1
  go_enter Tryd.func10, Tryd.ntmps10
  go_upto_region 1 with (fail)
  rw [← hw0, ← hb1]
  clear hw0 hb1
  match k, hk8 with
  | 0, _ =>
    have HKE := Lib.hid (HKD.out.trans (if_pos (by decide)))
    go_wp2_with fail
    clear a0 a1 a2 a3 a4 a5 a6 a7 a8 a9 a10 a11 a12 u1 u2 u3
    refine wp_region_held_drew (S := (fun wx => wx.cell? ⟨b1, 0, none⟩ = some (.int .u8 (a.what : Nat)) ∧ wx.cell? ⟨b1, 1, none⟩ = some (.int .i64 a.r.t) ∧ wx.cell? ⟨b1, 2, none⟩ = some (.int .i64 a.r.l) ∧ wx.cell? ⟨b1, 3, none⟩ = some (.int .i64 a.r.n) ∧ wx.cell? ⟨b1, 4, none⟩ = some (.int .i64 a.r.c) ∧ wx.cell? ⟨b1, 5, none⟩ = some (.int .i64 a.p) ∧ wx.cell? ⟨b1, 6, none⟩ = some (.int .i64 a.q) ∧ wx.cell? ⟨b1, 7, none⟩ = some (.int .u8 (a.d.ru : Nat)) ∧ wx.cell? ⟨b1, 8, none⟩ = some (.int .u8 (a.d.ms : Nat)) ∧ wx.cell? ⟨b1, 9, none⟩ = some (.int .u8 (a.d.at1 : Nat)) ∧ wx.cell? ⟨b1, 10, none⟩ = some (.bool a.d.wide) ∧ wx.cell? ⟨b1, 11, none⟩ = some (.bool a.d.high) ∧ wx.cell? ⟨b1, 12, none⟩ = some (.int .u8 (a.ru : Nat)))) (by kernel_rfl) ?_ (fun hHeld => ?_)
    · exact KEEP.out _ ((Below.refl _ _).drew)
    obtain ⟨wd, hwd⟩ : ∃ X, X = w0.drew := ⟨_, rfl⟩
    have HX := Lib.hid (show Below w0.heap.size w0 wd by rw [hwd]; exact (Below.refl _ _).drew)
    replace hHeld := KEEP.out _ HX.out
    rw [← hwd]
    clear hwd
    refine tk 0 rfl (fun w hSw => by (try dsimp only at hSw); go_simp; try with_reducible rfl) ?_
    go_frame
    refine tk 1 rfl (fun w hSw => by (try dsimp only at hSw); go_simp; try with_reducible rfl) ?_
    go_frame
    refine tk 3 rfl (fun w hSw => by (try dsimp only at hSw); go_simp; try with_reducible rfl) ?_
    go_frame
    refine do_at (i := 2) rfl (by kernel_rfl) (by kernel_rfl) (fun K hK => ?_)
    go_simp
    refine (C1.out _).mono ?_
    rintro e w1 ⟨rfl, b2⟩
    replace HX := Lib.hid (HX.out.trans (b2.mono HX.out.size))
    clear b2
    go_wp2_with fail
    refine hK.out _ _ ?_ (fun hHeld => ?_)
    · exact KEEP.out _ HX.out
    clear hK K
    try go_frame
    refine do_at (i := 4) rfl (by kernel_rfl) (by kernel_rfl) (fun K hK => ?_)
    go_simp
    refine (C2.out _).mono ?_
    rintro e w2 ⟨rfl, b2⟩
    replace HX := Lib.hid (HX.out.trans (b2.mono HX.out.size))
    clear b2
    go_wp2_with fail
    refine hK.out _ _ ?_ (fun hHeld => ?_)
    · exact KEEP.out _ HX.out
    clear hK K
    try go_frame
    refine do_at (i := 5) rfl (by kernel_rfl) (by kernel_rfl) (fun K hK => ?_)
    go_simp
    refine (fill12_any w2 _ G U m (rectM a) (cellM a) (HGS.out.below (HB0.out.trans (HX.out.mono HB0.out.size))) HGG.out HKO.out.1 (HTT.out.below (HB0.out.trans (HX.out.mono HB0.out.size)))).mono ?_
    rintro e w3 ⟨v3, U3, rfl, g3, b2⟩
    have HG3 := Lib.hid g3
    clear g3
    replace HX := Lib.hid (HX.out.trans (b2.mono HX.out.size))
    clear b2
    go_wp2_with fail
    refine hK.out _ _ ?_ (fun hHeld => ?_)
    · exact KEEP.out _ HX.out
    clear hK K
    try go_frame
    refine tk 6 rfl (fun w hSw => by (try dsimp only at hSw); go_simp; try with_reducible rfl) ?_
    go_frame
    refine wpAnyH_done (by kernel_rfl) ?_ _
    have HBE := Lib.hid (HB0.out.trans (HX.out.mono HB0.out.size))
    clear hHeld
    go_wp2
    go_ret
    exact ⟨v3, U3, rfl, by rw [HKE.out]; exact HG3.out, HBE.out⟩
  | 1, _ =>
    have HKE := Lib.hid (HKD.out.trans (if_pos (by decide)))
    go_wp2_with fail
    clear a0 a1 a2 a3 a4 a5 a6 a7 a8 a9 a10 a11 a12 u1 u2 u3
    refine wp_region_held_drew (S := (fun wx => wx.cell? ⟨b1, 0, none⟩ = some (.int .u8 (a.what : Nat)) ∧ wx.cell? ⟨b1, 1, none⟩ = some (.int .i64 a.r.t) ∧ wx.cell? ⟨b1, 2, none⟩ = some (.int .i64 a.r.l) ∧ wx.cell? ⟨b1, 3, none⟩ = some (.int .i64 a.r.n) ∧ wx.cell? ⟨b1, 4, none⟩ = some (.int .i64 a.r.c) ∧ wx.cell? ⟨b1, 5, none⟩ = some (.int .i64 a.p) ∧ wx.cell? ⟨b1, 6, none⟩ = some (.int .i64 a.q) ∧ wx.cell? ⟨b1, 7, none⟩ = some (.int .u8 (a.d.ru : Nat)) ∧ wx.cell? ⟨b1, 8, none⟩ = some (.int .u8 (a.d.ms : Nat)) ∧ wx.cell? ⟨b1, 9, none⟩ = some (.int .u8 (a.d.at1 : Nat)) ∧ wx.cell? ⟨b1, 10, none⟩ = some (.bool a.d.wide) ∧ wx.cell? ⟨b1, 11, none⟩ = some (.bool a.d.high) ∧ wx.cell? ⟨b1, 12, none⟩ = some (.int .u8 (a.ru : Nat)))) (by kernel_rfl) ?_ (fun hHeld => ?_)
    · exact KEEP.out _ ((Below.refl _ _).drew)
    obtain ⟨wd, hwd⟩ : ∃ X, X = w0.drew := ⟨_, rfl⟩
    have HX := Lib.hid (show Below w0.heap.size w0 wd by rw [hwd]; exact (Below.refl _ _).drew)
    replace hHeld := KEEP.out _ HX.out
    rw [← hwd]
    clear hwd
    refine tk 0 rfl (fun w hSw => by (try dsimp only at hSw); go_simp; try with_reducible rfl) ?_
    go_frame
    refine tk 1 rfl (fun w hSw => by (try dsimp only at hSw); go_simp; try with_reducible rfl) ?_
    go_frame
    refine tk 3 rfl (fun w hSw => by (try dsimp only at hSw); go_simp; try with_reducible rfl) ?_
    go_frame
    refine do_at (i := 2) rfl (by kernel_rfl) (by kernel_rfl) (fun K hK => ?_)
    go_simp
    refine (C1.out _).mono ?_
    rintro e w1 ⟨rfl, b2⟩
    replace HX := Lib.hid (HX.out.trans (b2.mono HX.out.size))
    clear b2
    go_wp2_with fail
    refine hK.out _ _ ?_ (fun hHeld => ?_)
    · exact KEEP.out _ HX.out
    clear hK K
    try go_frame
    refine do_at (i := 4) rfl (by kernel_rfl) (by kernel_rfl) (fun K hK => ?_)
    go_simp
    refine (C2.out _).mono ?_
    rintro e w2 ⟨rfl, b2⟩
    replace HX := Lib.hid (HX.out.trans (b2.mono HX.out.size))
    clear b2
    go_wp2_with fail
    refine hK.out _ _ ?_ (fun hHeld => ?_)
    · exact KEEP.out _ HX.out
    clear hK K
    try go_frame
    refine do_at (i := 5) rfl (by kernel_rfl) (by kernel_rfl) (fun K hK => ?_)
    go_simp
    refine (fill12_any w2 _ G U m (rectM a) (cellM a) (HGS.out.below (HB0.out.trans (HX.out.mono HB0.out.size))) HGG.out HKO.out.1 (HTT.out.below (HB0.out.trans (HX.out.mono HB0.out.size)))).mono ?_
    rintro e w3 ⟨v3, U3, rfl, g3, b2⟩
    have HG3 := Lib.hid g3
    clear g3
    replace HX := Lib.hid (HX.out.trans (b2.mono HX.out.size))
    clear b2
    go_wp2_with fail
    refine hK.out _ _ ?_ (fun hHeld => ?_)
    · exact KEEP.out _ HX.out
    clear hK K
    try go_frame
    refine tk 6 rfl (fun w hSw => by (try dsimp only at hSw); go_simp; try with_reducible rfl) ?_
    go_frame
    refine wpAnyH_done (by kernel_rfl) ?_ _
    have HBE := Lib.hid (HB0.out.trans (HX.out.mono HB0.out.size))
    clear hHeld
    go_wp2
    go_ret
    exact ⟨v3, U3, rfl, by rw [HKE.out]; exact HG3.out, HBE.out⟩
  | 2, _ =>
    have HKE := Lib.hid (HKD.out.trans ((if_neg (by decide)).trans (if_pos (by decide))))
    go_wp2_with fail
    clear a0 a1 a2 a3 a4 a5 a6 a7 a8 a9 a10 a11 a12 u1 u2 u3
    refine wp_region_held_drew (S := (fun wx => wx.cell? ⟨b1, 0, none⟩ = some (.int .u8 (a.what : Nat)) ∧ wx.cell? ⟨b1, 1, none⟩ = some (.int .i64 a.r.t) ∧ wx.cell? ⟨b1, 2, none⟩ = some (.int .i64 a.r.l) ∧ wx.cell? ⟨b1, 3, none⟩ = some (.int .i64 a.r.n) ∧ wx.cell? ⟨b1, 4, none⟩ = some (.int .i64 a.r.c) ∧ wx.cell? ⟨b1, 5, none⟩ = some (.int .i64 a.p) ∧ wx.cell? ⟨b1, 6, none⟩ = some (.int .i64 a.q) ∧ wx.cell? ⟨b1, 7, none⟩ = some (.int .u8 (a.d.ru : Nat)) ∧ wx.cell? ⟨b1, 8, none⟩ = some (.int .u8 (a.d.ms : Nat)) ∧ wx.cell? ⟨b1, 9, none⟩ = some (.int .u8 (a.d.at1 : Nat)) ∧ wx.cell? ⟨b1, 10, none⟩ = some (.bool a.d.wide) ∧ wx.cell? ⟨b1, 11, none⟩ = some (.bool a.d.high) ∧ wx.cell? ⟨b1, 12, none⟩ = some (.int .u8 (a.ru : Nat)))) (by kernel_rfl) ?_ (fun hHeld => ?_)
    · exact KEEP.out _ ((Below.refl _ _).drew)
    obtain ⟨wd, hwd⟩ : ∃ X, X = w0.drew := ⟨_, rfl⟩
    have HX := Lib.hid (show Below w0.heap.size w0 wd by rw [hwd]; exact (Below.refl _ _).drew)
    replace hHeld := KEEP.out _ HX.out
    rw [← hwd]
    clear hwd
    refine tk 0 rfl (fun w hSw => by (try dsimp only at hSw); go_simp; try with_reducible rfl) ?_
    go_frame
    refine tk 1 rfl (fun w hSw => by (try dsimp only at hSw); go_simp; try with_reducible rfl) ?_
    go_frame
    refine tk 3 rfl (fun w hSw => by (try dsimp only at hSw); go_simp; try with_reducible rfl) ?_
    go_frame
    refine tk 6 rfl (fun w hSw => by (try dsimp only at hSw); go_simp; try with_reducible rfl) ?_
    go_frame
    refine do_at (i := 2) rfl (by kernel_rfl) (by kernel_rfl) (fun K hK => ?_)
    go_simp
    refine (C1.out _).mono ?_
    rintro e w1 ⟨rfl, b2⟩
    replace HX := Lib.hid (HX.out.trans (b2.mono HX.out.size))
    clear b2
    go_wp2_with fail
    refine hK.out _ _ ?_ (fun hHeld => ?_)
    · exact KEEP.out _ HX.out
    clear hK K
    try go_frame
    refine do_at (i := 4) rfl (by kernel_rfl) (by kernel_rfl) (fun K hK => ?_)
    go_simp
    refine (C2.out _).mono ?_
    rintro e w2 ⟨rfl, b2⟩
    replace HX := Lib.hid (HX.out.trans (b2.mono HX.out.size))
    clear b2
    go_wp2_with fail
    refine hK.out _ _ ?_ (fun hHeld => ?_)
    · exact KEEP.out _ HX.out
    clear hK K
    try go_frame
    refine tk 5 rfl (fun w hSw => by (try dsimp only at hSw); go_simp; try with_reducible rfl) ?_
    go_frame
    refine do_at (i := 7) rfl (by kernel_rfl) (by kernel_rfl) (fun K hK => ?_)
    go_simp
    refine (C2.out _).mono ?_
    rintro e w4 ⟨rfl, b2⟩
    replace HX := Lib.hid (HX.out.trans (b2.mono HX.out.size))
    clear b2
    go_wp2_with fail
    refine hK.out _ _ ?_ (fun hHeld => ?_)
    · exact KEEP.out _ HX.out
    clear hK K
    try go_frame
    refine tk 8 rfl (fun w hSw => by (try dsimp only at hSw); go_simp; try with_reducible rfl) ?_
    go_frame
    refine do_at (i := 9) rfl (by kernel_rfl) (by kernel_rfl) (fun K hK => ?_)
    go_simp
    refine (blank_any w4 (cellM a).a (cellM a).l).mono ?_
    rintro e w5 ⟨rfl, b2⟩
    replace HX := Lib.hid (HX.out.trans (b2.mono HX.out.size))
    clear b2
    go_wp2_with fail
    refine hK.out _ _ ?_ (fun hHeld => ?_)
    · exact KEEP.out _ HX.out
    clear hK K
    try go_frame
    refine do_at (i := 10) rfl (by kernel_rfl) (by kernel_rfl) (fun K hK => ?_)
    go_simp
    refine (erase12_any w5 _ G U m (rectM a) (blankM (cellM a).a (cellM a).l) (HGS.out.below (HB0.out.trans (HX.out.mono HB0.out.size))) HGG.out HKO.out.1).mono ?_
    rintro e w3 ⟨v3, U3, rfl, g3, b2⟩
    have HG3 := Lib.hid g3
    clear g3
    replace HX := Lib.hid (HX.out.trans (b2.mono HX.out.size))
    clear b2
    go_wp2_with fail
    refine hK.out _ _ ?_ (fun hHeld => ?_)
    · exact KEEP.out _ HX.out
    clear hK K
    try go_frame
    refine tk 11 rfl (fun w hSw => by (try dsimp only at hSw); go_simp; try with_reducible rfl) ?_
    go_frame
    refine wpAnyH_done (by kernel_rfl) ?_ _
    have HBE := Lib.hid (HB0.out.trans (HX.out.mono HB0.out.size))
    clear hHeld
    go_wp2
    go_ret
    exact ⟨v3, U3, rfl, by rw [HKE.out]; exact HG3.out, HBE.out⟩
  | 3, _ =>
    have HKE := Lib.hid (HKD.out.trans ((if_neg (by decide)).trans (if_pos (by decide))))
    go_wp2_with fail
    clear a0 a1 a2 a3 a4 a5 a6 a7 a8 a9 a10 a11 a12 u1 u2 u3
    refine wp_region_held_drew (S := (fun wx => wx.cell? ⟨b1, 0, none⟩ = some (.int .u8 (a.what : Nat)) ∧ wx.cell? ⟨b1, 1, none⟩ = some (.int .i64 a.r.t) ∧ wx.cell? ⟨b1, 2, none⟩ = some (.int .i64 a.r.l) ∧ wx.cell? ⟨b1, 3, none⟩ = some (.int .i64 a.r.n) ∧ wx.cell? ⟨b1, 4, none⟩ = some (.int .i64 a.r.c) ∧ wx.cell? ⟨b1, 5, none⟩ = some (.int .i64 a.p) ∧ wx.cell? ⟨b1, 6, none⟩ = some (.int .i64 a.q) ∧ wx.cell? ⟨b1, 7, none⟩ = some (.int .u8 (a.d.ru : Nat)) ∧ wx.cell? ⟨b1, 8, none⟩ = some (.int .u8 (a.d.ms : Nat)) ∧ wx.cell? ⟨b1, 9, none⟩ = some (.int .u8 (a.d.at1 : Nat)) ∧ wx.cell? ⟨b1, 10, none⟩ = some (.bool a.d.wide) ∧ wx.cell? ⟨b1, 11, none⟩ = some (.bool a.d.high) ∧ wx.cell? ⟨b1, 12, none⟩ = some (.int .u8 (a.ru : Nat)))) (by kernel_rfl) ?_ (fun hHeld => ?_)
    · exact KEEP.out _ ((Below.refl _ _).drew)
    obtain ⟨wd, hwd⟩ : ∃ X, X = w0.drew := ⟨_, rfl⟩
    have HX := Lib.hid (show Below w0.heap.size w0 wd by rw [hwd]; exact (Below.refl _ _).drew)
    replace hHeld := KEEP.out _ HX.out
    rw [← hwd]
    clear hwd
    refine tk 0 rfl (fun w hSw => by (try dsimp only at hSw); go_simp; try with_reducible rfl) ?_
    go_frame
    refine tk 1 rfl (fun w hSw => by (try dsimp only at hSw); go_simp; try with_reducible rfl) ?_
    go_frame
    refine tk 3 rfl (fun w hSw => by (try dsimp only at hSw); go_simp; try with_reducible rfl) ?_
    go_frame
    refine tk 6 rfl (fun w hSw => by (try dsimp only at hSw); go_simp; try with_reducible rfl) ?_
    go_frame
    refine do_at (i := 2) rfl (by kernel_rfl) (by kernel_rfl) (fun K hK => ?_)
    go_simp
    refine (C1.out _).mono ?_
    rintro e w1 ⟨rfl, b2⟩
    replace HX := Lib.hid (HX.out.trans (b2.mono HX.out.size))
    clear b2
    go_wp2_with fail
    refine hK.out _ _ ?_ (fun hHeld => ?_)
    · exact KEEP.out _ HX.out
    clear hK K
    try go_frame
    refine do_at (i := 4) rfl (by kernel_rfl) (by kernel_rfl) (fun K hK => ?_)
    go_simp
    refine (C2.out _).mono ?_
    rintro e w2 ⟨rfl, b2⟩
    replace HX := Lib.hid (HX.out.trans (b2.mono HX.out.size))
    clear b2
    go_wp2_with fail
    refine hK.out _ _ ?_ (fun hHeld => ?_)
    · exact KEEP.out _ HX.out
    clear hK K
    try go_frame
    refine tk 5 rfl (fun w hSw => by (try dsimp only at hSw); go_simp; try with_reducible rfl) ?_
    go_frame
    refine do_at (i := 7) rfl (by kernel_rfl) (by kernel_rfl) (fun K hK => ?_)
    go_simp
    refine (C2.out _).mono ?_
    rintro e w4 ⟨rfl, b2⟩
    replace HX := Lib.hid (HX.out.trans (b2.mono HX.out.size))
    clear b2
    go_wp2_with fail
    refine hK.out _ _ ?_ (fun hHeld => ?_)
    · exact KEEP.out _ HX.out
    clear hK K
    try go_frame
    refine tk 8 rfl (fun w hSw => by (try dsimp only at hSw); go_simp; try with_reducible rfl) ?_
    go_frame
    refine do_at (i := 9) rfl (by kernel_rfl) (by kernel_rfl) (fun K hK => ?_)
    go_simp
    refine (blank_any w4 (cellM a).a (cellM a).l).mono ?_
    rintro e w5 ⟨rfl, b2⟩
    replace HX := Lib.hid (HX.out.trans (b2.mono HX.out.size))
    clear b2
    go_wp2_with fail
    refine hK.out _ _ ?_ (fun hHeld => ?_)
    · exact KEEP.out _ HX.out
    clear hK K
    try go_frame
    refine do_at (i := 10) rfl (by kernel_rfl) (by kernel_rfl) (fun K hK => ?_)
    go_simp
    refine (erase12_any w5 _ G U m (rectM a) (blankM (cellM a).a (cellM a).l) (HGS.out.below (HB0.out.trans (HX.out.mono HB0.out.size))) HGG.out HKO.out.1).mono ?_
    rintro e w3 ⟨v3, U3, rfl, g3, b2⟩
    have HG3 := Lib.hid g3
    clear g3
    replace HX := Lib.hid (HX.out.trans (b2.mono HX.out.size))
    clear b2
    go_wp2_with fail
    refine hK.out _ _ ?_ (fun hHeld => ?_)
    · exact KEEP.out _ HX.out
    clear hK K
    try go_frame
    refine tk 11 rfl (fun w hSw => by (try dsimp only at hSw); go_simp; try with_reducible rfl) ?_
    go_frame
    refine wpAnyH_done (by kernel_rfl) ?_ _
    have HBE := Lib.hid (HB0.out.trans (HX.out.mono HB0.out.size))
    clear hHeld
    go_wp2
    go_ret
    exact ⟨v3, U3, rfl, by rw [HKE.out]; exact HG3.out, HBE.out⟩
  | 4, _ =>
    have HKE := Lib.hid (HKD.out.trans ((if_neg (by decide)).trans (if_neg (by decide))))
    go_wp2_with fail
    clear a0 a1 a2 a3 a4 a5 a6 a7 a8 a9 a10 a11 a12 u1 u2 u3
    refine wp_region_held_drew (S := (fun wx => wx.cell? ⟨b1, 0, none⟩ = some (.int .u8 (a.what : Nat)) ∧ wx.cell? ⟨b1, 1, none⟩ = some (.int .i64 a.r.t) ∧ wx.cell? ⟨b1, 2, none⟩ = some (.int .i64 a.r.l) ∧ wx.cell? ⟨b1, 3, none⟩ = some (.int .i64 a.r.n) ∧ wx.cell? ⟨b1, 4, none⟩ = some (.int .i64 a.r.c) ∧ wx.cell? ⟨b1, 5, none⟩ = some (.int .i64 a.p) ∧ wx.cell? ⟨b1, 6, none⟩ = some (.int .i64 a.q) ∧ wx.cell? ⟨b1, 7, none⟩ = some (.int .u8 (a.d.ru : Nat)) ∧ wx.cell? ⟨b1, 8, none⟩ = some (.int .u8 (a.d.ms : Nat)) ∧ wx.cell? ⟨b1, 9, none⟩ = some (.int .u8 (a.d.at1 : Nat)) ∧ wx.cell? ⟨b1, 10, none⟩ = some (.bool a.d.wide) ∧ wx.cell? ⟨b1, 11, none⟩ = some (.bool a.d.high) ∧ wx.cell? ⟨b1, 12, none⟩ = some (.int .u8 (a.ru : Nat)))) (by kernel_rfl) ?_ (fun hHeld => ?_)
    · exact KEEP.out _ ((Below.refl _ _).drew)
    obtain ⟨wd, hwd⟩ : ∃ X, X = w0.drew := ⟨_, rfl⟩
    have HX := Lib.hid (show Below w0.heap.size w0 wd by rw [hwd]; exact (Below.refl _ _).drew)
    replace hHeld := KEEP.out _ HX.out
    rw [← hwd]
    clear hwd
    refine tk 0 rfl (fun w hSw => by (try dsimp only at hSw); go_simp; try with_reducible rfl) ?_
    go_frame
    refine tk 1 rfl (fun w hSw => by (try dsimp only at hSw); go_simp; try with_reducible rfl) ?_
    go_frame
    refine tk 3 rfl (fun w hSw => by (try dsimp only at hSw); go_simp; try with_reducible rfl) ?_
    go_frame
    refine do_at (i := 2) rfl (by kernel_rfl) (by kernel_rfl) (fun K hK => ?_)
    go_simp
    refine (C1.out _).mono ?_
    rintro e w1 ⟨rfl, b2⟩
    replace HX := Lib.hid (HX.out.trans (b2.mono HX.out.size))
    clear b2
    go_wp2_with fail
    refine hK.out _ _ ?_ (fun hHeld => ?_)
    · exact KEEP.out _ HX.out
    clear hK K
    try go_frame
    refine do_at (i := 4) rfl (by kernel_rfl) (by kernel_rfl) (fun K hK => ?_)
    go_simp
    refine (C3.out _).mono ?_
    rintro e w2 ⟨rfl, b2⟩
    replace HX := Lib.hid (HX.out.trans (b2.mono HX.out.size))
    clear b2
    go_wp2_with fail
    refine hK.out _ _ ?_ (fun hHeld => ?_)
    · exact KEEP.out _ HX.out
    clear hK K
    try go_frame
    refine do_at (i := 5) rfl (by kernel_rfl) (by kernel_rfl) (fun K hK => ?_)
    go_simp
    refine (copy12_any w2 _ G U m (rectM a) (smallM a.p) (smallM a.q) (HGS.out.below (HB0.out.trans (HX.out.mono HB0.out.size))) HGG.out HKO.out.1 HKO.out.2.1 HKO.out.2.2).mono ?_
    rintro e w3 ⟨v3, U3, rfl, g3, b2⟩
    have HG3 := Lib.hid g3
    clear g3
    replace HX := Lib.hid (HX.out.trans (b2.mono HX.out.size))
    clear b2
    go_wp2_with fail
    refine hK.out _ _ ?_ (fun hHeld => ?_)
    · exact KEEP.out _ HX.out
    clear hK K
    try go_frame
    refine tk 6 rfl (fun w hSw => by (try dsimp only at hSw); go_simp; try with_reducible rfl) ?_
    go_frame
    refine wpAnyH_done (by kernel_rfl) ?_ _
    have HBE := Lib.hid (HB0.out.trans (HX.out.mono HB0.out.size))
    clear hHeld
    go_wp2
    go_ret
    exact ⟨v3, U3, rfl, by rw [HKE.out]; exact HG3.out, HBE.out⟩
  | 5, _ =>
    have HKE := Lib.hid (HKD.out.trans ((if_neg (by decide)).trans (if_neg (by decide))))
    go_wp2_with fail
    clear a0 a1 a2 a3 a4 a5 a6 a7 a8 a9 a10 a11 a12 u1 u2 u3
    refine wp_region_held_drew (S := (fun wx => wx.cell? ⟨b1, 0, none⟩ = some (.int .u8 (a.what : Nat)) ∧ wx.cell? ⟨b1, 1, none⟩ = some (.int .i64 a.r.t) ∧ wx.cell? ⟨b1, 2, none⟩ = some (.int .i64 a.r.l) ∧ wx.cell? ⟨b1, 3, none⟩ = some (.int .i64 a.r.n) ∧ wx.cell? ⟨b1, 4, none⟩ = some (.int .i64 a.r.c) ∧ wx.cell? ⟨b1, 5, none⟩ = some (.int .i64 a.p) ∧ wx.cell? ⟨b1, 6, none⟩ = some (.int .i64 a.q) ∧ wx.cell? ⟨b1, 7, none⟩ = some (.int .u8 (a.d.ru : Nat)) ∧ wx.cell? ⟨b1, 8, none⟩ = some (.int .u8 (a.d.ms : Nat)) ∧ wx.cell? ⟨b1, 9, none⟩ = some (.int .u8 (a.d.at1 : Nat)) ∧ wx.cell? ⟨b1, 10, none⟩ = some (.bool a.d.wide) ∧ wx.cell? ⟨b1, 11, none⟩ = some (.bool a.d.high) ∧ wx.cell? ⟨b1, 12, none⟩ = some (.int .u8 (a.ru : Nat)))) (by kernel_rfl) ?_ (fun hHeld => ?_)
    · exact KEEP.out _ ((Below.refl _ _).drew)
    obtain ⟨wd, hwd⟩ : ∃ X, X = w0.drew := ⟨_, rfl⟩
    have HX := Lib.hid (show Below w0.heap.size w0 wd by rw [hwd]; exact (Below.refl _ _).drew)
    replace hHeld := KEEP.out _ HX.out
    rw [← hwd]
    clear hwd
    refine tk 0 rfl (fun w hSw => by (try dsimp only at hSw); go_simp; try with_reducible rfl) ?_
    go_frame
    refine tk 1 rfl (fun w hSw => by (try dsimp only at hSw); go_simp; try with_reducible rfl) ?_
    go_frame
    refine tk 3 rfl (fun w hSw => by (try dsimp only at hSw); go_simp; try with_reducible rfl) ?_
    go_frame
    refine do_at (i := 2) rfl (by kernel_rfl) (by kernel_rfl) (fun K hK => ?_)
    go_simp
    refine (C1.out _).mono ?_
    rintro e w1 ⟨rfl, b2⟩
    replace HX := Lib.hid (HX.out.trans (b2.mono HX.out.size))
    clear b2
    go_wp2_with fail
    refine hK.out _ _ ?_ (fun hHeld => ?_)
    · exact KEEP.out _ HX.out
    clear hK K
    try go_frame
    refine do_at (i := 4) rfl (by kernel_rfl) (by kernel_rfl) (fun K hK => ?_)
    go_simp
    refine (C3.out _).mono ?_
    rintro e w2 ⟨rfl, b2⟩
    replace HX := Lib.hid (HX.out.trans (b2.mono HX.out.size))
    clear b2
    go_wp2_with fail
    refine hK.out _ _ ?_ (fun hHeld => ?_)
    · exact KEEP.out _ HX.out
    clear hK K
    try go_frame
    refine do_at (i := 5) rfl (by kernel_rfl) (by kernel_rfl) (fun K hK => ?_)
    go_simp
    refine (copy12_any w2 _ G U m (rectM a) (smallM a.p) (smallM a.q) (HGS.out.below (HB0.out.trans (HX.out.mono HB0.out.size))) HGG.out HKO.out.1 HKO.out.2.1 HKO.out.2.2).mono ?_
    rintro e w3 ⟨v3, U3, rfl, g3, b2⟩
    have HG3 := Lib.hid g3
    clear g3
    replace HX := Lib.hid (HX.out.trans (b2.mono HX.out.size))
    clear b2
    go_wp2_with fail
    refine hK.out _ _ ?_ (fun hHeld => ?_)
    · exact KEEP.out _ HX.out
    clear hK K
    try go_frame
    refine tk 6 rfl (fun w hSw => by (try dsimp only at hSw); go_simp; try with_reducible rfl) ?_
    go_frame
    refine wpAnyH_done (by kernel_rfl) ?_ _
    have HBE := Lib.hid (HB0.out.trans (HX.out.mono HB0.out.size))
    clear hHeld
    go_wp2
    go_ret
    exact ⟨v3, U3, rfl, by rw [HKE.out]; exact HG3.out, HBE.out⟩
  | 6, _ =>
    have HKE := Lib.hid (HKD.out.trans ((if_neg (by decide)).trans (if_neg (by decide))))
    go_wp2_with fail
    clear a0 a1 a2 a3 a4 a5 a6 a7 a8 a9 a10 a11 a12 u1 u2 u3
    refine wp_region_held_drew (S := (fun wx => wx.cell? ⟨b1, 0, none⟩ = some (.int .u8 (a.what : Nat)) ∧ wx.cell? ⟨b1, 1, none⟩ = some (.int .i64 a.r.t) ∧ wx.cell? ⟨b1, 2, none⟩ = some (.int .i64 a.r.l) ∧ wx.cell? ⟨b1, 3, none⟩ = some (.int .i64 a.r.n) ∧ wx.cell? ⟨b1, 4, none⟩ = some (.int .i64 a.r.c) ∧ wx.cell? ⟨b1, 5, none⟩ = some (.int .i64 a.p) ∧ wx.cell? ⟨b1, 6, none⟩ = some (.int .i64 a.q) ∧ wx.cell? ⟨b1, 7, none⟩ = some (.int .u8 (a.d.ru : Nat)) ∧ wx.cell? ⟨b1, 8, none⟩ = some (.int .u8 (a.d.ms : Nat)) ∧ wx.cell? ⟨b1, 9, none⟩ = some (.int .u8 (a.d.at1 : Nat)) ∧ wx.cell? ⟨b1, 10, none⟩ = some (.bool a.d.wide) ∧ wx.cell? ⟨b1, 11, none⟩ = some (.bool a.d.high) ∧ wx.cell? ⟨b1, 12, none⟩ = some (.int .u8 (a.ru : Nat)))) (by kernel_rfl) ?_ (fun hHeld => ?_)
    · exact KEEP.out _ ((Below.refl _ _).drew)
    obtain ⟨wd, hwd⟩ : ∃ X, X = w0.drew := ⟨_, rfl⟩
    have HX := Lib.hid (show Below w0.heap.size w0 wd by rw [hwd]; exact (Below.refl _ _).drew)
    replace hHeld := KEEP.out _ HX.out
    rw [← hwd]
    clear hwd
    refine tk 0 rfl (fun w hSw => by (try dsimp only at hSw); go_simp; try with_reducible rfl) ?_
    go_frame
    refine tk 1 rfl (fun w hSw => by (try dsimp only at hSw); go_simp; try with_reducible rfl) ?_
    go_frame
    refine tk 3 rfl (fun w hSw => by (try dsimp only at hSw); go_simp; try with_reducible rfl) ?_
    go_frame
    refine do_at (i := 2) rfl (by kernel_rfl) (by kernel_rfl) (fun K hK => ?_)
    go_simp
    refine (C1.out _).mono ?_
    rintro e w1 ⟨rfl, b2⟩
    replace HX := Lib.hid (HX.out.trans (b2.mono HX.out.size))
    clear b2
    go_wp2_with fail
    refine hK.out _ _ ?_ (fun hHeld => ?_)
    · exact KEEP.out _ HX.out
    clear hK K
    try go_frame
    refine do_at (i := 4) rfl (by kernel_rfl) (by kernel_rfl) (fun K hK => ?_)
    go_simp
    refine (C3.out _).mono ?_
    rintro e w2 ⟨rfl, b2⟩
    replace HX := Lib.hid (HX.out.trans (b2.mono HX.out.size))
    clear b2
    go_wp2_with fail
    refine hK.out _ _ ?_ (fun hHeld => ?_)
    · exact KEEP.out _ HX.out
    clear hK K
    try go_frame
    refine do_at (i := 5) rfl (by kernel_rfl) (by kernel_rfl) (fun K hK => ?_)
    go_simp
    refine (copy12_any w2 _ G U m (rectM a) (smallM a.p) (smallM a.q) (HGS.out.below (HB0.out.trans (HX.out.mono HB0.out.size))) HGG.out HKO.out.1 HKO.out.2.1 HKO.out.2.2).mono ?_
    rintro e w3 ⟨v3, U3, rfl, g3, b2⟩
    have HG3 := Lib.hid g3
    clear g3
    replace HX := Lib.hid (HX.out.trans (b2.mono HX.out.size))
    clear b2
    go_wp2_with fail
    refine hK.out _ _ ?_ (fun hHeld => ?_)
    · exact KEEP.out _ HX.out
    clear hK K
    try go_frame
    refine tk 6 rfl (fun w hSw => by (try dsimp only at hSw); go_simp; try with_reducible rfl) ?_
    go_frame
    refine wpAnyH_done (by kernel_rfl) ?_ _
    have HBE := Lib.hid (HB0.out.trans (HX.out.mono HB0.out.size))
    clear hHeld
    go_wp2
    go_ret
    exact ⟨v3, U3, rfl, by rw [HKE.out]; exact HG3.out, HBE.out⟩
  | 7, _ =>
    have HKE := Lib.hid (HKD.out.trans ((if_neg (by decide)).trans (if_neg (by decide))))
    go_wp2_with fail
    clear a0 a1 a2 a3 a4 a5 a6 a7 a8 a9 a10 a11 a12 u1 u2 u3
    refine wp_region_held_drew (S := (fun wx => wx.cell? ⟨b1, 0, none⟩ = some (.int .u8 (a.what : Nat)) ∧ wx.cell? ⟨b1, 1, none⟩ = some (.int .i64 a.r.t) ∧ wx.cell? ⟨b1, 2, none⟩ = some (.int .i64 a.r.l) ∧ wx.cell? ⟨b1, 3, none⟩ = some (.int .i64 a.r.n) ∧ wx.cell? ⟨b1, 4, none⟩ = some (.int .i64 a.r.c) ∧ wx.cell? ⟨b1, 5, none⟩ = some (.int .i64 a.p) ∧ wx.cell? ⟨b1, 6, none⟩ = some (.int .i64 a.q) ∧ wx.cell? ⟨b1, 7, none⟩ = some (.int .u8 (a.d.ru : Nat)) ∧ wx.cell? ⟨b1, 8, none⟩ = some (.int .u8 (a.d.ms : Nat)) ∧ wx.cell? ⟨b1, 9, none⟩ = some (.int .u8 (a.d.at1 : Nat)) ∧ wx.cell? ⟨b1, 10, none⟩ = some (.bool a.d.wide) ∧ wx.cell? ⟨b1, 11, none⟩ = some (.bool a.d.high) ∧ wx.cell? ⟨b1, 12, none⟩ = some (.int .u8 (a.ru : Nat)))) (by kernel_rfl) ?_ (fun hHeld => ?_)
    · exact KEEP.out _ ((Below.refl _ _).drew)
    obtain ⟨wd, hwd⟩ : ∃ X, X = w0.drew := ⟨_, rfl⟩
    have HX := Lib.hid (show Below w0.heap.size w0 wd by rw [hwd]; exact (Below.refl _ _).drew)
    replace hHeld := KEEP.out _ HX.out
    rw [← hwd]
    clear hwd
    refine tk 0 rfl (fun w hSw => by (try dsimp only at hSw); go_simp; try with_reducible rfl) ?_
    go_frame
    refine tk 1 rfl (fun w hSw => by (try dsimp only at hSw); go_simp; try with_reducible rfl) ?_
    go_frame
    refine tk 3 rfl (fun w hSw => by (try dsimp only at hSw); go_simp; try with_reducible rfl) ?_
    go_frame
    refine do_at (i := 2) rfl (by kernel_rfl) (by kernel_rfl) (fun K hK => ?_)
    go_simp
    refine (C1.out _).mono ?_
    rintro e w1 ⟨rfl, b2⟩
    replace HX := Lib.hid (HX.out.trans (b2.mono HX.out.size))
    clear b2
    go_wp2_with fail
    refine hK.out _ _ ?_ (fun hHeld => ?_)
    · exact KEEP.out _ HX.out
    clear hK K
    try go_frame
    refine do_at (i := 4) rfl (by kernel_rfl) (by kernel_rfl) (fun K hK => ?_)
    go_simp
    refine (C3.out _).mono ?_
    rintro e w2 ⟨rfl, b2⟩
    replace HX := Lib.hid (HX.out.trans (b2.mono HX.out.size))
    clear b2
    go_wp2_with fail
    refine hK.out _ _ ?_ (fun hHeld => ?_)
    · exact KEEP.out _ HX.out
    clear hK K
    try go_frame
    refine do_at (i := 5) rfl (by kernel_rfl) (by kernel_rfl) (fun K hK => ?_)
    go_simp
    refine (copy12_any w2 _ G U m (rectM a) (smallM a.p) (smallM a.q) (HGS.out.below (HB0.out.trans (HX.out.mono HB0.out.size))) HGG.out HKO.out.1 HKO.out.2.1 HKO.out.2.2).mono ?_
    rintro e w3 ⟨v3, U3, rfl, g3, b2⟩
    have HG3 := Lib.hid g3
    clear g3
    replace HX := Lib.hid (HX.out.trans (b2.mono HX.out.size))
    clear b2
    go_wp2_with fail
    refine hK.out _ _ ?_ (fun hHeld => ?_)
    · exact KEEP.out _ HX.out
    clear hK K
    try go_frame
    refine tk 6 rfl (fun w hSw => by (try dsimp only at hSw); go_simp; try with_reducible rfl) ?_
    go_frame
    refine wpAnyH_done (by kernel_rfl) ?_ _
    have HBE := Lib.hid (HB0.out.trans (HX.out.mono HB0.out.size))
    clear hHeld
    go_wp2
    go_ret
    exact ⟨v3, U3, rfl, by rw [HKE.out]; exact HG3.out, HBE.out⟩
end Go.Proofs.YtlaafmjiiiaceaaDoor.Lab
