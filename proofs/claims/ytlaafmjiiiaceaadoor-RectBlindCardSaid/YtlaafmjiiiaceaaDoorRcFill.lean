/- The project's Erase and Fill. -/
import Derived.Test.YtlaafmjiiiaceaaDoorRcLaid
import Derived.Test.YtlaafmjiiiaceaaDoorWiCo
set_option linter.unusedVariables false
namespace Go.Proofs.YtlaafmjiiiaceaaDoor.Lab
open Go Go.RowKit

set_option maxHeartbeats 4000000 in
set_option maxRecDepth 100000 in
theorem erase1_any (W : World) (z i j lo g n c : Nat) (R : Cls) (b : Cel) (p m cm : Nat) (ad : Option Addr) (H : CRow W lo (.slice (some ⟨g, 0, none⟩) n c) R) (hn : n = R.length) (hl : n ≤ 10000) (hp : p + m ≤ n) (hA : 0 < m → ad = some ⟨g, p * 14, none⟩) (hZ : BAt W z b) (hzg : z ≠ g) :
    Calls Tryd.prog 47 #[posV i j, .slice ad m cm, .pointer (some ⟨z, 0, none⟩)] W fun e w' => e = .returned (.tuple #[]) ∧ CRow w' lo (.slice (some ⟨g, 0, none⟩) n c) (place R p (List.replicate m b)) ∧ But g W w' := by
  have hg : g < W.heap.size := (H.lt g rfl).2
  have hgz : g ≠ z := by omega
  obtain ⟨w0, hw0⟩ : ∃ w0, w0 = W.alloc (.cells #[.int .i64 (i : Nat), .int .i64 (j : Nat)] 32) := ⟨_, rfl⟩
  have b0 : Below W.heap.size W w0 := by rw [hw0]; exact (Below.refl _ _).alloc (Nat.le_refl _) _
  have HA0 := Lib.hid (show BAt w0 z b from hZ.below b0)
  have HO0 := Lib.hid (show CRow w0 lo (.slice (some ⟨g, 0, none⟩) n c) (place R p (List.replicate 0 b)) by rw [List.replicate_zero, place_nil]; exact H.below b0)
  have HB0 := Lib.hid (But.of (B := g) b0)
  have HA := Lib.hid hA
  have HN := Lib.hid hn
  obtain ⟨o, ho⟩ : ∃ o, o = p * 14 := ⟨_, rfl⟩
  have HO := Lib.hid ho
  rw [← ho] at HA
  clear b0 H hA hn hg ho hZ
  go_enter Tryd.func47, Tryd.ntmps47
  go_upto_region 1 with (fail)
  rw [← hw0]
  clear hw0
  go_wp2
  go_loopg [8] m (fun G i wr => ∃ k : Nat, i = .int .i64 k ∧ k ≤ m ∧ m - k ≤ G ∧ Hid (CRow wr lo (.slice (some ⟨g, 0, none⟩) n c) (place R p (List.replicate k b))) ∧ Hid (BAt wr z b) ∧ Hid (But g W wr))
  case atStart => exact ⟨0, rfl, Nat.zero_le _, Nat.sub_le _ _, HO0, HA0, HB0⟩
  case round =>
    obtain ⟨k, rfl, hkm, hgk, HR, HZ, HB⟩ := hrel
    clear HO0 HA0 HB0
    by_cases hlt : k < m
    · obtain rfl := HA.out (by omega)
      have HL := Lib.hid (show (place R p (List.replicate k b)).length = R.length from len_place (by rw [List.length_replicate]; have := HN.out; omega))
      have hlen : p + k < (place R p (List.replicate k b)).length := by rw [HL.out, ← HN.out]; omega
      have hoff : (p + k) * 14 = o + k * 14 := by have := HO.out; omega
      obtain ⟨w1, hw1⟩ : ∃ w1, w1 = put14 wr g (o + k * 14) b := ⟨_, rfl⟩
      have HR1 := Lib.hid (show CRow w1 lo (.slice (some ⟨g, 0, none⟩) n c) (place R p (List.replicate (k + 1) b)) by
        rw [hw1, ← hoff, ← place_rep (by have := HN.out; omega)]
        exact HR.out.put (by rw [HL.out]; exact HN.out) hlen b)
      have bt := put14_but wr g (o + k * 14) b
      have HZ1 := Lib.hid (show BAt w1 z b by rw [hw1]; exact HZ.out.but bt hzg)
      have HB1 := Lib.hid (show But g W w1 by rw [hw1]; exact HB.out.trans bt)
      have HF := fun j => HR.out.frozen (by rw [HL.out]; exact HN.out) j
      have hat := HR.out.at hlen
      rw [hoff] at hat
      obtain ⟨b0, b1, b2, b3, b4, b5, b6, b7, b8, b9, b10, b11, b12, b13⟩ := hat
      obtain ⟨_, ⟨y0, y1, y2, y3, y4, y5, y6, y7, y8, y9, y10, y11, y12, y13⟩, _⟩ := HZ.out
      simp only [put14] at hw1
      clear bt hlen hoff
      go_upto_region 5 with (fail)
      rw [← hw1]
      clear hw1 HF b0 b1 b2 b3 b4 b5 b6 b7 b8 b9 b10 b11 b12 b13 y0 y1 y2 y3 y4 y5 y6 y7 y8 y9 y10 y11 y12 y13 HR HZ HB HL
      go_wp2
      go_roundg (m - (k + 1))
      case rel => exact ⟨k + 1, by go_num, by omega, Nat.le_refl _, HR1, HZ1, HB1⟩
      case measure => omega
    · obtain rfl : k = m := by omega
      go_wp2
      go_end0
      exact ⟨rfl, HR.out, HB.out⟩
theorem lays_erase {w : World} {z : Nat} {b : Cel} (k : Rk) (m : Nat) (hZ : BAt w z b) (hk : k.l + k.c ≤ m) (hm : m ≤ 600) : Lays w 47 #[] #[.pointer (some ⟨z, 0, none⟩)] k m (fun _ => List.replicate k.c b) := by
  intro i W g cap R hi hb hg hC hl hcap
  exact erase1_any W z (k.t + i) k.l w.heap.size g m cap R b k.l k.c (cap - k.l) _ hC hl.symm (by omega) hk (fun _ => rfl) (hZ.below hb) (by have := hZ.1; omega)
/-- What an act leaves: another grid that can be read. -/
def Makes12 (w : World) (G : List Cls) (e : Ending) (w' : World) : Prop := ∃ v' U', e = .returned v' ∧ GSee w' v' G U' ∧ Below w.heap.size w w'
set_option maxHeartbeats 4000000 in
theorem erase12_any (w : World) (v : Value) (G : List Cls) (U : Nat → Value) (m : Nat) (r : R4) (b : Cel) (h : GSee w v G U) (hg : GG G m) (hr : r.Ok) :
    Calls Tryd.prog 24 #[v, r4V r, celV b] w (Makes12 w (fillG G (clipM r G.length m) b)) := by
  obtain ⟨k, hk⟩ : ∃ k, k = clipM r G.length m := ⟨_, rfl⟩
  have hkin : k.In G.length m := by rw [hk]; exact clip_in _ _ _
  rw [← hk]
  have HL := fun (wx : World) (hb : Below w.heap.size w wx) (z : Nat) (hz : BAt wx z { b with k := 0 }) => laid_any wx v G U m r k 47 #[] #[.pointer (some ⟨z, 0, none⟩)] (fun _ => List.replicate k.c { b with k := 0 }) (h.below hb) hg hr hk (fun _ _ _ => List.length_replicate) (lays_erase k m hz hkin.c hg.m1) (enters_of Tryd.func47 (by kernel_rfl) rfl)
  obtain ⟨t, l, nn, cc⟩ := r
  obtain ⟨a, c, hv⟩ := h.shape
  obtain ⟨N, hN⟩ : ∃ N, N = G.length := ⟨_, rfl⟩
  rw [← hN] at hv
  subst hv
  obtain ⟨w0, hw0⟩ : ∃ W0, W0 = (w.alloc (.cells #[.int .i64 t, .int .i64 l, .int .i64 nn, .int .i64 cc] 30)).alloc (.cells #[.int .i32 b.ru, .int .i32 b.m0, .int .i32 b.m1, .int .u8 b.k, .int .u8 b.a.fg.k, .int .u8 b.a.fg.r, .int .u8 b.a.fg.g, .int .u8 b.a.fg.b, .int .u8 b.a.bg.k, .int .u8 b.a.bg.r, .int .u8 b.a.bg.g, .int .u8 b.a.bg.b, .int .u16 (b.a.fl : Nat), .int .u8 b.l] 62) := ⟨_, rfl⟩
  obtain ⟨b4, hb4⟩ : ∃ q, q = w.heap.size := ⟨_, rfl⟩
  obtain ⟨b5, hb5⟩ : ∃ q, q = w.heap.size + 1 := ⟨_, rfl⟩
  have HB0 := Lib.hid (show Below w.heap.size w w0 by rw [hw0]; exact ((Below.refl _ _).alloc (Nat.le_refl _) _).alloc (by simp) _)
  have HA := Lib.hid (show BAt w0 b5 b by rw [hw0]; exact BAt.newAt _ b5 (by rw [hb5]; simp) b _)
  have q0 : w0.cell? ⟨b4, 0, none⟩ = some (.int .i64 t) := by rw [hw0, hb4]; simp
  have q1 : w0.cell? ⟨b4, 1, none⟩ = some (.int .i64 l) := by rw [hw0, hb4]; simp
  have q2 : w0.cell? ⟨b4, 2, none⟩ = some (.int .i64 nn) := by rw [hw0, hb4]; simp
  have q3 : w0.cell? ⟨b4, 3, none⟩ = some (.int .i64 cc) := by rw [hw0, hb4]; simp
  have hne : b4 ≠ b5 := by omega
  obtain ⟨w1, hw1⟩ : ∃ x, x = w0.setCell ⟨b5, 3, none⟩ (.int .u8 0) := ⟨_, rfl⟩
  have HA1 := Lib.hid (show BAt w1 b5 { b with k := 0 } by rw [hw1]; exact HA.out.setK 0)
  have HB1 := Lib.hid (show Below w.heap.size w w1 by rw [hw1]; exact HB0.out.setCell (by show _ ≤ b5; omega) _)
  have HC := Lib.hid (HL w1 HB1.out b5 HA1.out)
  have p0 : w1.cell? ⟨b4, 0, none⟩ = some (.int .i64 t) := by rw [hw1]; exact (World.cell?_setCell_other _ _ _ _ (fun e => hne (by injection e with e _ _; exact e.symm))).trans q0
  have p1 : w1.cell? ⟨b4, 1, none⟩ = some (.int .i64 l) := by rw [hw1]; exact (World.cell?_setCell_other _ _ _ _ (fun e => hne (by injection e with e _ _; exact e.symm))).trans q1
  have p2 : w1.cell? ⟨b4, 2, none⟩ = some (.int .i64 nn) := by rw [hw1]; exact (World.cell?_setCell_other _ _ _ _ (fun e => hne (by injection e with e _ _; exact e.symm))).trans q2
  have p3 : w1.cell? ⟨b4, 3, none⟩ = some (.int .i64 cc) := by rw [hw1]; exact (World.cell?_setCell_other _ _ _ _ (fun e => hne (by injection e with e _ _; exact e.symm))).trans q3
  obtain ⟨_, ⟨_, _, _, y3, _⟩, hf⟩ := HA.out
  have f3 := hf 3
  clear h hg hr hk hN hkin HL hf
  go_enter Tryd.func24, Tryd.ntmps24
  go_upto_region 1 with (fail)
  rw [← hw0, ← hb5, ← hb4]
  clear hw0 hb5 hb4
  go_upto_region 2 with (fail)
  rw [← hw1]
  clear hw1 q0 q1 q2 q3 hne y3 f3
  go_wp2_with fail
  refine HC.out.mono ?_
  rintro e w2 ⟨v', U', rfl, hs, b2⟩
  have HS := Lib.hid hs
  have HB2 := Lib.hid (HB1.out.trans (b2.mono HB1.out.size))
  obtain ⟨a', c', rfl⟩ := hs.shape
  obtain ⟨n', hn'⟩ : ∃ n', n' = (layG G k fun _ => List.replicate k.c { b with k := 0 }).length := ⟨_, rfl⟩
  rw [← hn'] at HS ⊢
  clear hs b2 hn'
  go_wp2
  go_ret
  exact ⟨_, U', rfl, HS.out, HB2.out⟩
theorem broken_see (w : World) (v : Value) (G : List Cls) (U : Nat → Value) (m : Nat) (h : GSee w v G U) (hg : GG G m) : Calls Tryd.prog 41 #[v, .agg #[.int .i64 0, .int .i64 0, .int .i64 0, .int .i64 0]] w (Makes12 w G) := by
  refine (broken_any w v G U m ⟨0, 0, 0, 0⟩ h hg ⟨⟨by decide, by decide⟩, ⟨by decide, by decide⟩, ⟨by decide, by decide⟩, ⟨by decide, by decide⟩⟩).mono ?_
  rintro e w1 ⟨v', H, rfl, own, b⟩
  rw [show clipM ⟨0, 0, 0, 0⟩ G.length m = Rk.z by unfold clipM; rw [span_no (.inl (by decide))]; rfl, brkG_z] at own
  exact ⟨v', _, rfl, own.see, b⟩
set_option maxHeartbeats 4000000 in
theorem fill12_any (w : World) (v : Value) (G : List Cls) (U : Nat → Value) (m : Nat) (r : R4) (b : Cel) (h : GSee w v G U) (hg : GG G m) (hr : r.Ok) (hT : Tabs w) :
    Calls Tryd.prog 23 #[v, r4V r, celV b] w (Makes12 w (if ofI b.ru = 1 then fillG G (clipM r G.length m) b else G)) := by
  have HE := fun (wx : World) (hb : Below w.heap.size w wx) => erase12_any wx v G U m r b (h.below hb) hg hr
  have HN := fun (wx : World) (hb : Below w.heap.size w wx) => broken_see wx v G U m (h.below hb) hg
  obtain ⟨k, hk⟩ : ∃ k, k = clipM r G.length m := ⟨_, rfl⟩
  rw [← hk] at HE ⊢
  have HO := Lib.hid (fun (wx : World) (hb : Below w.heap.size w wx) => of_any b.ru wx (hT.below hb))
  obtain ⟨of, hof⟩ : ∃ of, of = ofI b.ru := ⟨_, rfl⟩
  rw [← hof] at HO ⊢
  obtain ⟨GR, hGR⟩ : ∃ GR, GR = if of = 1 then fillG G k b else G := ⟨_, rfl⟩
  rw [← hGR]
  have HGR := Lib.hid hGR
  clear hGR
  obtain ⟨t, l, nn, cc⟩ := r
  obtain ⟨a, c, hv⟩ := h.shape
  obtain ⟨N, hN⟩ : ∃ N, N = G.length := ⟨_, rfl⟩
  rw [← hN] at hv
  subst hv
  obtain ⟨w0, hw0⟩ : ∃ W0, W0 = (w.alloc (.cells #[.int .i64 t, .int .i64 l, .int .i64 nn, .int .i64 cc] 30)).alloc (.cells #[.int .i32 b.ru, .int .i32 b.m0, .int .i32 b.m1, .int .u8 b.k, .int .u8 b.a.fg.k, .int .u8 b.a.fg.r, .int .u8 b.a.fg.g, .int .u8 b.a.fg.b, .int .u8 b.a.bg.k, .int .u8 b.a.bg.r, .int .u8 b.a.bg.g, .int .u8 b.a.bg.b, .int .u16 (b.a.fl : Nat), .int .u8 b.l] 62) := ⟨_, rfl⟩
  obtain ⟨b4, hb4⟩ : ∃ q, q = w.heap.size := ⟨_, rfl⟩
  obtain ⟨b5, hb5⟩ : ∃ q, q = w.heap.size + 1 := ⟨_, rfl⟩
  have HB0 := Lib.hid (show Below w.heap.size w w0 by rw [hw0]; exact ((Below.refl _ _).alloc (Nat.le_refl _) _).alloc (by simp) _)
  have HA := Lib.hid (show BAt w0 b5 b by rw [hw0]; exact BAt.newAt _ b5 (by rw [hb5]; simp) b _)
  have HQ := Lib.hid (show Q4 w0 b4 ⟨t, l, nn, cc⟩ by rw [hw0, hb4]; exact (Q4.newAt w _ rfl _ _ _ _ _).below ((Below.refl _ _).alloc (Nat.le_refl _) _))
  have HC := Lib.hid (HO.out w0 HB0.out)
  obtain ⟨_, ⟨y0, _⟩, _⟩ := HA.out
  clear h hg hr hk hN hT HO hof
  go_enter Tryd.func23, Tryd.ntmps23
  go_upto_region 1 with (fail)
  rw [← hw0, ← hb5, ← hb4]
  clear hw0 hb5 hb4
  go_wp2_with fail
  refine HC.out.mono ?_
  rintro e w1 ⟨rfl, b1⟩
  have HB1 := Lib.hid (HB0.out.trans (b1.mono HB0.out.size))
  have HA1 := Lib.hid (HA.out.below b1)
  have HQ1 := Lib.hid (HQ.out.below b1)
  clear b1 y0 HC HA HQ
  by_cases h1 : of = 1
  · have HG1 := Lib.hid (show GR = fillG G k b by rw [HGR.out, if_pos h1])
    clear HGR
    subst h1
    obtain ⟨_, ⟨y0, y1, y2, y3, y4, y5, y6, y7, y8, y9, y10, y11, y12, y13⟩, _⟩ := HA1.out
    obtain ⟨_, ⟨q0, q1, q2, q3⟩, _⟩ := HQ1.out
    dsimp only at q0 q1 q2 q3
    have HE1 := Lib.hid (HE w1 HB1.out)
    clear HE HN
    go_wp2_with fail
    refine HE1.out.mono ?_
    rintro e w2 ⟨v', U', rfl, hs, b2⟩
    have HS := Lib.hid hs
    have HB2 := Lib.hid (HB1.out.trans (b2.mono HB1.out.size))
    obtain ⟨a', c', rfl⟩ := hs.shape
    obtain ⟨n', hn'⟩ : ∃ n', n' = (fillG G k b).length := ⟨_, rfl⟩
    rw [← hn'] at HS ⊢
    clear hs b2 hn'
    go_wp2
    go_ret
    exact ⟨_, U', rfl, by rw [HG1.out]; exact HS.out, HB2.out⟩
  · have HG1 := Lib.hid (show GR = G by rw [HGR.out, if_neg h1])
    clear HGR
    have e1 : (of == 1) = false := by simpa using h1
    have e2 : (of != 1) = true := by simpa using h1
    have HN1 := Lib.hid (HN w1 HB1.out)
    clear HE HN
    go_wp2_with fail
    refine HN1.out.mono ?_
    rintro e w2 ⟨v', U', rfl, hs, b2⟩
    have HS := Lib.hid hs
    have HB2 := Lib.hid (HB1.out.trans (b2.mono HB1.out.size))
    obtain ⟨a', c', rfl⟩ := hs.shape
    obtain ⟨n', hn'⟩ : ∃ n', n' = G.length := ⟨_, rfl⟩
    rw [← hn'] at HS ⊢
    clear hs b2 hn'
    go_wp2
    go_ret
    exact ⟨_, U', rfl, by rw [HG1.out]; exact HS.out, HB2.out⟩
end Go.Proofs.YtlaafmjiiiaceaaDoor.Lab
