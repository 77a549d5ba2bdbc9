/- The project's broken: a grid whose rows are broken at the edges of a rectangle. -/
import Derived.Test.YtlaafmjiiiaceaaDoorRcClip
import Derived.Test.YtlaafmjiiiaceaaDoorGrMem
import Derived.Test.YtlaafmjiiiaceaaDoorRpFill
set_option linter.unusedVariables false
namespace Go.Proofs.YtlaafmjiiiaceaaDoor.Lab
open Go Go.RowKit

/-- Four numbers in a block of the call's own. -/
def Q4 (w : World) (b : Nat) (r : R4) : Prop :=
  b < w.heap.size ∧ (w.cell? ⟨b, 0, none⟩ = some (.int .i64 r.t) ∧ w.cell? ⟨b, 1, none⟩ = some (.int .i64 r.l) ∧ w.cell? ⟨b, 2, none⟩ = some (.int .i64 r.n) ∧ w.cell? ⟨b, 3, none⟩ = some (.int .i64 r.c)) ∧ ∀ i, w.frozen? ⟨b, i, none⟩ = false
theorem Q4.same {w w' : World} {b : Nat} {r : R4} (h : Q4 w b r) (hs : w.heap.size ≤ w'.heap.size) (e : w'.heap[b]? = w.heap[b]?) : Q4 w' b r := by
  have k : ∀ i, w'.cell? ⟨b, i, none⟩ = w.cell? ⟨b, i, none⟩ := fun i => World.cell?_of_block e
  obtain ⟨h0, ⟨a0, a1, a2, a3⟩, hf⟩ := h
  exact ⟨by omega, ⟨(k _).trans a0, (k _).trans a1, (k _).trans a2, (k _).trans a3⟩, fun i => (World.frozen?_of_block (a := ⟨b, i, none⟩) e).trans (hf i)⟩
theorem Q4.below {w w' : World} {b : Nat} {r : R4} (h : Q4 w b r) (k : Below w.heap.size w w') : Q4 w' b r := h.same k.size (k.block b h.1)
theorem Q4.but {w w' : World} {b B : Nat} {r : R4} (h : Q4 w b r) (k : But B w w') (hb : b ≠ B) : Q4 w' b r := h.same k.size (k.block b h.1 (by simp; omega))
theorem Q4.newAt (w : World) (n : Nat) (hn : n = w.heap.size) (t l m c : Int) (T : TypeId) : Q4 (w.alloc (.cells #[.int .i64 t, .int .i64 l, .int .i64 m, .int .i64 c] T)) n ⟨t, l, m, c⟩ := by
  subst hn
  exact ⟨by simp, ⟨by simp, by simp, by simp, by simp⟩, fun i => by simp⟩
def put4 (w : World) (b : Nat) (t l m c : Int) : World :=
  (((w.setCell ⟨b, 0, none⟩ (.int .i64 t)).setCell ⟨b, 1, none⟩ (.int .i64 l)).setCell ⟨b, 2, none⟩ (.int .i64 m)).setCell ⟨b, 3, none⟩ (.int .i64 c)
theorem put4_but (w : World) (b : Nat) (t l m c : Int) : But b w (put4 w b t l m c) := (((But.set w b 0 _).trans (But.set _ b 1 _)).trans (But.set _ b 2 _)).trans (But.set _ b 3 _)
theorem Q4.put {w : World} {b : Nat} {r : R4} (h : Q4 w b r) (t l m c : Int) : Q4 (put4 w b t l m c) b ⟨t, l, m, c⟩ := by
  obtain ⟨h0, ⟨a0, a1, a2, a3⟩, hf⟩ := h
  refine ⟨by simp [put4]; exact h0, ?_, fun i => by simp [put4, hf i]⟩
  unfold put4
  refine ⟨?_, ?_, ?_, ?_⟩ <;> simp [World.cell?_setCell_other, World.cell?_setCell_same', a0, a1, a2, a3]
theorem cuts_none (w : World) (v : Value) (fv : Value) : Calls Tryd.prog 74 #[v, .slice none 0 0, fv] w fun e w' => e = .returned (.tuple #[]) ∧ w = w' := by
  go_enter Tryd.func74, Tryd.ntmps74
  go_wp2
  go_loopg [10] 0 (fun gl vi wr => vi = .int .i64 0 ∧ wr = w)
  case atStart => exact ⟨rfl, rfl⟩
  case round =>
    obtain ⟨rfl, rfl⟩ := hrel
    go_wp2
    go_end0
    exact ⟨rfl, rfl⟩
theorem break_none (w : World) (v : Value) (R : Cls) (h : RowIn w v R) (hl : R.length ≤ 10000) : Calls Tryd.prog 61 #[v, .slice none 0 0] w (NewRow w R) := by
  obtain ⟨a, c, rfl⟩ := h.shape
  have HC := Lib.hid (anew_any w _ R h hl)
  obtain ⟨n, hn⟩ : ∃ n, n = R.length := ⟨_, rfl⟩
  have HN := Lib.hid hn
  rw [← hn] at HC ⊢
  clear h hn hl
  go_enter Tryd.func61, Tryd.ntmps61
  go_wp2_with fail
  refine HC.out.mono ?_
  rintro e w1 ⟨g, c1, rfl, hc1, own1, hg1, hg2, b1⟩
  rw [← HN.out] at own1 hc1 ⊢
  have HX := Lib.hid (And.intro hc1 (And.intro own1 (And.intro hg1 (And.intro hg2 b1))))
  clear hc1 own1 hg1 hg2 b1 HC
  go_wp2_with fail
  refine (cuts_none w1 _ _).mono ?_
  rintro e w2 ⟨rfl, rfl⟩
  go_wp2
  go_ret
  obtain ⟨h1, h2, h3, h4, h5⟩ := HX.out
  rw [HN.out] at h1 h2
  exact ⟨g, c1, by rw [HN.out]; rfl, h1, h2, h3, h4, h5⟩
/-- What edges tells of a row. -/
theorem edges_no (w : World) (b i : Nat) (k : Rk) (h : Q4 w b k.r4) (hk : k.t + k.n ≤ 600) (hi : i ≤ 600) (hno : ¬ inR k i) : Calls Tryd.prog 60 #[.int .i64 (i : Nat), .pointer (some ⟨b, 0, none⟩)] w fun e w' => e = .returned (.slice none 0 0) ∧ w = w' := by
  obtain ⟨_, ⟨a0, a1, a2, a3⟩, _⟩ := h
  obtain ⟨t, l, n, c⟩ := k
  unfold Rk.r4 at a0 a1 a2 a3
  unfold inR at hno
  dsimp only at a0 a1 a2 a3 hno hk
  have u1 : IntKind.i64.wrap ((t : Int) + (n : Int)) = ((t + n : Nat) : Int) := by rw [IntKind.wrap_i64]; omega
  obtain ⟨s, hs⟩ : ∃ s, s = t + n := ⟨_, rfl⟩
  rw [← hs] at u1 hno hk
  by_cases h1 : i < t
  · clear hs hno
    go_enter Tryd.func60, Tryd.ntmps60
    go_wp2
    go_ret
    exact ⟨rfl, rfl⟩
  · have h2 : s ≤ i := by omega
    clear hs hno
    go_enter Tryd.func60, Tryd.ntmps60
    go_wp2
    go_ret
    exact ⟨rfl, rfl⟩
theorem edges_yes (w : World) (b i : Nat) (k : Rk) (h : Q4 w b k.r4) (hk : k.t + k.n ≤ 600) (hk2 : k.l + k.c ≤ 600) (hi : i ≤ 600) (hr : inR k i) : Calls Tryd.prog 60 #[.int .i64 (i : Nat), .pointer (some ⟨b, 0, none⟩)] w fun e w' => ∃ v, e = .returned v ∧ PsAt w' v [(k.l : Int), ((k.l + k.c : Nat) : Int)] ∧ Below w.heap.size w w' := by
  obtain ⟨_, ⟨a0, a1, a2, a3⟩, _⟩ := h
  obtain ⟨t, l, n, c⟩ := k
  unfold Rk.r4 at a0 a1 a2 a3
  unfold inR at hr
  dsimp only at a0 a1 a2 a3 hr hk hk2 ⊢
  have u1 : IntKind.i64.wrap ((t : Int) + (n : Int)) = ((t + n : Nat) : Int) := by rw [IntKind.wrap_i64]; omega
  have u2 : IntKind.i64.wrap ((l : Int) + (c : Int)) = ((l + c : Nat) : Int) := by rw [IntKind.wrap_i64]; omega
  obtain ⟨s, hs⟩ : ∃ s, s = t + n := ⟨_, rfl⟩
  obtain ⟨q, hq⟩ : ∃ q, q = l + c := ⟨_, rfl⟩
  rw [← hs] at u1 hr hk
  rw [← hq] at u2 hk2 ⊢
  have hq1 : l ≤ q := by omega
  obtain ⟨h1, h2⟩ := hr
  have h3 : ¬ i < t := by omega
  have h4 : ¬ s ≤ i := by omega
  clear hs hq h1 h2
  go_enter Tryd.func60, Tryd.ntmps60
  go_wp2
  go_ret
  refine ⟨_, rfl, ⟨w.heap.size, 0, 2, rfl, by simp, by simp, fun j hj => ?_, fun j hj => ?_⟩, (Below.refl _ _).alloc (Nat.le_refl _) _⟩
  · have hj' : j = 0 ∨ j = 1 := by simp at hj; omega
    rcases hj' with rfl | rfl <;> simp
  · have hj' : j = 0 ∨ j = 1 := by simp at hj; omega
    rcases hj' with rfl | rfl <;> simp <;> omega
/-- A row of the grid behind broken. -/
theorem brk2_two (R : Cls) {l c : Nat} (h : l + c ≤ R.length) : ([(l : Int), ((l + c : Nat) : Int)]).foldl breakM R = brk2 R l c := breaks_two R (by omega) h
theorem NewRow.hd {w w' : World} {R : Cls} {e : Ending} (h : NewRow w R e w') : ∃ x : Hd, e = .returned (hdV x) ∧ x.R = R ∧ w.heap.size ≤ x.b ∧ CRow w' w.heap.size (hdV x) x.R ∧ Below w.heap.size w w' := by
  obtain ⟨g, c, rfl, _, h2, h3, _, h5⟩ := h
  exact ⟨⟨g, c, R⟩, rfl, rfl, h3, h2, h5⟩
theorem take_brkG {G : List Cls} {k : Rk} {i : Nat} (h : i < G.length) : (brkG G k).take (i + 1) = (brkG G k).take i ++ [if inR k i then brk2 (rowG G i) k.l k.c else rowG G i] := by
  have h' : i < (brkG G k).length := by rw [len_brkG]; exact h
  rw [List.take_succ_eq_append_getElem h', ← rowG_eq h', brkG, rowG_map h]
theorem edges_any (w : World) (b i m : Nat) (k : Rk) (R : Cls) (h : Q4 w b k.r4) (hk : k.t + k.n ≤ 600) (hk2 : k.l + k.c ≤ R.length) (hl : R.length ≤ 600) (hi : i ≤ 600) (hw : Wh R) :
    Calls Tryd.prog 60 #[.int .i64 (i : Nat), .pointer (some ⟨b, 0, none⟩)] w fun e w' => ∃ sa sn sc, e = .returned (.slice sa sn sc) ∧ (∀ u, RowIn w' u R → Calls Tryd.prog 61 #[u, .slice sa sn sc] w' (NewRow w' (if inR k i then brk2 R k.l k.c else R))) ∧ Below w.heap.size w w' := by
  by_cases hr : inR k i
  · refine (edges_yes w b i k h hk (by omega) hi hr).mono ?_
    rintro e w1 ⟨v, rfl, hp, b1⟩
    obtain ⟨sa, sc, rfl⟩ := hp.shape
    refine ⟨sa, _, sc, rfl, fun u hu => ?_, b1⟩
    rw [if_pos hr, ← brk2_two R hk2]
    exact break_any w1 u R _ _ hu hw (by omega) hp
  · refine (edges_no w b i k h hk hi hr).mono ?_
    rintro e w1 ⟨rfl, rfl⟩
    refine ⟨none, 0, 0, rfl, fun u hu => ?_, Below.refl _ _⟩
    rw [if_neg hr]
    exact break_none w u R hu (by omega)
/-- A grid of the call's own, each row in a block of its own. -/
def GOwn (w : World) (lo : Nat) (v : Value) (H : List Hd) (G : List Cls) : Prop := GRow w lo lo v H ∧ H.map (·.R) = G ∧ Fr lo H
set_option maxHeartbeats 4000000 in
theorem broken_any (w : World) (v : Value) (G : List Cls) (U : Nat → Value) (m : Nat) (r : R4) (h : GSee w v G U) (hg : GG G m) (hr : r.Ok) :
    Calls Tryd.prog 41 #[v, r4V r] w fun x w' => ∃ v' H, x = .returned v' ∧ GOwn w' w.heap.size v' H (brkG G (clipM r G.length m)) ∧ Below w.heap.size w w' := by
  obtain ⟨n, hn⟩ : ∃ n, n = G.length := ⟨_, rfl⟩
  have hn6 : n ≤ 600 := by rw [hn]; exact hg.n1
  have hm6 := hg.m1
  have HC := fun (wx : World) (hb : Below w.heap.size w wx) => clipped_any wx v G U m r (h.below hb) hg hr
  obtain ⟨k, hk⟩ : ∃ k, k = clipM r G.length m := ⟨_, rfl⟩
  have HK := Lib.hid (show k.In n m by rw [hk, hn]; exact clip_in _ _ _)
  rw [← hk] at HC ⊢
  obtain ⟨t, l, nn, cc⟩ := r
  have HS := Lib.hid h
  obtain ⟨a, c, rfl⟩ := h.shape
  have HG := Lib.hid hg
  rw [← hn] at HS HC ⊢
  have HN := Lib.hid hn
  obtain ⟨w0, hw0⟩ : ∃ W0, W0 = w.alloc (.cells #[.int .i64 t, .int .i64 l, .int .i64 nn, .int .i64 cc] 30) := ⟨_, rfl⟩
  obtain ⟨b3, hb3⟩ : ∃ b, b = w.heap.size := ⟨_, rfl⟩
  have HB0 := Lib.hid (show Below w.heap.size w w0 by rw [hw0]; exact (Below.refl _ _).alloc (Nat.le_refl _) _)
  have HQ0 := Lib.hid (show Q4 w0 b3 ⟨t, l, nn, cc⟩ by rw [hw0]; exact Q4.newAt w b3 hb3 _ _ _ _ _)
  have H3 := Lib.hid (show w.heap.size ≤ b3 by omega)
  have HC1 := Lib.hid (HC w0 HB0.out)
  clear h hg hr hn hk HC
  go_enter Tryd.func41, Tryd.ntmps41
  go_upto_region 1 with (fail)
  rw [← hw0, ← hb3]
  obtain ⟨_, ⟨q0, q1, q2, q3⟩, _⟩ := HQ0.out
  dsimp only at q0 q1 q2 q3
  clear hw0 hb3
  go_wp2_with fail
  refine HC1.out.mono ?_
  rintro e w1 ⟨rfl, b1⟩
  have HB1 := Lib.hid (HB0.out.trans (b1.mono HB0.out.size))
  have HQ1 := Lib.hid (HQ0.out.below b1)
  obtain ⟨_, ⟨q0, q1, q2, q3⟩, hf⟩ := HQ1.out
  dsimp only at q0 q1 q2 q3
  have f0 := hf 0
  have f1 := hf 1
  have f2 := hf 2
  have f3 := hf 3
  obtain ⟨kt, kl, kn, kc⟩ := k
  obtain ⟨wx, hwx⟩ : ∃ x, x = put4 w1 b3 (kt : Nat) (kl : Nat) (kn : Nat) (kc : Nat) := ⟨_, rfl⟩
  have HQX := Lib.hid (show Q4 wx b3 (Rk.r4 ⟨kt, kl, kn, kc⟩) by rw [hwx]; exact HQ1.out.put _ _ _ _)
  have HBX := Lib.hid (show Below w.heap.size w wx by rw [hwx]; exact HB1.out.trans ((put4_but w1 b3 _ _ _ _).below H3.out HB1.out.size))
  have HSX := Lib.hid (HS.out.below HBX.out)
  have HG0 := Lib.hid (show GRow wx (b3 + 1) (b3 + 1) (.slice none 0 0) [] from GRow.nil _ _ _)
  have HF0 := Lib.hid (Fr.nil (b3 + 1))
  clear b1 hf HQ0 HQ1 HB1 HB0 HC1
  go_upto_region 2 with (fail)
  unfold put4 at hwx
  rw [← hwx]
  clear hwx q0 q1 q2 q3 f0 f1 f2 f3
  go_wp2
  go_loopg [6, 15] n (fun gl vv vi wr => ∃ (i : Nat) (F : List Hd), vi = .int .i64 i ∧ i ≤ n ∧ n - i ≤ gl ∧ Hid (GRow wr (b3 + 1) (b3 + 1) vv F) ∧ Hid (F.map (·.R) = (brkG G ⟨kt, kl, kn, kc⟩).take i) ∧ Hid (Fr (b3 + 1) F) ∧ Hid (Q4 wr b3 (Rk.r4 ⟨kt, kl, kn, kc⟩)) ∧ Hid (Below w.heap.size w wr))
  case atStart => exact ⟨0, [], rfl, Nat.zero_le _, Nat.sub_le _ _, HG0, Lib.hid rfl, HF0, HQX, HBX⟩
  case round =>
    obtain ⟨i, F, rfl, hin, hgl, HGR, HM, HF, HQ, HB⟩ := hrel
    clear HG0 HF0 HQX HBX HSX q0 q1 q2 q3
    by_cases hlt : i < n
    · have HSR := Lib.hid (HS.out.below HB.out)
      obtain ⟨g, o, c', e, hcap, hgs, hcell⟩ := HSR.out.open (by rw [← HN.out]; omega)
      injection e with e1 e2 e3
      subst e1 e3
      have hiG : i < G.length := by rw [← HN.out]; exact hlt
      have hck := hcell i hiG
      have HROW := Lib.hid (HSR.out.row hiG)
      obtain ⟨rw1, rw2, rw3⟩ := HG.out.at hiG
      have HK6 := Lib.hid (show kt + kn ≤ 600 ∧ kl + kc ≤ (rowG G i).length ∧ (rowG G i).length ≤ 600 by have h1 := HK.out.r; have h2 := HK.out.c; dsimp only at h1 h2; rw [rw2]; omega)
      have HW := Lib.hid rw1
      obtain ⟨ua, uc, hu⟩ := HROW.out.shape
      rw [rw2] at hu
      rw [hu] at hck HROW
      have HST := Lib.hid (take_brkG (k := ⟨kt, kl, kn, kc⟩) hiG)
      have HB3 := Lib.hid HQ.out.1
      clear hcell hu hcap hgs e2 hiG rw1 rw2 rw3
      go_wp2_with fail
      refine (edges_any wr b3 i m ⟨kt, kl, kn, kc⟩ (rowG G i) HQ.out HK6.out.1 HK6.out.2.1 HK6.out.2.2 (by omega) HW.out).mono ?_
      rintro e w2 ⟨sa, sn, sc, rfl, hbr, b2⟩
      have HBR := Lib.hid (hbr _ (HROW.out.below b2))
      have HB2 := Lib.hid b2
      clear hbr b2 HROW hck
      go_wp2_with fail
      refine HBR.out.mono ?_
      rintro e w3 hnew
      obtain ⟨x, rfl, hxR, hxb, own3, b4⟩ := hnew.hd
      have HX := Lib.hid own3
      have HXR := Lib.hid hxR
      have HXB := Lib.hid (show wr.heap.size ≤ x.b from Nat.le_trans HB2.out.size hxb)
      have HB4 := Lib.hid (show Below wr.heap.size wr w3 from HB2.out.trans (b4.mono HB2.out.size))
      obtain ⟨q, hq⟩ : ∃ q, q = w3.heap.size := ⟨_, rfl⟩
      obtain ⟨w5, hw5⟩ : ∃ x', x' = w3.alloc (.cells #[hdV x] 49) := ⟨_, rfl⟩
      have b5 : Below w3.heap.size w3 w5 := by rw [hw5]; exact (Below.refl _ _).alloc (Nat.le_refl _) _
      have HI := Lib.hid (show GIn w5 (b3 + 1) (.slice (some ⟨q, 0, none⟩) 1 1) [x] by rw [hw5]; exact GIn.one (own3.lower (Nat.le_trans HB3.out HB2.out.size)) q hq)
      have HB5 := Lib.hid (show Below wr.heap.size wr w5 from HB4.out.trans (b5.mono HB4.out.size))
      have HG5 := Lib.hid (HGR.out.below HB5.out)
      have HQ5 := Lib.hid (HQ.out.below HB5.out)
      have HBW := Lib.hid (show Below w.heap.size w w5 from HB.out.trans (HB5.out.mono HB.out.size))
      have HS5 := Lib.hid (show b3 + 1 ≤ w5.heap.size from Nat.le_trans HB3.out HB5.out.size)
      have hlen : F.length + [x].length ≤ 100000 := by
        have := congrArg List.length HM.out
        rw [List.length_map, List.length_take] at this
        simp only [List.length_cons, List.length_nil]
        omega
      clear hnew own3 hxR hxb b4 b5 HBR
      go_wp2_with (at_builtin; rw [← hw5, ← hq]; clear hw5 hq; refine wpList_append_hds rfl (.tmp 20) (.tmp 26) rfl (b3 + 1) (b3 + 1) _ F rfl HG5.out _ [x] rfl HI.out hlen HS5.out ?_)
      intro v' w6 own6 grow6
      have HG6 := Lib.hid own6
      have hrow : ∀ j, u6.ownBlock = some j → b3 + 1 ≤ j := fun j hj => (HG5.out.1.lt j hj).1
      have HB6 := Lib.hid (HBW.out.grown grow6 HBW.out.size (fun j hj => by have := hrow j hj; have := H3.out; omega))
      have HM6 := Lib.hid (show (F ++ [x]).map (·.R) = (brkG G ⟨kt, kl, kn, kc⟩).take (i + 1) by rw [List.map_append, HM.out, HST.out, ← HXR.out]; rfl)
      have HF6 := Lib.hid (show Fr (b3 + 1) (F ++ [x]) from HF.out.snoc (m := wr.heap.size) (fun y hy => (HGR.out.2.lt hy).2) HXB.out HB3.out)
      have HQ6 := Lib.hid (show Q4 w6 b3 (Rk.r4 ⟨kt, kl, kn, kc⟩) from HQ5.out.same grow6.size (grow6.block b3 HQ5.out.1 (fun e => by have := hrow b3 e.symm; omega)))
      clear own6 grow6 hrow hlen HGR HM HF HQ HB HG5 HB5 HQ5 HI HX HXR HXB HB2 HB4 HBW HS5 HSR HST HB3
      go_wp2
      go_roundg (n - (i + 1))
      case rel => exact ⟨i + 1, F ++ [x], by go_num, by omega, Nat.le_refl _, HG6, HM6, HF6, HQ6, HB6⟩
      case measure => omega
    · obtain rfl : i = n := by omega
      go_wp2
      go_ret
      have e1 : (brkG G ⟨kt, kl, kn, kc⟩).take i = brkG G ⟨kt, kl, kn, kc⟩ := List.take_of_length_le (by rw [len_brkG, HN.out]; exact Nat.le_refl _)
      exact ⟨_, F, rfl, ⟨HGR.out.lower (by have := H3.out; omega) (by have := H3.out; omega), HM.out.trans e1, HF.out.mono (by have := H3.out; omega)⟩, HB.out⟩
end Go.Proofs.YtlaafmjiiiaceaaDoor.Lab
