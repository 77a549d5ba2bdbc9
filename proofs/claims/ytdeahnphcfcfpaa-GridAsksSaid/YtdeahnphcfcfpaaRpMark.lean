/- The project's marked, withMark, Mark. -/
import Derived.Test.YtdeahnphcfcfpaaRpRaise
import Derived.Test.YtdeahnphcfcfpaaRpWide
import Derived.Test.YtdeahnphcfcfpaaGrMath
namespace Go.Proofs.Ytdeahnphcfcfpaa.Lab
open Go Go.RowKit

def wideN (R : Cls) (q : Nat) : Nat := if (gc R q).k = 1 then 2 else 1
theorem spot_wide {R : Cls} (h : Wh R) {p : Nat} (hp : p < R.length) : spot R p + wideN R (spot R p) ≤ R.length := by
  obtain ⟨h1, h2⟩ := spot_ok h hp
  unfold wideN
  split
  · rename_i hk
    have := ((h _ h1).1 hk).1
    omega
  · omega
set_option maxHeartbeats 4000000 in
theorem marked_any (w : World) (lo g n c : Nat) (R : Cls) (p : Nat) (H : CRow w lo (.slice (some ⟨g, 0, none⟩) n c) R) (hn : n = R.length) (hc : n ≤ c) (hl : n ≤ 1000) (hw : Wh R) (hp : p < n) :
    Calls Try.prog 96 #[.slice (some ⟨g, 0, none⟩) n c, .int .i64 (p : Nat)] w fun e w' => ∃ cm, e = .returned (.slice (some ⟨g, spot R p * 14, none⟩) (wideN R (spot R p)) cm) ∧ w = w' := by
  have HN := Lib.hid hn
  have CI := fun (i : Int) (hi : -100000 ≤ i ∧ i ≤ 100000) => Lib.hid (isWide_any w _ R i H.row hw (by omega) hi)
  have hat := H.at (i := p) (by omega)
  have g1 : ¬ (p : Int) < 0 := by omega
  have g2 : ¬ (n : Int) ≤ (p : Int) := by omega
  have d1 : decide ((p : Int) < 0) = false := decide_eq_false g1
  have d2 : decide ((n : Int) ≤ (p : Int)) = false := decide_eq_false g2
  by_cases hk1 : (gc R p).k = 1
  · have hlt := ((hw p (by omega)).1 hk1).1
    have HS := Lib.hid (show spot R p = p ∧ wideN R (spot R p) = 2 by
      have e : spot R p = p := by unfold spot; rw [if_neg (by rw [hk1]; simp)]
      refine ⟨e, ?_⟩
      rw [e]
      unfold wideN
      rw [if_pos hk1])
    have C1 := CI (p : Int) (by omega)
    rw [wide_nat, decide_eq_true hk1] at C1
    obtain ⟨e, he⟩ : ∃ e, e = p + 2 := ⟨_, rfl⟩
    obtain ⟨ad, m, cm, hm, _, k2, k2a, _⟩ := cut_both g n c p e (by omega) (by omega)
    have hm2 : m = 2 := by omega
    subst hm2
    obtain rfl := k2a (by omega)
    have s1 : IntKind.i64.wrap ((p : Int) + 2) = (e : Int) := by rw [IntKind.wrap_i64]; omega
    clear he hc hk1 hlt hat hm k2a H hw CI hn
    go_enter Try.func96, Try.ntmps96
    go_wp2_with fail
    refine C1.out.mono ?_
    rintro e0 w' ⟨rfl, rfl⟩
    go_wp2
    go_ret
    exact ⟨c - p, by rw [HS.out.2, HS.out.1]; rfl, rfl⟩
  have C1 := CI (p : Int) (by omega)
  rw [wide_nat, decide_eq_false hk1] at C1
  by_cases hk2 : (gc R p).k = 2
  · obtain ⟨hp0, hkl, _⟩ := (hw p (by omega)).2.1 hk2
    obtain ⟨q, rfl⟩ : ∃ q, p = q + 1 := ⟨p - 1, by omega⟩
    rw [Nat.add_sub_cancel] at hkl
    have HS := Lib.hid (show spot R (q + 1) = q ∧ wideN R (spot R (q + 1)) = 2 by
      have e : spot R (q + 1) = q := by unfold spot; rw [if_pos ⟨hk2, by omega⟩]; rfl
      refine ⟨e, ?_⟩
      rw [e]
      unfold wideN
      rw [if_pos hkl])
    have C2 := CI (q : Int) (by omega)
    rw [wide_nat, decide_eq_true hkl] at C2
    obtain ⟨p, hpq⟩ : ∃ p, p = q + 1 := ⟨_, rfl⟩
    rw [← hpq] at hat hk2 C1 g1 g2 d1 d2 hp HS ⊢
    obtain ⟨e, he⟩ : ∃ e, e = p + 1 := ⟨_, rfl⟩
    obtain ⟨ad, m, cm, hm, _, k2, k2a, _⟩ := cut_both g n c q e (by omega) (by omega)
    have hm2 : m = 2 := by omega
    subst hm2
    obtain rfl := k2a (by omega)
    have s1 : IntKind.i64.wrap ((p : Int) - 1) = (q : Int) := by rw [IntKind.wrap_i64]; omega
    have s2 : IntKind.i64.wrap ((p : Int) + 1) = (e : Int) := by rw [IntKind.wrap_i64]; omega
    obtain ⟨_, _, _, b3, _⟩ := hat
    have hkb : ((gc R p).k == 2) = true := by simp [hk2]
    have hkc : ((gc R p).k != 2) = false := by simp [hk2]
    rw [hk2] at b3
    clear he hc hk1 hk2 hkl hm k2a H hw CI hn hpq hp0 hkb hkc
    go_enter Try.func96, Try.ntmps96
    go_wp2_with fail
    refine C1.out.mono ?_
    rintro e0 w' ⟨rfl, rfl⟩
    go_wp2_with fail
    refine C2.out.mono ?_
    rintro e0 w' ⟨rfl, rfl⟩
    go_wp2
    go_ret
    exact ⟨c - q, by rw [HS.out.2, HS.out.1]; rfl, rfl⟩
  · have HS := Lib.hid (show spot R p = p ∧ wideN R (spot R p) = 1 by
      have e : spot R p = p := by unfold spot; rw [if_neg (fun h => hk2 h.1)]
      refine ⟨e, ?_⟩
      rw [e]
      unfold wideN
      rw [if_neg hk1])
    obtain ⟨e, he⟩ : ∃ e, e = p + 1 := ⟨_, rfl⟩
    obtain ⟨ad, m, cm, hm, _, k2, k2a, _⟩ := cut_both g n c p e (by omega) (by omega)
    have hm2 : m = 1 := by omega
    subst hm2
    obtain rfl := k2a (by omega)
    have s1 : IntKind.i64.wrap ((p : Int) + 1) = (e : Int) := by rw [IntKind.wrap_i64]; omega
    obtain ⟨_, _, _, b3, _⟩ := hat
    obtain ⟨x, hx⟩ : ∃ x, x = (gc R p).k := ⟨_, rfl⟩
    rw [← hx] at b3 hk2
    have hkb : (x == 2) = false := by simp [hk2]
    have hkc : (x != 2) = true := by simp [hk2]
    clear he hc hk1 hm k2a H hw CI hn hx
    go_enter Try.func96, Try.ntmps96
    go_wp2_with fail
    refine C1.out.mono ?_
    rintro e0 w' ⟨rfl, rfl⟩
    go_wp2
    go_ret
    exact ⟨c - p, by rw [HS.out.2, HS.out.1]; rfl, rfl⟩
theorem marked_none (w : World) (a : Option Addr) (n c : Nat) (i : Int) (hi : i < 0 ∨ (n : Int) ≤ i) :
    Calls Try.prog 96 #[.slice a n c, .int .i64 i] w fun e w' => e = .returned (.slice none 0 0) ∧ w = w' := by
  by_cases h0 : i < 0
  · have d1 : decide (i < 0) = true := decide_eq_true h0
    go_enter Try.func96, Try.ntmps96
    go_wp2
    go_ret
    exact ⟨rfl, rfl⟩
  · have d1 : decide (i < 0) = false := decide_eq_false h0
    have g2 : (n : Int) ≤ i := by omega
    have d2 : decide ((n : Int) ≤ i) = true := decide_eq_true g2
    clear hi
    go_enter Try.func96, Try.ntmps96
    go_wp2
    go_ret
    exact ⟨rfl, rfl⟩
abbrev m2V (x y : Int) : Value := .agg #[.int .i32 x, .int .i32 y]
set_option maxHeartbeats 4000000 in
theorem withMark_any (w : World) (x y m : Int) : Calls Try.prog 97 #[m2V x y, .int .i32 m] w fun e w' => e = .returned (if x = 0 then m2V m y else if y = 0 then m2V x m else m2V x y) ∧ Below w.heap.size w w' := by
  obtain ⟨w0, hw0⟩ : ∃ w0, w0 = (w.alloc (.cells #[.int .i32 x, .int .i32 y] 34)).alloc (.cells #[.int .i32 0, .int .i32 0] 34) := ⟨_, rfl⟩
  obtain ⟨b, hb⟩ : ∃ b, b = w.heap.size := ⟨_, rfl⟩
  obtain ⟨z, hz⟩ : ∃ z, z = w.heap.size + 1 := ⟨_, rfl⟩
  have b0 : Below w.heap.size w w0 := by rw [hw0]; exact ((Below.refl _ _).alloc (Nat.le_refl _) _).alloc (by simp) _
  have x0 : w0.cell? ⟨b, 0, none⟩ = some (.int .i32 x) := by rw [hw0, hb]; simp
  have x1 : w0.cell? ⟨b, 1, none⟩ = some (.int .i32 y) := by rw [hw0, hb]; simp
  have z0 : w0.cell? ⟨z, 0, none⟩ = some (.int .i32 0) := by rw [hw0, hz]; simp
  have z1 : w0.cell? ⟨z, 1, none⟩ = some (.int .i32 0) := by rw [hw0, hz]; simp
  have xf : ∀ i, w0.frozen? ⟨b, i, none⟩ = false := fun i => by rw [hw0, hb]; simp
  have zf : ∀ i, w0.frozen? ⟨z, i, none⟩ = false := fun i => by rw [hw0, hz]; simp
  have hbz : b ≠ z := by omega
  have hzb : z ≠ b := by omega
  have HLO := Lib.hid (show w.heap.size ≤ b ∧ w.heap.size ≤ z by omega)
  have HB := Lib.hid b0
  clear b0
  have fin : ∀ (W : World) (p q : Int), Below w.heap.size w W → Below w.heap.size w ((W.setCell ⟨z, 0, none⟩ (.int .i32 p)).setCell ⟨z, 1, none⟩ (.int .i32 q)) := fun W p q hW => hW.trans (((But.set W z 0 _).trans (But.set _ z 1 _)).below (C := w.heap.size) HLO.out.2 hW.size)
  have FIN := Lib.hid fin
  have FB := Lib.hid (show ∀ (k : Nat), Below w.heap.size w (w0.setCell ⟨b, k, none⟩ (.int .i32 m)) from fun k => HB.out.trans ((But.set w0 b k _).below (C := w.heap.size) HLO.out.1 HB.out.size))
  clear fin
  by_cases hx : x = 0
  · subst hx
    go_enter Try.func97, Try.ntmps97
    go_upto_region 1 with (fail)
    rw [← hw0, ← hz, ← hb]
    clear hw0 hb hz
    go_wp2
    refine wp_loop_rounds 1 ?_
    rw [rounds_succ]
    go_wp2
    exact bodyPost_ret (v := m2V m y) (by simp [results, Try.results97, go_sem, z0, z1]) rfl ⟨rfl, FIN.out _ _ _ (FB.out 0)⟩
  · have k1 : (x == 0) = false := by simp [hx]
    by_cases hy : y = 0
    · subst hy
      rw [if_neg hx]
      clear hx
      go_enter Try.func97, Try.ntmps97
      go_upto_region 1 with (fail)
      rw [← hw0, ← hz, ← hb]
      clear hw0 hb hz
      go_wp2
      refine wp_loop_rounds 2 ?_
      rw [rounds_succ]
      go_wp2
      rw [rounds_succ]
      go_wp2
      exact bodyPost_ret (v := m2V x m) (by simp [results, Try.results97, go_sem, z0, z1]) rfl ⟨rfl, FIN.out _ _ _ (FB.out 1)⟩
    · have k2 : (y == 0) = false := by simp [hy]
      rw [if_neg hx, if_neg hy]
      clear hx hy
      go_enter Try.func97, Try.ntmps97
      go_upto_region 1 with (fail)
      rw [← hw0, ← hz, ← hb]
      clear hw0 hb hz
      go_wp2
      refine wp_loop_rounds 3 ?_
      rw [rounds_succ]
      go_wp2
      rw [rounds_succ]
      go_wp2
      rw [rounds_succ]
      go_wp2
      exact bodyPost_ret (v := m2V x y) (by simp [results, Try.results97, go_sem, z0, z1]) rfl ⟨rfl, FIN.out _ _ _ HB.out⟩
theorem markC_val (c : Cel) (m : Int) : (if c.m0 = 0 then m2V m c.m1 else if c.m1 = 0 then m2V c.m0 m else m2V c.m0 c.m1) = m2V (markC c m).m0 (markC c m).m1 := by
  unfold markC
  by_cases h0 : c.m0 = 0
  · rw [if_pos h0, if_pos h0]
  · rw [if_neg h0, if_neg h0]
    by_cases h1 : c.m1 = 0
    · rw [if_pos h1, if_pos h1]
    · rw [if_neg h1, if_neg h1]
theorem markC_only (c : Cel) (m : Int) : markC c m = { c with m0 := (markC c m).m0, m1 := (markC c m).m1 } := by
  unfold markC
  by_cases h0 : c.m0 = 0
  · rw [if_pos h0]
  · rw [if_neg h0]
    by_cases h1 : c.m1 = 0
    · rw [if_pos h1]
    · rw [if_neg h1]
theorem CRow.marks {w : World} {lo g n cp : Nat} {R : Cls} (h : CRow w lo (.slice (some ⟨g, 0, none⟩) n cp) R) (hn : n = R.length) {q : Nat} (hq : q < R.length) (m : Int) :
    CRow ((w.setCell ⟨g, q * 14 + 1, none⟩ (.int .i32 (markC (gc R q) m).m0)).setCell ⟨g, q * 14 + 2, none⟩ (.int .i32 (markC (gc R q) m).m1)) lo (.slice (some ⟨g, 0, none⟩) n cp) (R.set q (markC (gc R q) m)) := by
  obtain ⟨c, hc⟩ : ∃ c, c = gc R q := ⟨_, rfl⟩
  obtain ⟨d, hd⟩ : ∃ d, d = markC c m := ⟨_, rfl⟩
  have he : d = { c with m0 := d.m0, m1 := d.m1 } := by rw [hd]; exact markC_only c m
  rw [← hc, ← hd]
  have h1 := h.fld hn hq (j := 1) (u := .int .i32 d.m0) (c := { c with m0 := d.m0 }) (by decide) (by rw [← hc]; rfl)
  have h2 := h1.fld (by rw [List.length_set]; exact hn) (i := q) (j := 2) (u := .int .i32 d.m1) (c := d) (by rw [List.length_set]; exact hq) (by decide) (by rw [gc_set hq, if_pos rfl, he]; rfl)
  rw [List.set_set] at h2
  exact h2
theorem mark_raise {R : Cls} {q : Nat} (hq : q + wideN R q ≤ R.length) (m l : Int) (hr : (gc R q).ru ≠ 0) : markP R q m l = raiseAt (R.set q (markC (gc R q) m)) q (wideN R q) l := by
  have hq1 : q < R.length := by unfold wideN at hq; split at hq <;> omega
  refine ext_gc (by rw [len_markP, len_raiseAt, List.length_set]) fun i hi => ?_
  rw [len_markP] at hi
  rw [gc_markP m l hi hr, gc_raiseAt (by rw [List.length_set]; exact hi), gc_set hi]
  by_cases e : i = q
  · rw [if_pos e, if_pos (by unfold wideN; split <;> omega), if_pos e]
  · rw [if_neg e, if_neg e]
    by_cases hk : (gc R q).k = 1
    · unfold wideN
      rw [if_pos hk]
      by_cases e2 : i = q + 1
      · rw [if_pos ⟨hk, e2⟩, if_pos (by omega), e2]
      · rw [if_neg (fun h => e2 h.2), if_neg (by omega)]
    · unfold wideN
      rw [if_neg hk, if_neg (fun h => hk h.1), if_neg (by omega)]
theorem Lv.marked {R : Cls} (h : Lv R) (q : Nat) (m : Int) : Lv (R.set q (markC (gc R q) m)) := by
  intro i hi
  rw [List.length_set] at hi
  rw [gc_set hi]
  split
  · rename_i e
    rw [(markC_same _ _).2.2.1, ← e]
    exact h i hi
  · exact h i hi
set_option maxHeartbeats 8000000 in
set_option maxRecDepth 100000 in
theorem mark_any (w : World) (v : Value) (R : Cls) (i m l : Int) (h : RowIn w v R) (hw : Wh R) (hv : Lv R) (hl : R.length ≤ 1000) (h01 : l = 0 ∨ l = 1) : Calls Try.prog 79 #[v, .int .i64 i, .int .i32 m, .int .u8 l] w (OwnRes w (markM R i m l)) := by
  obtain ⟨a, c, rfl⟩ := h.shape
  have HC := Lib.hid (anew_any w _ R h (by omega))
  have HW := Lib.hid hw
  have HV := Lib.hid hv
  have HL01 := Lib.hid h01
  obtain ⟨n, hn⟩ : ∃ n, n = R.length := ⟨_, rfl⟩
  have HN := Lib.hid hn
  rw [← hn] at hl HC ⊢
  have HLN := Lib.hid hl
  clear h hw hv hn h01 hl
  go_enter Try.func79, Try.ntmps79
  go_wp2_with fail
  refine HC.out.mono ?_
  rintro e w1 ⟨g, c1, rfl, hc1, own1, hg1, hg2, b1⟩
  rw [← HN.out] at own1 hc1 ⊢
  have HO := Lib.hid own1
  have HB := Lib.hid b1
  have HG := Lib.hid hg1
  have HC1 := Lib.hid hc1
  clear own1 b1 hg1 hg2 hc1 HC
  by_cases hi : i < 0 ∨ (n : Int) ≤ i
  · have HE := Lib.hid (show markM R i m l = R by unfold markM; rw [if_pos (by rw [← HN.out]; exact hi)])
    have HM := Lib.hid (marked_none w1 (some ⟨g, 0, none⟩) n c1 i hi)
    clear hi
    go_wp2_with fail
    refine HM.out.mono ?_
    rintro e w2 ⟨rfl, rfl⟩
    go_wp2
    go_ret
    exact ⟨_, rfl, by rw [HE.out]; exact HO.out, HB.out⟩
  obtain ⟨p, rfl⟩ : ∃ p : Nat, i = (p : Int) := ⟨i.toNat, by omega⟩
  have hp : p < n := by omega
  obtain ⟨q, hq⟩ : ∃ q, q = spot R p := ⟨_, rfl⟩
  obtain ⟨k, hk⟩ : ∃ k, k = wideN R q := ⟨_, rfl⟩
  have HM := Lib.hid (marked_any w1 _ g n c1 R p HO.out HN.out HC1.out HLN.out HW.out hp)
  rw [← hq, ← hk] at HM
  have HQK := Lib.hid (show q + k ≤ n by rw [hk, hq, HN.out]; exact spot_wide HW.out (by rw [← HN.out]; exact hp))
  have hk1 : 0 < k := by rw [hk]; unfold wideN; split <;> omega
  have hk0 : ¬ k = 0 := by omega
  have HMM := Lib.hid (show markM R (p : Int) m l = markP R q m l by unfold markM; rw [if_neg (by rw [← HN.out]; exact hi), Int.toNat_natCast, ← hq])
  have HKK := Lib.hid hk
  have hqn : q < R.length := by rw [← HN.out]; have := HQK.out; omega
  have HQN := Lib.hid hqn
  obtain ⟨x, hx⟩ : ∃ x, x = gc R q := ⟨_, rfl⟩
  have HX := Lib.hid hx
  obtain ⟨o, ho⟩ : ∃ o, o = q * 14 := ⟨_, rfl⟩
  have HOO := Lib.hid ho
  rw [← ho] at HM
  have hat := HO.out.at hqn
  rw [← hx, ← ho] at hat
  clear hi hq hk hqn hx ho hp
  by_cases hr : x.ru = 0
  · have HE := Lib.hid (show markM R (p : Int) m l = R by rw [HMM.out]; unfold markP; rw [if_pos (by rw [← HX.out]; exact hr)])
    obtain ⟨b0, _⟩ := hat
    rw [hr] at b0
    clear hr
    go_wp2_with fail
    refine HM.out.mono ?_
    rintro e w2 ⟨cm, rfl, rfl⟩
    go_wp2
    go_ret
    exact ⟨_, rfl, by rw [HE.out]; exact HO.out, HB.out⟩
  have kr : (x.ru == 0) = false := by simp [hr]
  have HR := Lib.hid hr
  obtain ⟨b0, b1, b2, _⟩ := hat
  obtain ⟨y, hy⟩ : ∃ y, y = markC x m := ⟨_, rfl⟩
  have HY := Lib.hid hy
  have CW := Lib.hid (show ∀ W, Calls Try.prog 97 #[m2V x.m0 x.m1, .int .i32 m] W fun e w' => e = .returned (m2V y.m0 y.m1) ∧ Below W.heap.size W w' from fun W => by
    have := withMark_any W x.m0 x.m1 m
    rw [markC_val, ← hy] at this
    exact this)
  clear hr hy
  go_wp2_with fail
  refine HM.out.mono ?_
  rintro e w2 ⟨cm, rfl, rfl⟩
  go_wp2_with fail
  refine (CW.out _).mono ?_
  rintro e w2 ⟨rfl, bb⟩
  have HO2 := Lib.hid (HO.out.below bb)
  have HB2 := Lib.hid (HB.out.trans (bb.mono HB.out.size))
  clear bb HO HB CW HM b0 b1 b2 kr
  obtain ⟨w3, hw3⟩ : ∃ w3, w3 = (w2.setCell ⟨g, o + 1, none⟩ (.int .i32 y.m0)).setCell ⟨g, o + 2, none⟩ (.int .i32 y.m1) := ⟨_, rfl⟩
  obtain ⟨Q, hQ⟩ : ∃ Q, Q = R.set q y := ⟨_, rfl⟩
  have HO3 := Lib.hid (show CRow w3 w.heap.size (.slice (some ⟨g, 0, none⟩) n c1) Q by
    rw [hw3, hQ, HOO.out, HY.out, HX.out]
    exact HO2.out.marks HN.out HQN.out m)
  have HB3 := Lib.hid (show Below w.heap.size w w3 by rw [hw3]; exact HB2.out.trans (((But.set w2 g (o + 1) _).trans (But.set _ g (o + 2) _)).below (C := w.heap.size) HG.out HB2.out.size))
  have HF := fun j => HO2.out.frozen HN.out j
  have hat := HO2.out.at HQN.out
  rw [← HX.out, ← HOO.out] at hat
  obtain ⟨b0, b1, b2, _⟩ := hat
  have HQL := Lib.hid (show n = Q.length by rw [hQ, List.length_set]; exact HN.out)
  have HQV := Lib.hid (show Lv Q by rw [hQ, HY.out, HX.out]; exact HV.out.marked q m)
  have HE := Lib.hid (show markM R (p : Int) m l = raiseAt Q q k l by
    rw [HMM.out, mark_raise (by rw [← HKK.out, ← HN.out]; exact HQK.out) m l (by rw [← HX.out]; exact HR.out), HKK.out, hQ, HY.out, HX.out])
  clear HO2 HB2 hQ
  go_upto_region 6 with (fail)
  rw [← hw3]
  clear hw3 HF b0 b1 b2
  have CR := Lib.hid (raise_any w3 _ g n c1 Q l q k cm (some ⟨g, o, none⟩) HO3.out HQL.out (by have := HLN.out; omega) HQK.out (fun _ => by rw [HOO.out]) HQV.out HL01.out)
  go_wp2_with fail
  refine CR.out.mono ?_
  rintro e w4 ⟨rfl, own4, but4⟩
  have HO4 := Lib.hid own4
  have HB4 := Lib.hid (HB3.out.trans (but4.below HG.out HB3.out.size))
  clear own4 but4 CR HO3 HB3
  go_wp2
  go_ret
  exact ⟨_, rfl, by rw [HE.out]; exact HO4.out, HB4.out⟩
end Go.Proofs.Ytdeahnphcfcfpaa.Lab
