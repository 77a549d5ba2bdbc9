/- The project's span, Clip, clipped. -/
import Derived.Test.YtlaafmjiiiaceaaDoorRcMath
set_option linter.unusedVariables false
namespace Go.Proofs.YtlaafmjiiiaceaaDoor.Lab
open Go Go.RowKit

def I64 (x : Int) : Prop := -9223372036854775808 ≤ x ∧ x ≤ 9223372036854775807
structure R4.Ok (r : R4) : Prop where
  t : I64 r.t
  l : I64 r.l
  n : I64 r.n
  c : I64 r.c
abbrev r4V (r : R4) : Value := .agg #[.int .i64 r.t, .int .i64 r.l, .int .i64 r.n, .int .i64 r.c]
theorem Rk.In.ok {k : Rk} {rows cols : Nat} (h : k.In rows cols) (h1 : rows ≤ 9223372036854775807) (h2 : cols ≤ 9223372036854775807) : k.r4.Ok := by
  have := h.r
  have := h.c
  exact ⟨⟨by unfold Rk.r4; dsimp only; omega, by unfold Rk.r4; dsimp only; omega⟩, ⟨by unfold Rk.r4; dsimp only; omega, by unfold Rk.r4; dsimp only; omega⟩, ⟨by unfold Rk.r4; dsimp only; omega, by unfold Rk.r4; dsimp only; omega⟩, ⟨by unfold Rk.r4; dsimp only; omega, by unfold Rk.r4; dsimp only; omega⟩⟩
theorem span_any (w : World) (f m : Int) (n : Nat) (hf : I64 f) (hm : I64 m) (hn : n ≤ 9223372036854775807) : Calls Tryd.prog 37 #[.int .i64 f, .int .i64 m, .int .i64 (n : Nat)] w fun x w' => x = .returned (.tuple #[.int .i64 ((spanM f m n).1 : Nat), .int .i64 ((spanM f m n).2 : Nat)]) ∧ w = w' := by
  obtain ⟨hf1, hf2⟩ := hf
  obtain ⟨hm1, hm2⟩ := hm
  by_cases h1 : m < 1
  · rw [span_no (.inl h1)]
    go_enter Tryd.func37, Tryd.ntmps37
    go_wp2
    go_ret2
    exact ⟨rfl, rfl⟩
  · by_cases h2 : (n : Int) ≤ f
    · rw [span_no (.inr h2)]
      go_enter Tryd.func37, Tryd.ntmps37
      go_wp2
      go_ret2
      exact ⟨rfl, rfl⟩
    · by_cases h3 : f < 0
      · have u1 : IntKind.i64.wrap (m + f) = m + f := by rw [IntKind.wrap_i64]; omega
        have u2 : IntKind.i64.wrap ((n : Int) - 0) = (n : Int) := by rw [IntKind.wrap_i64]; omega
        have u3 : IntKind.i64.wrap (n : Int) = (n : Int) := by rw [IntKind.wrap_i64]; omega
        have u4 : ¬ (n : Int) < 0 := by omega
        by_cases h4 : (n : Int) < m + f
        · have E : spanM f m n = (0, n) := by
            rw [span_yes (by omega), if_pos h3]
            congr 1 <;> omega
          rw [E]
          clear E
          go_enter Tryd.func37, Tryd.ntmps37
          go_wp2
          go_ret2
          exact ⟨rfl, rfl⟩
        · by_cases h5 : m + f < 0
          · have E : spanM f m n = (0, 0) := by
              rw [span_yes (by omega), if_pos h3]
              congr 1 <;> omega
            rw [E]
            clear E
            go_enter Tryd.func37, Tryd.ntmps37
            go_wp2
            go_ret2
            exact ⟨rfl, rfl⟩
          · obtain ⟨q, hq⟩ : ∃ q : Nat, m + f = (q : Int) := ⟨(m + f).toNat, by omega⟩
            have E : spanM f m n = (0, q) := by
              rw [span_yes (by omega), if_pos h3]
              congr 1 <;> omega
            rw [E]
            have h6 : ¬ (n : Int) < (q : Int) := by omega
            have h7 : ¬ (q : Int) < 0 := by omega
            have h8 : ¬ n < q := by omega
            rw [hq] at u1
            clear E h4 h5
            go_enter Tryd.func37, Tryd.ntmps37
            go_wp2
            go_ret2
            exact ⟨rfl, rfl⟩
      · obtain ⟨p, rfl⟩ : ∃ p : Nat, f = (p : Int) := ⟨f.toNat, by omega⟩
        obtain ⟨r, hr⟩ : ∃ r : Nat, (n : Int) - (p : Int) = (r : Int) := ⟨((n : Int) - (p : Int)).toNat, by omega⟩
        obtain ⟨m', rfl⟩ : ∃ m' : Nat, m = (m' : Int) := ⟨m.toNat, by omega⟩
        have u1 : IntKind.i64.wrap (r : Int) = (r : Int) := by rw [IntKind.wrap_i64]; omega
        by_cases h4 : r < m'
        · have E : spanM (p : Int) (m' : Int) n = (p, r) := by
            rw [span_yes (by omega), if_neg h3]
            congr 1 <;> omega
          rw [E]
          have h5 : (r : Int) < (m' : Int) := by omega
          have h6 : ¬ (r : Int) < 0 := by omega
          clear E
          go_enter Tryd.func37, Tryd.ntmps37
          go_wp2
          go_ret2
          exact ⟨rfl, rfl⟩
        · have E : spanM (p : Int) (m' : Int) n = (p, m') := by
            rw [span_yes (by omega), if_neg h3]
            congr 1 <;> omega
          rw [E]
          have h5 : ¬ (r : Int) < (m' : Int) := by omega
          have h6 : ¬ (m' : Int) < 0 := by omega
          clear E
          go_enter Tryd.func37, Tryd.ntmps37
          go_wp2
          go_ret2
          exact ⟨rfl, rfl⟩
abbrev rkV (k : Rk) : Value := .agg #[.int .i64 (k.t : Nat), .int .i64 (k.l : Nat), .int .i64 (k.n : Nat), .int .i64 (k.c : Nat)]
set_option maxHeartbeats 1000000 in
theorem clip_any (w : World) (r : R4) (rows cols : Nat) (hr : r.Ok) (h1 : rows ≤ 9223372036854775807) (h2 : cols ≤ 9223372036854775807) :
    Calls Tryd.prog 17 #[r4V r, .int .i64 (rows : Nat), .int .i64 (cols : Nat)] w fun x w' => x = .returned (rkV (clipM r rows cols)) ∧ Below w.heap.size w w' := by
  obtain ⟨t, l, n, c⟩ := r
  obtain ⟨o1, o2, o3, o4⟩ := hr
  dsimp only at o1 o2 o3 o4 ⊢
  have S1 := fun wx => span_any wx t n rows o1 o3 h1
  have S2 := fun wx => span_any wx l c cols o2 o4 h2
  obtain ⟨p, hp⟩ : ∃ p, p = spanM t n rows := ⟨_, rfl⟩
  obtain ⟨q, hq⟩ : ∃ q, q = spanM l c cols := ⟨_, rfl⟩
  rw [← hp] at S1
  rw [← hq] at S2
  have E : clipM ⟨t, l, n, c⟩ rows cols = if p.2 = 0 ∨ q.2 = 0 then Rk.z else ⟨p.1, q.1, p.2, q.2⟩ := by unfold clipM; rw [hp, hq]
  rw [E]
  clear E hp hq o1 o2 o3 o4 h1 h2
  obtain ⟨p1, p2⟩ := p
  obtain ⟨q1, q2⟩ := q
  dsimp only at S1 S2 ⊢
  by_cases hb : p2 = 0
  · subst hb
    rw [if_pos (.inl rfl)]
    go_enter Tryd.func17, Tryd.ntmps17
    go_wp2_with fail
    refine (S1 _).mono ?_
    rintro e w1 ⟨rfl, rfl⟩
    go_wp2_with fail
    refine (S2 _).mono ?_
    rintro e w1 ⟨rfl, rfl⟩
    go_wp2
    exact bodyPost_ret (v := .agg #[.int .i64 0, .int .i64 0, .int .i64 0, .int .i64 0]) (by simp [results, Tryd.results17, go_sem]) rfl ⟨rfl, ((Below.refl _ _).alloc (Nat.le_refl _) _).alloc (by simp) _⟩
  · have e1 : ((p2 : Int) == 0) = false := by simpa using hb
    by_cases hd : q2 = 0
    · subst hd
      rw [if_pos (.inr rfl)]
      go_enter Tryd.func17, Tryd.ntmps17
      go_wp2_with fail
      refine (S1 _).mono ?_
      rintro e w1 ⟨rfl, rfl⟩
      go_wp2_with fail
      refine (S2 _).mono ?_
      rintro e w1 ⟨rfl, rfl⟩
      go_wp2
      exact bodyPost_ret (v := .agg #[.int .i64 0, .int .i64 0, .int .i64 0, .int .i64 0]) (by simp [results, Tryd.results17, go_sem]) rfl ⟨rfl, ((Below.refl _ _).alloc (Nat.le_refl _) _).alloc (by simp) _⟩
    · have e2 : ((q2 : Int) == 0) = false := by simpa using hd
      rw [if_neg (by omega)]
      go_enter Tryd.func17, Tryd.ntmps17
      go_wp2_with fail
      refine (S1 _).mono ?_
      rintro e w1 ⟨rfl, rfl⟩
      go_wp2_with fail
      refine (S2 _).mono ?_
      rintro e w1 ⟨rfl, rfl⟩
      go_wp2
      exact bodyPost_ret (v := .agg #[.int .i64 (p1 : Nat), .int .i64 (q1 : Nat), .int .i64 (p2 : Nat), .int .i64 (q2 : Nat)]) (by simp [results, Tryd.results17, go_sem]) rfl ⟨rfl, ((Below.refl _ _).alloc (Nat.le_refl _) _).alloc (by simp) _⟩
/-! ### grids as they can be read -/
/-- Row headers, and the rows that they read as. -/
def HdsIn (w : World) (G : List Cls) (U : Nat → Value) : Prop := ∀ i, i < G.length → RowIn w (U i) (rowG G i)
/-- A grid as it can be read. -/
def GSee (w : World) (v : Value) (G : List Cls) (U : Nat → Value) : Prop :=
  ∃ a c, v = .slice a G.length c ∧ G.length ≤ c ∧ (0 < G.length → ∃ g o, a = some ⟨g, o, none⟩ ∧ g < w.heap.size ∧ ∀ i, i < G.length → w.cell? ⟨g, o + i, none⟩ = some (U i)) ∧ HdsIn w G U
theorem GSee.below {w w' : World} {v : Value} {G : List Cls} {U : Nat → Value} (h : GSee w v G U) (k : Below w.heap.size w w') : GSee w' v G U := by
  obtain ⟨a, c, e, h1, h2, h3⟩ := h
  refine ⟨a, c, e, h1, fun h0 => ?_, fun i hi => (h3 i hi).below k⟩
  obtain ⟨g, o, ea, hg, hc⟩ := h2 h0
  exact ⟨g, o, ea, Nat.lt_of_lt_of_le hg k.size, fun i hi => (k.cell (p := ⟨g, o + i, none⟩) hg).trans (hc i hi)⟩
theorem GSee.shape {w : World} {v : Value} {G : List Cls} {U : Nat → Value} (h : GSee w v G U) : ∃ a c, v = .slice a G.length c := by
  obtain ⟨a, c, e, _⟩ := h
  exact ⟨a, c, e⟩
theorem GSee.row {w : World} {v : Value} {G : List Cls} {U : Nat → Value} (h : GSee w v G U) {i : Nat} (hi : i < G.length) : RowIn w (U i) (rowG G i) := by
  obtain ⟨_, _, _, _, _, h3⟩ := h
  exact h3 i hi
theorem GSee.open {w : World} {v : Value} {G : List Cls} {U : Nat → Value} (h : GSee w v G U) (h0 : 0 < G.length) : ∃ g o c, v = .slice (some ⟨g, o, none⟩) G.length c ∧ G.length ≤ c ∧ g < w.heap.size ∧ ∀ i, i < G.length → w.cell? ⟨g, o + i, none⟩ = some (U i) := by
  obtain ⟨a, c, e, h1, h2, _⟩ := h
  obtain ⟨g, o, ea, hg, hc⟩ := h2 h0
  exact ⟨g, o, c, by rw [e, ea], h1, hg, hc⟩
def colsN (k m : Nat) : Nat := if k = 0 then 9223372036854775807 else m
set_option maxHeartbeats 2000000 in
theorem clipped_any (w : World) (v : Value) (G : List Cls) (U : Nat → Value) (m : Nat) (r : R4) (h : GSee w v G U) (hg : GG G m) (hr : r.Ok) :
    Calls Tryd.prog 40 #[v, r4V r] w fun x w' => x = .returned (rkV (clipM r G.length m)) ∧ Below w.heap.size w w' := by
  obtain ⟨n, hn⟩ : ∃ n, n = G.length := ⟨_, rfl⟩
  have hn6 : n ≤ 600 := by rw [hn]; exact hg.n1
  have hm6 := hg.m1
  have HC := fun wx => clip_any wx r n (colsN n m) hr (by omega) (by unfold colsN; split <;> omega)
  have HE := Lib.hid (show clipM r n (colsN n m) = clipM r n m by
    by_cases h0 : n = 0
    · subst h0; exact clip_norows _ _ _
    · unfold colsN; rw [if_neg h0])
  obtain ⟨t, l, nn, cc⟩ := r
  have HS := Lib.hid h
  obtain ⟨a, c, rfl⟩ := h.shape
  have HG := Lib.hid hg
  rw [← hn] at HS ⊢
  have HN := Lib.hid hn
  obtain ⟨w0, hw0⟩ : ∃ W0, W0 = (w.alloc (.cells #[.int .i64 t, .int .i64 l, .int .i64 nn, .int .i64 cc] 30)).alloc (.cells #[.int .i64 0, .int .i64 0, .int .i64 0, .int .i64 0] 30) := ⟨_, rfl⟩
  obtain ⟨b3, hb3⟩ : ∃ b, b = w.heap.size := ⟨_, rfl⟩
  obtain ⟨b4, hb4⟩ : ∃ b, b = w.heap.size + 1 := ⟨_, rfl⟩
  have HB0 := Lib.hid (show Below w.heap.size w w0 by rw [hw0]; exact ((Below.refl _ _).alloc (Nat.le_refl _) _).alloc (by simp) _)
  have HS0 := Lib.hid (HS.out.below HB0.out)
  clear h hg hr hn HS
  go_enter Tryd.func40, Tryd.ntmps40
  go_upto_region 1 with (fail)
  rw [← hw0, ← hb4, ← hb3]
  have c0 : w0.cell? ⟨b3, 0, none⟩ = some (.int .i64 t) := by rw [hw0, hb3]; simp
  have c1 : w0.cell? ⟨b3, 1, none⟩ = some (.int .i64 l) := by rw [hw0, hb3]; simp
  have c2 : w0.cell? ⟨b3, 2, none⟩ = some (.int .i64 nn) := by rw [hw0, hb3]; simp
  have c3 : w0.cell? ⟨b3, 3, none⟩ = some (.int .i64 cc) := by rw [hw0, hb3]; simp
  have HZ := Lib.hid (show b4 < w0.heap.size ∧ w.heap.size ≤ b4 ∧ ∀ i, i < 4 → w0.cell? ⟨b4, i, none⟩ = some (.int .i64 0) ∧ w0.frozen? ⟨b4, i, none⟩ = false by
    rw [hw0, hb4]
    refine ⟨by simp, by omega, fun i hi => ?_⟩
    rcases (by omega : i = 0 ∨ i = 1 ∨ i = 2 ∨ i = 3) with rfl | rfl | rfl | rfl <;> constructor <;> simp)
  clear hw0 hb3 hb4
  go_wp2
  go_loopg [5, 10] n (fun gl vc vi wr => ∃ k : Nat, vi = .int .i64 k ∧ k ≤ n ∧ n - k ≤ gl ∧ vc = .int .i64 (colsN k m : Nat) ∧ wr = w0)
  case atStart => exact ⟨0, rfl, Nat.zero_le _, Nat.sub_le _ _, rfl, rfl⟩
  case round =>
    obtain ⟨k, rfl, hk, hgk, rfl, rfl⟩ := hrel
    by_cases hlt : k < n
    · obtain ⟨g, o, c', e, hcap, hgs, hcell⟩ := HS0.out.open (by rw [← HN.out]; omega)
      injection e with e1 e2 e3
      subst e1 e3
      have hck := hcell k (by rw [← HN.out]; exact hlt)
      have hrow := HS0.out.row (i := k) (by rw [← HN.out]; exact hlt)
      have hlen := (HG.out.at (i := k) (by rw [← HN.out]; exact hlt)).2.1
      obtain ⟨ua, uc, hu⟩ := hrow.shape
      rw [hlen] at hu
      rw [hu] at hck
      clear hcell hrow hlen hu hcap hgs e2
      have HQ := Lib.hid (show colsN (k + 1) m = m from rfl)
      by_cases hk0 : k = 0
      · obtain ⟨q, hq⟩ : ∃ q, q = colsN k m := ⟨_, rfl⟩
        have hmq : m < q := by rw [hq, hk0]; unfold colsN; rw [if_pos rfl]; omega
        rw [← hq]
        clear hq hk0
        go_wp2
        go_roundg (n - (k + 1))
        case rel => exact ⟨k + 1, by go_num, by omega, Nat.le_refl _, by rw [HQ.out], rfl⟩
        case measure => omega
      · rw [show colsN k m = m by unfold colsN; rw [if_neg hk0]]
        clear hk0
        go_wp2
        go_roundg (n - (k + 1))
        case rel => exact ⟨k + 1, by go_num, by omega, Nat.le_refl _, by rw [HQ.out], rfl⟩
        case measure => omega
    · obtain rfl : k = n := by omega
      obtain ⟨q, hq⟩ : ∃ q, q = colsN k m := ⟨_, rfl⟩
      have HE2 := Lib.hid (show clipM ⟨t, l, nn, cc⟩ k q = clipM ⟨t, l, nn, cc⟩ k m by rw [hq]; exact HE.out)
      rw [← hq] at HC ⊢
      clear hq HE HG HN HS0
      go_wp2_with fail
      refine (HC _).mono ?_
      rintro e w1 ⟨rfl, b1⟩
      have HB1 := Lib.hid b1
      have hs4 := HB0.out.size
      obtain ⟨z1, z2, z3⟩ := HZ.out
      have f0 : w1.frozen? ⟨b4, 0, none⟩ = false := (HB1.out.frozen (p := ⟨b4, 0, none⟩) z1).trans (z3 0 (by omega)).2
      have f1 : w1.frozen? ⟨b4, 1, none⟩ = false := (HB1.out.frozen (p := ⟨b4, 1, none⟩) z1).trans (z3 1 (by omega)).2
      have f2 : w1.frozen? ⟨b4, 2, none⟩ = false := (HB1.out.frozen (p := ⟨b4, 2, none⟩) z1).trans (z3 2 (by omega)).2
      have f3 : w1.frozen? ⟨b4, 3, none⟩ = false := (HB1.out.frozen (p := ⟨b4, 3, none⟩) z1).trans (z3 3 (by omega)).2
      have d0 : w1.cell? ⟨b4, 0, none⟩ = some (.int .i64 0) := (HB1.out.cell (p := ⟨b4, 0, none⟩) z1).trans (z3 0 (by omega)).1
      have d1 : w1.cell? ⟨b4, 1, none⟩ = some (.int .i64 0) := (HB1.out.cell (p := ⟨b4, 1, none⟩) z1).trans (z3 1 (by omega)).1
      have d2 : w1.cell? ⟨b4, 2, none⟩ = some (.int .i64 0) := (HB1.out.cell (p := ⟨b4, 2, none⟩) z1).trans (z3 2 (by omega)).1
      have d3 : w1.cell? ⟨b4, 3, none⟩ = some (.int .i64 0) := (HB1.out.cell (p := ⟨b4, 3, none⟩) z1).trans (z3 3 (by omega)).1
      have HBF := Lib.hid (show ∀ (W : World), But b4 w1 W → Below w.heap.size w W from fun W k => HB0.out.trans ((HB1.out.mono hs4).trans (k.below z2 (by have := HB1.out.size; omega))))
      clear b1 c0 c1 c2 c3 z1 z2 z3
      rw [HE2.out]
      obtain ⟨kk, hkk⟩ : ∃ kk, kk = clipM ⟨t, l, nn, cc⟩ k m := ⟨_, rfl⟩
      rw [← hkk]
      obtain ⟨kt, kl, kn, kc⟩ := kk
      have HKK := Lib.hid hkk
      clear hkk HE2
      go_wp2
      exact bodyPost_ret (v := .agg #[.int .i64 (kt : Nat), .int .i64 (kl : Nat), .int .i64 (kn : Nat), .int .i64 (kc : Nat)]) (by simp [results, Tryd.results40, go_sem, d0, d1, d2, d3]) rfl ⟨by rw [← HKK.out], HBF.out _ ((((But.set w1 b4 0 _).trans (But.set _ b4 1 _)).trans (But.set _ b4 2 _)).trans (But.set _ b4 3 _))⟩
end Go.Proofs.YtlaafmjiiiaceaaDoor.Lab
