/- What the document's answer is asked for: cells at any places, rows, copies, rows that are set, rows of any cells. The reference's is and Is. Lists of rows that are the same: the reference's Same. -/
import Derived.Test.YtdeahnphcfcfpaaGrOpA
import Derived.Test.YtdeahnphcfcfpaaGdCopy
import Derived.Test.YtdeahnphcfcfpaaGrNew
import Derived.Test.YtdeahnphcfcfpaaGgGood
import Derived.Test.YtdeahnphcfcfpaaRoSame
namespace Go.Proofs.Ytdeahnphcfcfpaa.Lab
open Go Go.RowKit

structure Siz (G : List Cls) (m : Nat) : Prop where
  row : ∀ R ∈ G, R.length = m
  n0 : 0 < G.length
  n1 : G.length ≤ 520
  m0 : 0 < m
  m1 : m ≤ 520
theorem Good.siz {G : List Cls} {m : Nat} (g : Good G m) : Siz G m := ⟨fun R hR => (g.row R hR).2.1, g.n0, g.n1, g.m0, g.m1⟩
theorem Siz.len {G : List Cls} {m : Nat} (h : Siz G m) {i : Nat} (hi : i < G.length) : (rowG G i).length = m := h.row _ (rowG_mem hi)
theorem SizeIs.raw {w : World} {lo p rb c m : Nat} {G : List Cls} (h : Gg w lo p rb c G) (g : Siz G m) : SizeIs w (gV p) G.length m := by
  obtain ⟨H, h1, rfl⟩ := h
  have := SizeIs.of h1 (by have := g.n0; rwa [List.length_map] at this)
  rw [rowG_hd, g.len g.n0] at this
  rwa [List.length_map]
theorem ssize (w : World) (lo p rb c m : Nat) (G : List Cls) (h : Gg w lo p rb c G) (g : Siz G m) : Calls Try.prog 22 #[gV p] w fun e w' => e = .returned (.tuple #[.int .i64 (G.length : Nat), .int .i64 (m : Nat)]) ∧ Below w.heap.size w w' := SizeIs.raw h g w (Below.refl _ _)
theorem sgrow (w : World) (lo p rb c m k : Nat) (G : List Cls) (h : Gg w lo p rb c G) (g : Siz G m) (hk : k < G.length) :
    Calls Try.prog 16 #[gV p, .int .i64 (k : Nat)] w fun e w' => ∃ x : Hd, e = .returned (hdV x) ∧ x.R = rowG G k ∧ w.heap.size ≤ x.b ∧ CRow w' w.heap.size (hdV x) x.R ∧ Below w.heap.size w w' := by
  obtain ⟨H, h1, h2⟩ := h
  have hl : H.length = G.length := by rw [← h2, List.length_map]
  have e : (hdAt H k).R = rowG G k := by rw [rowG_hd, h2]
  have := row_yes w lo p rb c k H h1 (by omega) (by rw [e, g.len hk]; have := g.m0; have := g.m1; omega)
  rwa [e] at this
set_option maxHeartbeats 4000000 in
set_option maxRecDepth 100000 in
theorem rows_raw (w : World) (lo p rb c m : Nat) (G : List Cls) (h : Gg w lo p rb c G) (gd : Siz G m) :
    Calls Try.prog 12 #[gV p] w fun e w' => ∃ v Kl, e = .returned v ∧ GRow w' w.heap.size w.heap.size v Kl ∧ Kl.map (·.R) = G ∧ Fr w.heap.size Kl ∧ Below w.heap.size w w' := by
  obtain ⟨n, hn⟩ : ∃ n, n = G.length := ⟨_, rfl⟩
  have HGG := Lib.hid (show ∀ W, Below w.heap.size w W → Gg W lo p rb c G from fun W k => h.below k)
  have HGD := Lib.hid gd
  have hn5 : n ≤ 520 := by have := gd.n1; omega
  have HNN := Lib.hid hn
  have HSZ := Lib.hid (ssize w lo p rb c m G h gd)
  rw [← hn] at HSZ
  clear h gd hn
  go_enter Try.func12, Try.ntmps12
  go_wp2_with fail
  refine HSZ.out.mono ?_
  rintro e w1 ⟨rfl, b1⟩
  have HB0 := Lib.hid b1
  have HG0 := Lib.hid (show GRow w1 w.heap.size w.heap.size (.slice none 0 0) [] from GRow.nil _ _ _)
  have HM0 := Lib.hid (show (([] : List Hd).map (·.R)) = G.take 0 from rfl)
  have HF0 := Lib.hid (Fr.nil w.heap.size)
  clear b1 HSZ
  go_wp2
  go_loopg [3, 6] n (fun Gs v i wr => ∃ (k : Nat) (F : List Hd), i = .int .i64 k ∧ k ≤ n ∧ n - k ≤ Gs ∧ Hid (GRow wr w.heap.size w.heap.size v F) ∧ Hid (F.map (·.R) = G.take k) ∧ Hid (Fr w.heap.size F) ∧ Hid (Below w.heap.size w wr))
  case atStart => exact ⟨0, [], rfl, Nat.zero_le _, Nat.sub_le _ _, HG0, HM0, HF0, HB0⟩
  case round =>
    obtain ⟨k, F, rfl, hkn, hgk, HG, HM, HF, HB⟩ := hrel
    clear HG0 HM0 HF0 HB0
    by_cases hlt : k < n
    · have HLT := Lib.hid (show k + 1 ≤ n from hlt)
      have HKG := Lib.hid (show k < G.length by have := HNN.out; omega)
      go_wp2_with fail
      refine (sgrow wr lo p rb c m k G (HGG.out wr HB.out) HGD.out HKG.out).mono ?_
      rintro e w1 ⟨x, rfl, hxR, hxb, own2, b1⟩
      have HX := Lib.hid own2
      have HXR := Lib.hid hxR
      have HXB := Lib.hid hxb
      have HB1 := Lib.hid b1
      have HZ1 := Lib.hid (HB.out.size)
      obtain ⟨q, hq⟩ : ∃ q, q = w1.heap.size := ⟨_, rfl⟩
      obtain ⟨w2, hw2⟩ : ∃ x', x' = w1.alloc (.cells #[hdV x] 26) := ⟨_, rfl⟩
      have b2 : Below w1.heap.size w1 w2 := by rw [hw2]; exact (Below.refl _ _).alloc (Nat.le_refl _) _
      have HI := Lib.hid (show GIn w2 w.heap.size (.slice (some ⟨q, 0, none⟩) 1 1) [x] by rw [hw2]; exact GIn.one (own2.lower HB.out.size) q hq)
      have HG2 := Lib.hid ((HG.out.below b1).below b2)
      have HB2 := Lib.hid ((HB.out.trans (b1.mono HB.out.size)).trans (b2.mono (Nat.le_trans HB.out.size b1.size)))
      have HFL := Lib.hid (show F.length = k by
        have := congrArg List.length HM.out
        rw [List.length_map, List.length_take] at this
        have := HNN.out
        omega)
      have hlen : F.length + [x].length ≤ 100000 := by
        have := HFL.out
        simp only [List.length_cons, List.length_nil]
        omega
      clear own2 hxR hxb b1 b2
      go_wp2_with (at_builtin; rw [← hw2, ← hq]; clear hw2 hq; refine wpList_append_hds rfl (.tmp 17) (.tmp 21) rfl w.heap.size w.heap.size _ F rfl HG2.out _ [x] rfl HI.out hlen HB2.out.size ?_)
      intro v' w3 own3 grow3
      have HG3 := Lib.hid own3
      have hrow : ∀ j, u3.ownBlock = some j → w.heap.size ≤ j := fun j hj => (HG2.out.1.lt j hj).1
      have HB3 := Lib.hid (HB2.out.grown grow3 HB2.out.size (fun j hj => hrow j hj))
      have HM3 := Lib.hid (show (F ++ [x]).map (·.R) = G.take (k + 1) by
        rw [List.map_append, HM.out, List.take_succ_eq_append_getElem HKG.out]
        show G.take k ++ [x.R] = _
        rw [HXR.out]
        unfold rowG
        rw [List.getD_eq_getElem?_getD, List.getElem?_eq_getElem HKG.out]
        rfl)
      have HF3 := Lib.hid (show Fr w.heap.size (F ++ [x]) from HF.out.snoc (m := wr.heap.size) (fun y hy => (HG.out.2.lt hy).2) HXB.out HZ1.out)
      clear own3 grow3 hrow hlen HG HM HF HB HG2 HB2 HI HX HXR HXB HB1 HZ1
      go_wp2
      go_roundg (n - (k + 1))
      case rel => exact ⟨k + 1, F ++ [x], by go_num, HLT.out, Nat.le_refl _, HG3, HM3, HF3, HB3⟩
      case measure => have := HLT.out; omega
    · obtain rfl : k = n := by omega
      have HV := Lib.hid (HG.out.shape)
      have HME := Lib.hid (show F.map (·.R) = G by rw [HM.out, HNN.out, List.take_length])
      go_wp2
      go_ret
      exact ⟨_, F, rfl, HG.out, HME.out, HF.out, HB.out⟩
set_option maxHeartbeats 4000000 in
theorem rows_none (w : World) : Calls Try.prog 12 #[.pointer none] w fun e w' => e = .returned (.slice none 0 0) ∧ w = w' := by
  go_enter Try.func12, Try.ntmps12
  go_wp2_with fail
  refine (size_none w).mono ?_
  rintro e w1 ⟨rfl, rfl⟩
  go_wp2
  refine wp_loop_rounds (1) ?_
  rw [rounds_succ]
  go_wp2
  go_ret
  exact ⟨rfl, rfl⟩
def atM (G : List Cls) (m : Nat) (r cl : Int) : Cel := if (isInB r G.length && isInB cl m) = true then gc (rowG G r.toNat) cl.toNat else Cel.z
theorem gat_any (w : World) (lo p rb c m : Nat) (G : List Cls) (r cl : Int) (h : Gg w lo p rb c G) (g : Siz G m) :
    Calls Try.prog 14 #[gV p, .agg #[.int .i64 r, .int .i64 cl]] w fun e w' => e = .returned (.tuple #[celV (atM G m r cl), .bool (isInB r G.length && isInB cl m)]) ∧ Below w.heap.size w w' := by
  cases hb : isInB r G.length && isInB cl m with
  | false =>
    unfold atM
    rw [hb, if_neg (by decide)]
    exact at_no w (gV p) G.length m r cl (SizeIs.raw h g) hb
  | true =>
    unfold atM
    rw [if_pos hb]
    rw [Bool.and_eq_true] at hb
    obtain ⟨i, rfl, hi⟩ := isInB_true hb.1
    obtain ⟨j, rfl, hj⟩ := isInB_true hb.2
    obtain ⟨H, h1, h2⟩ := h
    have hl : H.length = G.length := by rw [← h2, List.length_map]
    have e : ∀ k, (hdAt H k).R = rowG G k := fun k => by rw [rowG_hd, h2]
    have := at_yes w lo p rb c i j H h1 (by omega) (by rw [e, g.len g.n0]; exact hj) (by rw [e, e, g.len g.n0, g.len hi])
    rw [e] at this
    rwa [Int.toNat_natCast, Int.toNat_natCast]
theorem grow_len (w : World) (lo p rb c m : Nat) (G : List Cls) (k : Int) (h : Gg w lo p rb c G) (g : Siz G m) :
    Calls Try.prog 16 #[gV p, .int .i64 k] w fun e w' => ∃ a l cc, e = .returned (.slice a l cc) ∧ (isInB k G.length = true → 0 < l) ∧ (isInB k G.length = false → l = 0) ∧ Below w.heap.size w w' := by
  cases hb : isInB k G.length with
  | false =>
    obtain ⟨H, h1, h2⟩ := h
    have hl : H.length = G.length := by rw [← h2, List.length_map]
    refine (row_no w p H.length c (some ⟨rb, 0, none⟩) k h1.cell (by rw [hl]; exact hb)).mono ?_
    rintro e w' ⟨rfl, rfl⟩
    exact ⟨none, 0, 0, rfl, fun h => absurd h (by decide), fun _ => rfl, Below.refl _ _⟩
  | true =>
    obtain ⟨i, rfl, hi⟩ := isInB_true hb
    refine (sgrow w lo p rb c m i G h g hi).mono ?_
    rintro e w' ⟨x, rfl, hx, _, _, b⟩
    exact ⟨_, x.R.length, x.c, rfl, fun _ => by rw [hx, g.len hi]; exact g.m0, fun h => absurd h (by decide), b⟩
theorem gcopy_gg (w : World) (lo p rb c m : Nat) (G : List Cls) (h : Gg w lo p rb c G) (g : Siz G m) :
    Calls Try.prog 17 #[gV p] w fun e w' => ∃ p2 rb2 c2, e = .returned (gV p2) ∧ Gg w' w.heap.size p2 rb2 c2 G ∧ Below w.heap.size w w' := by
  obtain ⟨H, h1, h2⟩ := h
  have hl : H.length = G.length := by rw [← h2, List.length_map]
  have n0 := g.n0
  have n1 := g.n1
  have m0 := g.m0
  have m1 := g.m1
  refine (gcopy_any w lo p rb c H h1 (by omega) (by omega) (fun x hx => by have := g.row x.R (by rw [← h2]; exact List.mem_map_of_mem hx); omega)).mono ?_
  rintro e w' ⟨p2, rb2, c2, K, rfl, k1, k2, _, b⟩
  exact ⟨p2, rb2, c2, rfl, ⟨K, k1, by rw [k2, h2]⟩, b⟩
theorem setRG_siz {G : List Cls} {m : Nat} (g : Siz G m) (k : Int) (R : Cls) : Siz (setRG G k R) m := by
  unfold setRG
  split
  · rename_i hb
    rw [Bool.and_eq_true] at hb
    have hR : R.length = m := by have := of_decide_eq_true hb.2; rw [this, g.len g.n0]
    refine ⟨fun Q hQ => ?_, by rw [List.length_set]; exact g.n0, by rw [List.length_set]; exact g.n1, g.m0, g.m1⟩
    rcases List.mem_or_eq_of_mem_set hQ with q | q
    · exact g.row Q q
    · rw [q]; exact hR
  · exact g
theorem gset_gg (w : World) (lo p rb c m l cc : Nat) (a : Option Addr) (G : List Cls) (k : Int) (R : Cls) (h : Gg w lo p rb c G) (g : Siz G m) (hlo : lo ≤ w.heap.size) (hv : RowIn w (.slice a l cc) R) (hR : R.length ≤ 1000) :
    Calls Try.prog 18 #[gV p, .int .i64 k, .slice a l cc] w fun e w' => e = .returned (.bool (isInB k G.length && decide (l = m))) ∧ Gg w' lo p rb c (setRG G k R) ∧ Buts (· = rb) w w' := by
  have hlR : R.length = l := by obtain ⟨_, _, e⟩ := hv.shape; injection e with _ e _; exact e.symm
  have h0 : (rowG G 0).length = m := g.len g.n0
  cases hb : isInB k G.length && decide (l = m) with
  | false =>
    refine (gset_no w (gV p) G.length m l cc k a (SizeIs.raw h g) hb).mono ?_
    rintro e w' ⟨rfl, b⟩
    refine ⟨rfl, ?_, Buts.of b⟩
    unfold setRG
    rw [h0, hlR, hb, if_neg (by decide)]
    exact h.below b
  | true =>
    have hb' := hb
    rw [Bool.and_eq_true] at hb
    obtain ⟨i, rfl, hi⟩ := isInB_true hb.1
    have hlm : l = m := of_decide_eq_true hb.2
    obtain ⟨H, h1, h2⟩ := h
    have hl : H.length = G.length := by rw [← h2, List.length_map]
    have e0 : (hdAt H 0).R = rowG G 0 := by rw [rowG_hd, h2]
    refine (gset_yes w lo p rb c i H (.slice a l cc) R h1 hlo (by omega) hv (by rw [e0, h0]; omega) (by have := g.m0; omega) hR).mono ?_
    rintro e w' ⟨rfl, ⟨x, x1, _, x3⟩, bt⟩
    refine ⟨rfl, ?_, bt⟩
    unfold setRG
    rw [h0, hlR, if_pos hb', Int.toNat_natCast]
    exact Gg.of_set x3 h2 x1
def smallM (a b : Int) (q : Cel) : List Cls := if canB a b = true then List.replicate a.toNat (newM b.toNat q) else []
/-- A grid that is, or is none. -/
def Small (w : World) (q : Option Addr) (a b : Int) (x : Cel) : Prop := (canB a b = true → ∃ lo p rb c, q = some ⟨p, 0, none⟩ ∧ Gg w lo p rb c (smallM a b x) ∧ Siz (smallM a b x) b.toNat) ∧ (canB a b = false → q = none)
theorem Small.below {w w' : World} {q : Option Addr} {a b : Int} {x : Cel} (h : Small w q a b x) (k : Below w.heap.size w w') : Small w' q a b x :=
  ⟨fun hc => by obtain ⟨lo, p, rb, c, e, g, s⟩ := h.1 hc; exact ⟨lo, p, rb, c, e, g.below k, s⟩, h.2⟩
theorem gnew_or (w : World) (a b : Int) (x : Cel) : Calls Try.prog 9 #[.int .i64 a, .int .i64 b, celV x] w fun e w' => ∃ q, e = .returned (.pointer q) ∧ q.isNone = !canB a b ∧ Small w' q a b x ∧ Below w.heap.size w w' := by
  cases hc : canB a b with
  | false =>
    refine (gnew_none w a b x hc).mono ?_
    rintro e w' ⟨rfl, k⟩
    exact ⟨none, rfl, rfl, ⟨fun h => (by rw [hc] at h; cases h), fun _ => rfl⟩, k⟩
  | true =>
    obtain ⟨n, m, rfl, rfl, h1, h2, h3, h4⟩ := canB_true hc
    refine (gnew w n m x hc).mono ?_
    rintro e w' ⟨p, rb, cc, rfl, g, k⟩
    refine ⟨_, rfl, rfl, ⟨fun _ => ⟨w.heap.size, p, rb, cc, rfl, ?_, ?_⟩, fun h => (by rw [hc] at h; cases h)⟩, k⟩
    · unfold smallM
      rw [if_pos hc, Int.toNat_natCast, Int.toNat_natCast]
      exact g
    · unfold smallM
      rw [if_pos hc, Int.toNat_natCast, Int.toNat_natCast]
      exact ⟨fun R hR => by rw [List.eq_of_mem_replicate hR]; exact len_newM m x, by rw [List.length_replicate]; omega, by rw [List.length_replicate]; omega, by omega, by omega⟩
theorem rows_small (w : World) (q : Option Addr) (a b : Int) (x : Cel) (h : Small w q a b x) : Calls Try.prog 12 #[.pointer q] w fun e w' => ∃ v, e = .returned v ∧ Rl w' w.heap.size v (smallM a b x) ∧ Below w.heap.size w w' := by
  cases hc : canB a b with
  | false =>
    obtain rfl := h.2 hc
    refine (rows_none w).mono ?_
    rintro e w' ⟨rfl, rfl⟩
    refine ⟨_, rfl, ?_, Below.refl _ _⟩
    unfold smallM
    rw [hc, if_neg (by decide)]
    exact Rl.nil _ _
  | true =>
    obtain ⟨lo, p, rb, c, rfl, g, s⟩ := h.1 hc
    refine (rows_raw w lo p rb c _ _ g s).mono ?_
    rintro e w' ⟨v, K, rfl, k1, k2, _, b⟩
    exact ⟨v, rfl, ⟨K, k1, k2⟩, b⟩
theorem rgnew_or (w : World) (a b : Int) (x : Cel) : Calls Try.prog 13 #[.int .i64 a, .int .i64 b, celV x] w fun e w' => ∃ v, e = .returned (.agg #[v]) ∧ Rl w' w.heap.size v (smallM a b x) ∧ Below w.heap.size w w' := by
  cases hc : canB a b with
  | false =>
    refine (rgnew_no w a b x hc).mono ?_
    rintro e w' ⟨rfl, k⟩
    refine ⟨_, rfl, ?_, k⟩
    unfold smallM
    rw [hc, if_neg (by decide)]
    exact Rl.nil _ _
  | true =>
    obtain ⟨n, m, rfl, rfl, h1, h2, h3, h4⟩ := canB_true hc
    refine (rgnew_yes w n m x hc).mono ?_
    rintro e w' ⟨v, rfl, k1, k⟩
    refine ⟨v, rfl, ?_, k⟩
    unfold smallM
    rw [if_pos hc, Int.toNat_natCast, Int.toNat_natCast]
    exact k1
theorem small_len (a b : Int) (x : Cel) : (smallM a b x).length ≤ 600 ∧ ∀ R ∈ smallM a b x, R.length ≤ 1000 := by
  unfold smallM
  split
  · rename_i hc
    obtain ⟨n, m, rfl, rfl, h1, h2, h3, h4⟩ := canB_true hc
    rw [Int.toNat_natCast, Int.toNat_natCast]
    exact ⟨by rw [List.length_replicate]; omega, fun R hR => by rw [List.eq_of_mem_replicate hR, len_newM]; omega⟩
  · exact ⟨Nat.zero_le _, fun R hR => by cases hR⟩

theorem is_any (w : World) (a : Option Addr) (n c : Nat) (k : Int) : Calls Try.prog 46 #[.agg #[.slice a n c], .int .i64 k] w fun e w' => e = .returned (.bool (isInB k n)) ∧ Below w.heap.size w w' := by
  obtain ⟨w0, hw0⟩ : ∃ X, X = w.alloc (.cells #[.slice a n c] 29) := ⟨_, rfl⟩
  obtain ⟨b2, hb2⟩ : ∃ b, b = w.heap.size := ⟨_, rfl⟩
  have HB0 := Lib.hid (show Below w.heap.size w w0 by rw [hw0]; exact (Below.refl _ _).alloc (Nat.le_refl _) _)
  have y0 : w0.cell? ⟨b2, 0, none⟩ = some (.slice a n c) := by rw [hw0, hb2]; simp
  by_cases h0 : 0 ≤ k
  · by_cases h1 : k < (n : Int)
    · have HR := Lib.hid (show isInB k n = true by unfold isInB; simp; omega)
      go_enter Try.func46, Try.ntmps46
      go_upto_region 1 with (fail)
      rw [← hw0, ← hb2]
      clear hw0 hb2
      go_wp2
      go_ret
      exact ⟨by rw [HR.out]; rfl, HB0.out⟩
    · have HR := Lib.hid (show isInB k n = false by unfold isInB; simp; omega)
      go_enter Try.func46, Try.ntmps46
      go_upto_region 1 with (fail)
      rw [← hw0, ← hb2]
      clear hw0 hb2
      go_wp2
      go_ret
      exact ⟨by rw [HR.out]; rfl, HB0.out⟩
  · have HR := Lib.hid (show isInB k n = false by unfold isInB; simp; omega)
    go_enter Try.func46, Try.ntmps46
    go_upto_region 1 with (fail)
    rw [← hw0, ← hb2]
    clear hw0 hb2
    go_wp2
    go_ret
    exact ⟨by rw [HR.out]; rfl, HB0.out⟩
set_option maxHeartbeats 4000000 in
set_option maxRecDepth 100000 in
theorem Is_any (w : World) (g n cc m xc : Nat) (xa : Option Addr) (r cl : Int) (h0 : w.cell? ⟨g, 0, none⟩ = some (.slice xa m xc)) (hg : g < w.heap.size) :
    Calls Try.prog 15 #[.agg #[.slice (some ⟨g, 0, none⟩) n cc], .agg #[.int .i64 r, .int .i64 cl]] w fun e w' => e = .returned (.bool (isInB r n && isInB cl m)) ∧ Below w.heap.size w w' := by
  obtain ⟨w0, hw0⟩ : ∃ X, X = (w.alloc (.cells #[.slice (some ⟨g, 0, none⟩) n cc] 29)).alloc (.cells #[.int .i64 r, .int .i64 cl] 48) := ⟨_, rfl⟩
  obtain ⟨b2, hb2⟩ : ∃ b, b = w.heap.size := ⟨_, rfl⟩
  obtain ⟨b3, hb3⟩ : ∃ b, b = w.heap.size + 1 := ⟨_, rfl⟩
  have B0 : Below w.heap.size w w0 := by rw [hw0]; exact ((Below.refl _ _).alloc (Nat.le_refl _) _).alloc (by simp) _
  have l2 : Lie w0 b2 [.slice (some ⟨g, 0, none⟩) n cc] := by rw [hw0]; exact (Lie.new w _ _ b2 hb2).below ((Below.refl _ _).alloc (Nat.le_refl _) _)
  have l3 : Lie w0 b3 [.int .i64 r, .int .i64 cl] := by rw [hw0]; exact Lie.new _ _ _ b3 (by rw [hb3]; simp)
  have c0 : w0.cell? ⟨g, 0, none⟩ = some (.slice xa m xc) := (B0.cell (p := ⟨g, 0, none⟩) hg).trans h0
  have hg0 : g < w0.heap.size := Nat.lt_of_lt_of_le hg B0.size
  have HSK := Lib.hid (show ∀ W, Below w0.heap.size w0 W → (fun wx => wx.cell? ⟨b2, 0, none⟩ = some (.slice (some ⟨g, 0, none⟩) n cc) ∧ wx.cell? ⟨b3, 0, none⟩ = some (.int .i64 r) ∧ wx.cell? ⟨b3, 1, none⟩ = some (.int .i64 cl) ∧ wx.cell? ⟨g, 0, none⟩ = some (.slice xa m xc)) W from fun W kb => ⟨(l2.below kb).at 0 rfl, (l3.below kb).at 0 rfl, (l3.below kb).at 1 rfl, (kb.cell (p := ⟨g, 0, none⟩) hg0).trans c0⟩)
  have HB0 := Lib.hid B0
  clear l2 l3 c0 hg0 B0 h0 hg
  cases hi : isInB r n with
  | false =>
    have HI := Lib.hid hi
    have HRES := Lib.hid (show (false && isInB cl m) = false from rfl)
    clear hi
    go_enter Try.func15, Try.ntmps15
    go_upto_region 1 with (fail)
    rw [← hw0, ← hb3, ← hb2]
    clear hw0 hb2 hb3
    refine wp_region_held_drew (S := fun wx => wx.cell? ⟨b2, 0, none⟩ = some (.slice (some ⟨g, 0, none⟩) n cc) ∧ wx.cell? ⟨b3, 0, none⟩ = some (.int .i64 r) ∧ wx.cell? ⟨b3, 1, none⟩ = some (.int .i64 cl) ∧ wx.cell? ⟨g, 0, none⟩ = some (.slice xa m xc)) (by kernel_rfl) ?_ (fun hHeld => ?_)
    · exact HSK.out _ ((Below.refl _ _).drew)
    obtain ⟨wd, hwd⟩ : ∃ X, X = w0.drew := ⟨_, rfl⟩
    have HX := Lib.hid (show Below w0.heap.size w0 wd by rw [hwd]; exact (Below.refl _ _).drew)
    replace hHeld := HSK.out _ HX.out
    rw [← hwd]
    clear hwd
    refine tk 0 rfl (fun w hSw => by (try dsimp only at hSw); go_simp; try with_reducible rfl) ?_
    go_frame
    refine tk 1 rfl (fun w hSw => by (try dsimp only at hSw); go_simp; try with_reducible rfl) ?_
    go_frame
    refine tk 2 rfl (fun w hSw => by (try dsimp only at hSw); go_simp; try with_reducible rfl) ?_
    go_frame
    refine do_at (i := 3) rfl (by kernel_rfl) (by kernel_rfl) (fun K hK => ?_)
    go_simp
    refine (is_any wd (some ⟨g, 0, none⟩) n cc r).mono ?_
    rintro e wz ⟨rfl, bz⟩
    rw [HI.out]
    replace HX := Lib.hid (HX.out.trans (bz.mono HX.out.size))
    clear bz
    go_wp2_with fail
    refine hK.out _ _ ?_ (fun hHeld => ?_)
    · exact HSK.out _ HX.out
    clear hK K
    try go_frame
    refine tk 4 rfl (fun w hSw => by (try dsimp only at hSw); go_simp; try with_reducible rfl) ?_
    go_frame
    refine sk 5 rfl ?_
    go_frame
    refine sk 6 rfl ?_
    go_frame
    refine sk 7 rfl ?_
    go_frame
    refine tk 8 rfl (fun w hSw => by (try dsimp only at hSw); go_simp; try with_reducible rfl) ?_
    go_frame
    refine tk 9 rfl (fun w hSw => by (try dsimp only at hSw); go_simp; try with_reducible rfl) ?_
    go_frame
    refine sk 10 rfl ?_
    go_frame
    refine sk 11 rfl ?_
    go_frame
    refine sk 12 rfl ?_
    go_frame
    refine sk 13 rfl ?_
    go_frame
    refine sk 14 rfl ?_
    go_frame
    refine sk 15 rfl ?_
    go_frame
    refine sk 16 rfl ?_
    go_frame
    refine sk 17 rfl ?_
    go_frame
    refine tk 18 rfl (fun w hSw => by (try dsimp only at hSw); go_simp; try with_reducible rfl) ?_
    go_frame
    refine tk 19 rfl (fun w hSw => by (try dsimp only at hSw); go_simp; try with_reducible rfl) ?_
    go_frame
    refine wpAnyH_done (by kernel_rfl) ?_ _
    have HXE := Lib.hid (HB0.out.trans (HX.out.mono HB0.out.size))
    clear hHeld HX
    go_wp2
    go_ret
    exact ⟨by rw [HRES.out]; rfl, HXE.out⟩
  | true =>
    have HI := Lib.hid hi
    have hn0 : (0 : Int) < (n : Int) := by obtain ⟨k, rfl, hk⟩ := isInB_true hi; omega
    have hn1 : 0 < n := by omega
    clear hi
    by_cases hc : 0 ≤ cl
    · have hcd : decide (0 ≤ cl) = true := decide_eq_true hc
      by_cases hm : cl < (m : Int)
      · have hmd : decide (cl < (m : Int)) = true := decide_eq_true hm
        have HRES := Lib.hid (show (true && isInB cl m) = true by unfold isInB; rw [hcd, hmd]; rfl)
        go_enter Try.func15, Try.ntmps15
        go_upto_region 1 with (fail)
        rw [← hw0, ← hb3, ← hb2]
        clear hw0 hb2 hb3
        refine wp_region_held_drew (S := fun wx => wx.cell? ⟨b2, 0, none⟩ = some (.slice (some ⟨g, 0, none⟩) n cc) ∧ wx.cell? ⟨b3, 0, none⟩ = some (.int .i64 r) ∧ wx.cell? ⟨b3, 1, none⟩ = some (.int .i64 cl) ∧ wx.cell? ⟨g, 0, none⟩ = some (.slice xa m xc)) (by kernel_rfl) ?_ (fun hHeld => ?_)
        · exact HSK.out _ ((Below.refl _ _).drew)
        obtain ⟨wd, hwd⟩ : ∃ X, X = w0.drew := ⟨_, rfl⟩
        have HX := Lib.hid (show Below w0.heap.size w0 wd by rw [hwd]; exact (Below.refl _ _).drew)
        replace hHeld := HSK.out _ HX.out
        rw [← hwd]
        clear hwd
        refine tk 0 rfl (fun w hSw => by (try dsimp only at hSw); go_simp; try with_reducible rfl) ?_
        go_frame
        refine tk 1 rfl (fun w hSw => by (try dsimp only at hSw); go_simp; try with_reducible rfl) ?_
        go_frame
        refine tk 2 rfl (fun w hSw => by (try dsimp only at hSw); go_simp; try with_reducible rfl) ?_
        go_frame
        refine do_at (i := 3) rfl (by kernel_rfl) (by kernel_rfl) (fun K hK => ?_)
        go_simp
        refine (is_any wd (some ⟨g, 0, none⟩) n cc r).mono ?_
        rintro e wz ⟨rfl, bz⟩
        rw [HI.out]
        replace HX := Lib.hid (HX.out.trans (bz.mono HX.out.size))
        clear bz
        go_wp2_with fail
        refine hK.out _ _ ?_ (fun hHeld => ?_)
        · exact HSK.out _ HX.out
        clear hK K
        try go_frame
        refine tk 4 rfl (fun w hSw => by (try dsimp only at hSw); go_simp; try with_reducible rfl) ?_
        go_frame
        refine tk 5 rfl (fun w hSw => by (try dsimp only at hSw); go_simp; try with_reducible rfl) ?_
        go_frame
        refine tk 6 rfl (fun w hSw => by (try dsimp only at hSw); go_simp; try with_reducible rfl) ?_
        go_frame
        refine tk 7 rfl (fun w hSw => by (try dsimp only at hSw); go_simp; try with_reducible rfl) ?_
        go_frame
        refine tk 8 rfl (fun w hSw => by (try dsimp only at hSw); go_simp; try with_reducible rfl) ?_
        go_frame
        refine tk 9 rfl (fun w hSw => by (try dsimp only at hSw); go_simp; try with_reducible rfl) ?_
        go_frame
        refine tk 10 rfl (fun w hSw => by (try dsimp only at hSw); go_simp; try with_reducible rfl) ?_
        go_frame
        refine tk 11 rfl (fun w hSw => by (try dsimp only at hSw); go_simp; try with_reducible rfl) ?_
        go_frame
        refine tk 12 rfl (fun w hSw => by (try dsimp only at hSw); go_simp; try with_reducible rfl) ?_
        go_frame
        refine tk 13 rfl (fun w hSw => by (try dsimp only at hSw); go_simp; try with_reducible rfl) ?_
        go_frame
        refine tk 14 rfl (fun w hSw => by (try dsimp only at hSw); go_simp; try with_reducible rfl) ?_
        go_frame
        refine tk 15 rfl (fun w hSw => by (try dsimp only at hSw); go_simp; try with_reducible rfl) ?_
        go_frame
        refine tk 16 rfl (fun w hSw => by (try dsimp only at hSw); go_simp; try with_reducible rfl) ?_
        go_frame
        refine tk 17 rfl (fun w hSw => by (try dsimp only at hSw); go_simp; try with_reducible rfl) ?_
        go_frame
        refine tk 18 rfl (fun w hSw => by (try dsimp only at hSw); go_simp; try with_reducible rfl) ?_
        go_frame
        refine tk 19 rfl (fun w hSw => by (try dsimp only at hSw); go_simp; try with_reducible rfl) ?_
        go_frame
        refine wpAnyH_done (by kernel_rfl) ?_ _
        have HXE := Lib.hid (HB0.out.trans (HX.out.mono HB0.out.size))
        clear hHeld HX
        go_wp2
        go_ret
        exact ⟨by rw [HRES.out]; rfl, HXE.out⟩
      · have hmd : decide (cl < (m : Int)) = false := decide_eq_false hm
        have HRES := Lib.hid (show (true && isInB cl m) = false by unfold isInB; rw [hcd, hmd]; rfl)
        go_enter Try.func15, Try.ntmps15
        go_upto_region 1 with (fail)
        rw [← hw0, ← hb3, ← hb2]
        clear hw0 hb2 hb3
        refine wp_region_held_drew (S := fun wx => wx.cell? ⟨b2, 0, none⟩ = some (.slice (some ⟨g, 0, none⟩) n cc) ∧ wx.cell? ⟨b3, 0, none⟩ = some (.int .i64 r) ∧ wx.cell? ⟨b3, 1, none⟩ = some (.int .i64 cl) ∧ wx.cell? ⟨g, 0, none⟩ = some (.slice xa m xc)) (by kernel_rfl) ?_ (fun hHeld => ?_)
        · exact HSK.out _ ((Below.refl _ _).drew)
        obtain ⟨wd, hwd⟩ : ∃ X, X = w0.drew := ⟨_, rfl⟩
        have HX := Lib.hid (show Below w0.heap.size w0 wd by rw [hwd]; exact (Below.refl _ _).drew)
        replace hHeld := HSK.out _ HX.out
        rw [← hwd]
        clear hwd
        refine tk 0 rfl (fun w hSw => by (try dsimp only at hSw); go_simp; try with_reducible rfl) ?_
        go_frame
        refine tk 1 rfl (fun w hSw => by (try dsimp only at hSw); go_simp; try with_reducible rfl) ?_
        go_frame
        refine tk 2 rfl (fun w hSw => by (try dsimp only at hSw); go_simp; try with_reducible rfl) ?_
        go_frame
        refine do_at (i := 3) rfl (by kernel_rfl) (by kernel_rfl) (fun K hK => ?_)
        go_simp
        refine (is_any wd (some ⟨g, 0, none⟩) n cc r).mono ?_
        rintro e wz ⟨rfl, bz⟩
        rw [HI.out]
        replace HX := Lib.hid (HX.out.trans (bz.mono HX.out.size))
        clear bz
        go_wp2_with fail
        refine hK.out _ _ ?_ (fun hHeld => ?_)
        · exact HSK.out _ HX.out
        clear hK K
        try go_frame
        refine tk 4 rfl (fun w hSw => by (try dsimp only at hSw); go_simp; try with_reducible rfl) ?_
        go_frame
        refine tk 5 rfl (fun w hSw => by (try dsimp only at hSw); go_simp; try with_reducible rfl) ?_
        go_frame
        refine tk 6 rfl (fun w hSw => by (try dsimp only at hSw); go_simp; try with_reducible rfl) ?_
        go_frame
        refine tk 7 rfl (fun w hSw => by (try dsimp only at hSw); go_simp; try with_reducible rfl) ?_
        go_frame
        refine tk 8 rfl (fun w hSw => by (try dsimp only at hSw); go_simp; try with_reducible rfl) ?_
        go_frame
        refine tk 9 rfl (fun w hSw => by (try dsimp only at hSw); go_simp; try with_reducible rfl) ?_
        go_frame
        refine tk 10 rfl (fun w hSw => by (try dsimp only at hSw); go_simp; try with_reducible rfl) ?_
        go_frame
        refine tk 11 rfl (fun w hSw => by (try dsimp only at hSw); go_simp; try with_reducible rfl) ?_
        go_frame
        refine tk 12 rfl (fun w hSw => by (try dsimp only at hSw); go_simp; try with_reducible rfl) ?_
        go_frame
        refine tk 13 rfl (fun w hSw => by (try dsimp only at hSw); go_simp; try with_reducible rfl) ?_
        go_frame
        refine tk 14 rfl (fun w hSw => by (try dsimp only at hSw); go_simp; try with_reducible rfl) ?_
        go_frame
        refine tk 15 rfl (fun w hSw => by (try dsimp only at hSw); go_simp; try with_reducible rfl) ?_
        go_frame
        refine tk 16 rfl (fun w hSw => by (try dsimp only at hSw); go_simp; try with_reducible rfl) ?_
        go_frame
        refine tk 17 rfl (fun w hSw => by (try dsimp only at hSw); go_simp; try with_reducible rfl) ?_
        go_frame
        refine tk 18 rfl (fun w hSw => by (try dsimp only at hSw); go_simp; try with_reducible rfl) ?_
        go_frame
        refine tk 19 rfl (fun w hSw => by (try dsimp only at hSw); go_simp; try with_reducible rfl) ?_
        go_frame
        refine wpAnyH_done (by kernel_rfl) ?_ _
        have HXE := Lib.hid (HB0.out.trans (HX.out.mono HB0.out.size))
        clear hHeld HX
        go_wp2
        go_ret
        exact ⟨by rw [HRES.out]; rfl, HXE.out⟩
    · have hcd : decide (0 ≤ cl) = false := decide_eq_false hc
      have HRES := Lib.hid (show (true && isInB cl m) = false by unfold isInB; rw [hcd]; rfl)
      go_enter Try.func15, Try.ntmps15
      go_upto_region 1 with (fail)
      rw [← hw0, ← hb3, ← hb2]
      clear hw0 hb2 hb3
      refine wp_region_held_drew (S := fun wx => wx.cell? ⟨b2, 0, none⟩ = some (.slice (some ⟨g, 0, none⟩) n cc) ∧ wx.cell? ⟨b3, 0, none⟩ = some (.int .i64 r) ∧ wx.cell? ⟨b3, 1, none⟩ = some (.int .i64 cl) ∧ wx.cell? ⟨g, 0, none⟩ = some (.slice xa m xc)) (by kernel_rfl) ?_ (fun hHeld => ?_)
      · exact HSK.out _ ((Below.refl _ _).drew)
      obtain ⟨wd, hwd⟩ : ∃ X, X = w0.drew := ⟨_, rfl⟩
      have HX := Lib.hid (show Below w0.heap.size w0 wd by rw [hwd]; exact (Below.refl _ _).drew)
      replace hHeld := HSK.out _ HX.out
      rw [← hwd]
      clear hwd
      refine tk 0 rfl (fun w hSw => by (try dsimp only at hSw); go_simp; try with_reducible rfl) ?_
      go_frame
      refine tk 1 rfl (fun w hSw => by (try dsimp only at hSw); go_simp; try with_reducible rfl) ?_
      go_frame
      refine tk 2 rfl (fun w hSw => by (try dsimp only at hSw); go_simp; try with_reducible rfl) ?_
      go_frame
      refine do_at (i := 3) rfl (by kernel_rfl) (by kernel_rfl) (fun K hK => ?_)
      go_simp
      refine (is_any wd (some ⟨g, 0, none⟩) n cc r).mono ?_
      rintro e wz ⟨rfl, bz⟩
      rw [HI.out]
      replace HX := Lib.hid (HX.out.trans (bz.mono HX.out.size))
      clear bz
      go_wp2_with fail
      refine hK.out _ _ ?_ (fun hHeld => ?_)
      · exact HSK.out _ HX.out
      clear hK K
      try go_frame
      refine tk 4 rfl (fun w hSw => by (try dsimp only at hSw); go_simp; try with_reducible rfl) ?_
      go_frame
      refine tk 5 rfl (fun w hSw => by (try dsimp only at hSw); go_simp; try with_reducible rfl) ?_
      go_frame
      refine tk 6 rfl (fun w hSw => by (try dsimp only at hSw); go_simp; try with_reducible rfl) ?_
      go_frame
      refine tk 7 rfl (fun w hSw => by (try dsimp only at hSw); go_simp; try with_reducible rfl) ?_
      go_frame
      refine tk 8 rfl (fun w hSw => by (try dsimp only at hSw); go_simp; try with_reducible rfl) ?_
      go_frame
      refine tk 9 rfl (fun w hSw => by (try dsimp only at hSw); go_simp; try with_reducible rfl) ?_
      go_frame
      refine sk 10 rfl ?_
      go_frame
      refine sk 11 rfl ?_
      go_frame
      refine sk 12 rfl ?_
      go_frame
      refine sk 13 rfl ?_
      go_frame
      refine sk 14 rfl ?_
      go_frame
      refine sk 15 rfl ?_
      go_frame
      refine sk 16 rfl ?_
      go_frame
      refine sk 17 rfl ?_
      go_frame
      refine tk 18 rfl (fun w hSw => by (try dsimp only at hSw); go_simp; try with_reducible rfl) ?_
      go_frame
      refine tk 19 rfl (fun w hSw => by (try dsimp only at hSw); go_simp; try with_reducible rfl) ?_
      go_frame
      refine wpAnyH_done (by kernel_rfl) ?_ _
      have HXE := Lib.hid (HB0.out.trans (HX.out.mono HB0.out.size))
      clear hHeld HX
      go_wp2
      go_ret
      exact ⟨by rw [HRES.out]; rfl, HXE.out⟩

set_option maxHeartbeats 4000000 in
set_option maxRecDepth 100000 in
theorem rsames_yes (w : World) (lo lo' : Nat) (u v : Value) (A : List Cls) (hA : Rl w lo u A) (hB : Rl w lo' v A) (hl : A.length ≤ 600) (hr : ∀ R ∈ A, R.length ≤ 1000) :
    Calls Try.prog 11 #[u, v] w fun e w' => e = .returned (.bool true) ∧ Below w.heap.size w w' := by
  obtain ⟨KA, hka, e1⟩ := hA
  obtain ⟨KB, hkb, e2⟩ := hB
  obtain ⟨ua, uc, rfl⟩ := hka.shape
  obtain ⟨va, vc, rfl⟩ := hkb.shape
  have h1 : KA.length = A.length := by rw [← e1, List.length_map]
  have h2 : KB.length = A.length := by rw [← e2, List.length_map]
  obtain ⟨n, hn⟩ : ∃ n, n = A.length := ⟨_, rfl⟩
  rw [h1, ← hn] at hka ⊢
  rw [h2, ← hn] at hkb ⊢
  rw [← hn] at h1 h2 hl
  have HN := Lib.hid hn
  have HKL := Lib.hid h1
  have HML := Lib.hid h2
  have HKA := Lib.hid hka
  have HKB := Lib.hid hkb
  have HE1 := Lib.hid e1
  have HE2 := Lib.hid e2
  have HR := Lib.hid hr
  have HT0 := Lib.hid (show Below w.heap.size w w from Below.refl _ _)
  clear hn h1 h2 hka hkb e1 e2 hr
  have hnn : ((n : Int) != (n : Int)) = false := by simp
  go_enter Try.func11, Try.ntmps11
  go_wp2
  go_loopg [5] n (fun Gs i wr => ∃ (k : Nat), i = .int .i64 k ∧ k ≤ n ∧ n - k ≤ Gs ∧ Hid (Below w.heap.size w wr))
  case atStart => exact ⟨0, rfl, Nat.zero_le _, Nat.sub_le _ _, HT0⟩
  case round =>
    obtain ⟨k, rfl, hkn, hgk, HT⟩ := hrel
    clear HT0 hnn
    by_cases hlt : k < n
    · have HLT := Lib.hid (show k + 1 ≤ n from hlt)
      have hk1 : k < KA.length := by have := HKL.out; omega
      have hk2 : k < KB.length := by have := HML.out; omega
      obtain ⟨ga, ca, e, _, hga⟩ := HKA.out.here (by omega)
      injection e with e1 e2 e3
      subst e1
      clear e2 e3
      obtain ⟨gb, cb, e, _, hgb⟩ := HKB.out.here (by omega)
      injection e with e1 e2 e3
      subst e1
      clear e2 e3
      obtain ⟨xa, hxa⟩ : ∃ x, x = KA[k] := ⟨_, rfl⟩
      obtain ⟨xb, hxb⟩ : ∃ x, x = KB[k] := ⟨_, rfl⟩
      have ra : xa.R = rowG A k := by rw [hxa, ← hdAt_eq hk1, rowG_hd, HE1.out]
      have rb : xb.R = rowG A k := by rw [hxb, ← hdAt_eq hk2, rowG_hd, HE2.out]
      have HSAME := Lib.hid (show decide (xa.R = xb.R) = true from decide_eq_true (by rw [ra, rb]))
      have HLEN := Lib.hid (show xa.R.length ≤ 10000 by rw [ra]; have := HR.out _ (rowG_mem (G := A) (i := k) (by have := HN.out; omega)); omega)
      have HRA := Lib.hid (show ∀ W, Below wr.heap.size wr W → RowIn W (hdV xa) xa.R from fun W kb => by rw [hxa]; exact (((HKA.out.below HT.out).below kb).row hk1).row)
      have HRB := Lib.hid (show ∀ W, Below wr.heap.size wr W → RowIn W (hdV xb) xb.R from fun W kb => by rw [hxb]; exact (((HKB.out.below HT.out).below kb).row hk2).row)
      have HSK := Lib.hid (show ∀ W, Below wr.heap.size wr W → (fun wx => wx.cell? ⟨ga, k, none⟩ = some (hdV xa) ∧ wx.cell? ⟨gb, k, none⟩ = some (hdV xb)) W from fun W kb => by
        refine ⟨?_, ?_⟩
        · rw [hxa]; exact ((HKA.out.below HT.out).below kb).at hk1
        · rw [hxb]; exact ((HKB.out.below HT.out).below kb).at hk2)
      clear hxa hxb ra rb hk1 hk2 hga hgb
      go_upto_region 6 with (fail)
      refine wp_region_held_drew (S := fun wx => wx.cell? ⟨ga, k, none⟩ = some (hdV xa) ∧ wx.cell? ⟨gb, k, none⟩ = some (hdV xb)) (by kernel_rfl) ?_ (fun hHeld => ?_)
      · exact HSK.out _ ((Below.refl _ _).drew)
      obtain ⟨wd, hwd⟩ : ∃ X, X = wr.drew := ⟨_, rfl⟩
      have HX := Lib.hid (show Below wr.heap.size wr wd by rw [hwd]; exact (Below.refl _ _).drew)
      replace hHeld := HSK.out _ HX.out
      rw [← hwd]
      clear hwd
      refine tk 0 rfl (fun w hSw => by (try dsimp only at hSw); go_simp; try with_reducible rfl) ?_
      go_frame
      refine tk 1 rfl (fun w hSw => by (try dsimp only at hSw); go_simp; try with_reducible rfl) ?_
      go_frame
      refine tk 2 rfl (fun w hSw => by (try dsimp only at hSw); go_simp; try with_reducible rfl) ?_
      go_frame
      refine tk 3 rfl (fun w hSw => by (try dsimp only at hSw); go_simp; try with_reducible rfl) ?_
      go_frame
      refine tk 4 rfl (fun w hSw => by (try dsimp only at hSw); go_simp; try with_reducible rfl) ?_
      go_frame
      refine tk 5 rfl (fun w hSw => by (try dsimp only at hSw); go_simp; try with_reducible rfl) ?_
      go_frame
      refine tk 6 rfl (fun w hSw => by (try dsimp only at hSw); go_simp; try with_reducible rfl) ?_
      go_frame
      refine tk 7 rfl (fun w hSw => by (try dsimp only at hSw); go_simp; try with_reducible rfl) ?_
      go_frame
      refine do_at (i := 8) rfl (by kernel_rfl) (by kernel_rfl) (fun K hK => ?_)
      go_simp
      refine (rsame_any wd (hdV xa) (hdV xb) xa.R xb.R (HRA.out _ HX.out) (HRB.out _ HX.out) HLEN.out).mono ?_
      rintro e wz ⟨rfl, bz⟩
      rw [HSAME.out]
      replace HX := Lib.hid (HX.out.trans (bz.mono HX.out.size))
      clear bz
      go_wp2_with fail
      refine hK.out _ _ ?_ (fun hHeld => ?_)
      · exact HSK.out _ HX.out
      clear hK K
      try go_frame
      refine tk 9 rfl (fun w hSw => by (try dsimp only at hSw); go_simp; try with_reducible rfl) ?_
      go_frame
      refine wpAnyH_done (by kernel_rfl) ?_ _
      have HXE := Lib.hid (HT.out.trans (HX.out.mono HT.out.size))
      clear hHeld HX HT HRA HRB HSK HLEN HSAME
      go_wp2
      go_roundg (n - (k + 1))
      case rel => exact ⟨k + 1, by go_num, HLT.out, Nat.le_refl _, HXE⟩
      case measure => have := HLT.out; omega
    · obtain rfl : k = n := by omega
      have HBE := Lib.hid HT.out
      clear HT
      go_wp2
      go_ret
      exact ⟨rfl, HBE.out⟩
end Go.Proofs.Ytdeahnphcfcfpaa.Lab
