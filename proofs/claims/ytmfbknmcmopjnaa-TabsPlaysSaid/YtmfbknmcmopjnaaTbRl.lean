/- The reference's List, Next, Back. -/
import Derived.Test.YtmfbknmcmopjnaaTbRn
set_option linter.unusedVariables false
namespace Go.Proofs.Ytmfbknmcmopjnaa.Lab
open Go Go.RowKit Go.Shelf

theorem wpList_append_nat {ops : Array Oper} {rest : List Oper} {o : Oper} {a : Act} {w : World} {Q : Exit → Act → World → Prop} (hgd : o.guard = none) (s x : Operand)
    (hop : o.op = Op.call { callee := Callee.builtin Builtin.append, args := #[s, x], argTypes := #[41, 41] })
    (base : Nat) (v : Value) (n : Nat) (l : List Nat) (hs : a.eval s = v) (hown : w.ownsRow base 3 1 v n (nVs l))
    (q : Nat) (u : Nat) (hx : a.eval x = .slice (some ⟨q, 0, none⟩) 1 1) (hr : w.cell? ⟨q, 0, none⟩ = some (.int .i64 (u : Nat))) (hnr : n ≤ 100000) (hb : base ≤ w.heap.size)
    (hK : ∀ v' w', w'.ownsRow base 3 1 v' (n + 1) (nVs (l ++ [u])) → w.grownBy w' v.ownBlock → wpList Try.prog ops Q rest (a.put o.dst v') w') :
    wpList Try.prog ops Q (o :: rest) a w := by
  obtain ⟨ib, hi, hz0, hz1, hz2⟩ := info_parts infoInt
  refine wpList_append_own w hgd s x 41 hop base 3 ib (.int .i64 0) 1 8 Try.underlying41 hi hz0 hz1 hz2 rfl (by decide) v n (nVs l) hs hown ⟨q, 0, none⟩ 1 1 [.int .i64 (u : Nat)] hx rfl (fun j y hj => ?_) (fun y hy => by rw [List.mem_singleton.1 hy]; rfl) (by unfold maxLen; omega) (by omega) hb (fun v' w' h1 h2 _ => hK v' w' (by have h1' := h1; simpa [nVs] using h1') h2)
  have : j < 1 := (List.getElem?_eq_some_iff.1 hj).1
  obtain rfl : j = 0 := by omega
  obtain rfl : Value.int .i64 (u : Nat) = y := by simpa using hj
  exact hr
theorem lows_succ {L : List Bool} {k : Nat} (h : k < L.length) : lows L (k + 1) = lows L k ++ (if L.getD k false then [k] else []) := by
  unfold lows
  rw [Nat.min_eq_left (by omega), Nat.min_eq_left (by omega), List.range_succ, List.filter_append]
  cases hx : L.getD k false <;> simp only [List.filter_cons, List.filter_nil, hx]
theorem lows_len (L : List Bool) (k : Nat) : (lows L k).length ≤ L.length := by
  unfold lows
  refine Nat.le_trans (List.length_filter_le _ _) ?_
  rw [List.length_range]
  omega
set_option maxHeartbeats 4000000 in
set_option maxRecDepth 100000 in
theorem rlist_any (v : Value) (t : Tb) (w : World) (h : BIn w v t.L) (hl : t.L.length ≤ 512) :
    Calls Try.prog 16 #[rV v t] w fun e w' => ∃ u, e = .returned u ∧ w'.ownsRow w.heap.size 3 1 u (stops t.L).length (nVs (stops t.L)) ∧ Below w.heap.size w w' := by
  obtain ⟨va, vc, rfl⟩ := h.shape
  obtain ⟨L, hL⟩ : ∃ L, L = t.L := ⟨_, rfl⟩
  rw [← hL] at h hl ⊢
  clear hL
  obtain ⟨n, hn⟩ : ∃ n, n = L.length := ⟨_, rfl⟩
  rw [← hn] at h hl ⊢
  have HI := Lib.hid h
  have HN := Lib.hid hn
  have HL := Lib.hid hl
  clear h hn
  obtain ⟨b, hb⟩ : ∃ b, b = w.heap.size := ⟨_, rfl⟩
  obtain ⟨w1, hw1⟩ : ∃ x, x = w.alloc (.cells #[.slice va n vc, .int .u8 (t.l : Nat), .int .u8 (t.b : Nat)] RT) := ⟨_, rfl⟩
  have HB1 := Lib.hid (show Below w.heap.size w w1 by rw [hw1]; exact (Below.refl _ _).alloc (Nat.le_refl _) _)
  have HC1 := Lib.hid (show w1.cell? ⟨b, 0, none⟩ = some (.slice va n vc) by rw [hw1, hb]; simp)
  have HS := Lib.hid (show b < w1.heap.size by rw [hw1, hb]; simp)
  go_enter Try.func16, Try.ntmps16
  go_wp2
  rw [← hw1, ← hb]
  clear hw1 hb
  go_loopw [3, 4] (fun u i wr => ∃ k : Nat, k ≤ n ∧ i = .int .i64 (k : Nat) ∧ Hid (wr.ownsRow w1.heap.size 3 1 u (lows L k).length (nVs (lows L k))) ∧ Hid (Below w1.heap.size w1 wr)) (fun _ i wr => 600 - (intOf i).toNat)
  case atStart => exact ⟨0, Nat.zero_le _, rfl, Lib.hid ⟨rfl, .inl ⟨rfl, rfl⟩⟩, Lib.hid (Below.refl _ _)⟩
  case round =>
    rename_i u i
    obtain ⟨k, hk, rfl, HO, HB⟩ := hrel
    have c0 : wr.cell? ⟨b, 0, none⟩ = some (.slice va n vc) := (HB.out.cell (p := ⟨b, 0, none⟩) HS.out).trans HC1.out
    obtain ⟨m, hm⟩ : ∃ m, m = (lows L k).length := ⟨_, rfl⟩
    have hm5 : m ≤ 512 := by rw [hm]; have := lows_len L k; have := HN.out; omega
    obtain ⟨ua, uc, hu⟩ := own_shape HO.out
    rw [← hm] at HO hu
    subst hu
    by_cases hlt : k < n
    · have hkL : k < L.length := by rw [← HN.out]; exact hlt
      have hz := lows_succ hkL
      obtain ⟨g, o, hva, hc⟩ := ((HI.out.below HB1.out).below HB.out).get hkL
      subst hva
      have u1 : IntKind.i64.wrap ((k : Int) + 1) = ((k + 1 : Nat) : Int) := by rw [IntKind.wrap_i64]; omega
      cases hx : L.getD k false with
      | true =>
        have HZ := Lib.hid (show lows L (k + 1) = lows L k ++ [k] by rw [hz, hx]; rfl)
        rw [hx] at hc
        have HM := Lib.hid hm
        clear hz hx hkL hm
        obtain ⟨q, hq⟩ : ∃ q, q = wr.heap.size := ⟨_, rfl⟩
        obtain ⟨we, hwe⟩ : ∃ X, X = wr.alloc (.cells #[.int .i64 (k : Nat)] 3) := ⟨_, rfl⟩
        have HBE := Lib.hid (show Below wr.heap.size wr we by rw [hwe]; exact (Below.refl _ _).alloc (Nat.le_refl _) _)
        have HQ := Lib.hid (show we.cell? ⟨q, 0, none⟩ = some (.int .i64 (k : Nat)) by rw [hwe, hq]; simp)
        go_wp2_with (at_builtin; rw [← hwe, ← hq]; clear hwe hq; refine wpList_append_nat rfl (.tmp 17) (.tmp 19) rfl w1.heap.size (.slice ua m uc) m (lows L k) rfl (own_below HO.out HBE.out) q k rfl HQ.out (by omega) (Nat.le_trans HB.out.size HBE.out.size) ?_)
        intro v9 w9 ow9 gr9
        have HO9 := Lib.hid ow9
        have HW9 := Lib.hid (show Below w1.heap.size w1 w9 from (HB.out.trans (HBE.out.mono HB.out.size)).grown gr9 (Nat.le_trans HB.out.size HBE.out.size) (fun j hj => (World.ownsRow.lt HO.out j hj).1))
        clear ow9 gr9 c0 hc
        go_wp2
        go_roundw
        case rel =>
          refine ⟨k + 1, hlt, by go_num, Lib.hid ?_, HW9⟩
          rw [HZ.out, List.length_append, ← HM.out, show nVs (lows L k ++ [k]) = List.map nV (lows L k) ++ [nV k] by simp]
          exact HO9.out
        case measure => simp only [intOf]; omega
      | false =>
        have HZ := Lib.hid (show lows L (k + 1) = lows L k by rw [hz, hx]; exact List.append_nil _)
        rw [hx] at hc
        have HM := Lib.hid hm
        clear hz hx hkL hm
        go_wp2
        go_roundw
        case rel =>
          refine ⟨k + 1, hlt, by go_num, Lib.hid ?_, HB⟩
          rw [HZ.out, ← HM.out]
          exact HO.out
        case measure => simp only [intOf]; omega
    · have hkn : k = n := by omega
      have HM := Lib.hid hm
      have HKN := Lib.hid hkn
      clear hm hkn
      go_wp2
      go_ret
      refine ⟨_, rfl, ?_, HB1.out.trans (HB.out.mono HB1.out.size)⟩
      rw [← lows_all, ← HN.out, ← HKN.out, ← HM.out]
      exact own_lower HO.out HB1.out.size
theorem mx (a b c : Int) (h : max a b = c) (w : World) : (Builtin.max_ #[3, 3] 3 #[.int .i64 a, .int .i64 b]).run Try.prog w = .ok (.int .i64 c) w := by
  rw [run_max_int2, ← h]
  congr 2
  split <;> omega
theorem mn (a b c : Int) (h : min a b = c) (w : World) : (Builtin.min_ #[3, 3] 3 #[.int .i64 a, .int .i64 b]).run Try.prog w = .ok (.int .i64 c) w := by
  rw [run_min_int2, ← h]
  congr 2
  split <;> omega
def Nx (L : List Bool) (la T : Nat) (c m : Int) (a : Nat) : Prop := ∃ j : Nat, m = (j : Int) + 1 ∧ (ups L a).getD j la = T ∧ c < (a : Int) ∧ m ≤ 9223372036854775807
theorem getD_step {a j : Nat} {l : List Nat} {d T : Nat} (h : (a :: l).getD (j + 1) d = T) : l.getD j d = T := by simpa using h
set_option maxHeartbeats 4000000 in
set_option maxRecDepth 100000 in
theorem rnext_any (v : Value) (t : Tb) (w : World) (h : BIn w v t.L) (hl : t.L.length ≤ 512) (c n : Int) (hc1 : -100000 ≤ c) (hc2 : c ≤ 100000) (hn1 : -100000 ≤ n) (hn2 : n ≤ 9223372036854775807) :
    Calls Try.prog 21 #[rV v t, .int .i64 c, .int .i64 n] w fun e w' => e = .returned (.int .i64 (nextM t.L c n : Nat)) ∧ Below w.heap.size w w' := by
  obtain ⟨va, vc, rfl⟩ := h.shape
  obtain ⟨L, hL⟩ : ∃ L, L = t.L := ⟨_, rfl⟩
  rw [← hL] at h hl ⊢
  clear hL
  obtain ⟨T, hT⟩ : ∃ T, T = nextM L c n := ⟨_, rfl⟩
  rw [← hT]
  obtain ⟨ln, hln⟩ : ∃ ln, ln = L.length := ⟨_, rfl⟩
  rw [← hln] at h hl ⊢
  have HI := Lib.hid h
  have HN := Lib.hid hln
  have HT := Lib.hid hT
  obtain ⟨la, hla⟩ : ∃ x, x = lastM L := ⟨_, rfl⟩
  obtain ⟨z, hz⟩ : ∃ z : Int, z = (ln : Int) - 1 := ⟨_, rfl⟩
  have u1 : IntKind.i64.wrap ((ln : Int) - 1) = z := by rw [IntKind.wrap_i64]; omega
  have m1 := mx 0 z (la : Nat) (by rw [hz, hla]; unfold lastM; omega)
  have HLA := Lib.hid hla
  obtain ⟨b, hb⟩ : ∃ b, b = w.heap.size := ⟨_, rfl⟩
  obtain ⟨w1, hw1⟩ : ∃ x, x = w.alloc (.cells #[.slice va ln vc, .int .u8 (t.l : Nat), .int .u8 (t.b : Nat)] RT) := ⟨_, rfl⟩
  have HB1 := Lib.hid (show Below w.heap.size w w1 by rw [hw1]; exact (Below.refl _ _).alloc (Nat.le_refl _) _)
  have HC1 := Lib.hid (show w1.cell? ⟨b, 0, none⟩ = some (.slice va ln vc) by rw [hw1, hb]; simp)
  have HS := Lib.hid (show b < w1.heap.size by rw [hw1, hb]; simp)
  by_cases hnn : n < 1
  · obtain ⟨y, hy⟩ : ∃ y : Int, y = min c (la : Int) := ⟨_, rfl⟩
    have m2 := mn c (la : Nat) y hy.symm
    have m3 := mx 0 y (T : Nat) (by
      rw [hT, hy]
      unfold nextM edgeM inN
      rw [if_pos hnn, ← HLA.out]
      omega)
    clear hT hla hz hl h hy hln
    go_enter Try.func21, Try.ntmps21
    go_wp2
    rw [← hw1]
    go_ret
    exact ⟨rfl, HB1.out⟩
  · obtain ⟨c1, hc⟩ : ∃ c1, c1 = c + 1 := ⟨_, rfl⟩
    have u2 : IntKind.i64.wrap (c + 1) = c1 := by rw [IntKind.wrap_i64]; omega
    obtain ⟨a0, ha0⟩ : ∃ a0 : Nat, a0 = (max 0 c1).toNat := ⟨_, rfl⟩
    have m2 := mx 0 c1 (a0 : Nat) (by omega)
    have H0 := Lib.hid (show Nx L la T c n a0 by
      refine ⟨(n - 1).toNat, by omega, ?_, by omega, hn2⟩
      rw [hT]
      unfold nextM
      rw [if_neg hnn, ← HLA.out]
      congr 1
      unfold inN
      by_cases hge : c ≤ L.length
      · rw [show (min (max c (-1)) (L.length : Int) + 1).toNat = a0 by omega]
      · rw [ups_out L (a := a0) (by omega), ups_out L (by omega)])
    have HL5 := Lib.hid hl
    clear hT hla hz hl h hln ha0 hc hn1 hn2 hc1 hc2
    go_enter Try.func21, Try.ntmps21
    go_wp2
    rw [← hw1, ← hb]
    clear hw1 hb
    go_loopw [2, 8] (fun v i wr => ∃ (m : Int) (a : Nat), v = .int .i64 m ∧ i = .int .i64 (a : Nat) ∧ Hid (Nx L la T c m a) ∧ Hid (Below w1.heap.size w1 wr)) (fun _ i wr => ln - (intOf i).toNat)
    case atStart => exact ⟨n, a0, rfl, rfl, H0, Lib.hid (Below.refl _ _)⟩
    case round =>
      obtain ⟨m, a, rfl, rfl, HJ, HB⟩ := hrel
      have c0 := (HB.out.cell (p := ⟨b, 0, none⟩) HS.out).trans HC1.out
      clear H0 m1 m2 u1 u2
      obtain ⟨j, hmj, hT, hca, hmm⟩ := HJ.out
      clear HJ
      by_cases hlt : a < ln
      · have haL : a < L.length := by rw [← HN.out]; exact hlt
        have hu := ups_step L haL
        have u3 : IntKind.i64.wrap ((a : Int) + 1) = ((a + 1 : Nat) : Int) := by rw [IntKind.wrap_i64]; have := HL5.out; omega
        obtain ⟨g, o, hva, hc⟩ := ((HI.out.below HB1.out).below HB.out).get haL
        subst hva
        cases hx : L.getD a false with
        | true =>
          have hu' : ups L a = a :: ups L (a + 1) := by rw [hu, hx]; rfl
          rw [hu'] at hT
          rw [hx] at hc
          obtain ⟨y, hy⟩ : ∃ y, y = m - 1 := ⟨_, rfl⟩
          have u4 : IntKind.i64.wrap (m - 1) = y := by rw [IntKind.wrap_i64]; omega
          by_cases hy0 : y = 0
          · have HE := Lib.hid (show a = T by
              obtain rfl : j = 0 := by omega
              simpa using hT)
            subst hy0
            clear hT hu hu' hmj hmm hy haL hx
            go_wp2
            go_ret
            refine ⟨ret_int ?_, by first | exact HB1.out.trans (HB.out.mono HB1.out.size) | exact below_drewN (HB1.out.trans (HB.out.mono HB1.out.size)) _⟩
            rw [HE.out]
          · have q0 : (y == 0) = false := by simp [hy0]
            have HJ' := Lib.hid (show Nx L la T c y (a + 1) by
              obtain ⟨i, rfl⟩ : ∃ i, j = i + 1 := ⟨j - 1, by omega⟩
              exact ⟨i, by omega, getD_step hT, by omega, by omega⟩)
            clear hT hu hu' hmj hmm hy haL hx hy0
            go_wp2
            go_roundw
            case rel => exact ⟨y, a + 1, rfl, by go_num, HJ', by first | exact HB | exact Lib.hid (below_drewN HB.out _)⟩
            case measure => simp only [intOf]; omega
        | false =>
          have hu' : ups L a = ups L (a + 1) := by rw [hu, hx]; rfl
          rw [hu'] at hT
          rw [hx] at hc
          have q0 : (m == 0) = false := by
            have : m ≠ 0 := by omega
            simp [this]
          have HJ' := Lib.hid (show Nx L la T c m (a + 1) from ⟨j, hmj, hT, by omega, hmm⟩)
          clear hT hu hu' hmj hmm haL hx
          go_wp2
          go_roundw
          case rel => exact ⟨m, a + 1, rfl, by go_num, HJ', by first | exact HB | exact Lib.hid (below_drewN HB.out _)⟩
          case measure => simp only [intOf]; omega
      · have HE := Lib.hid (show la = T by rw [ups_out L (by rw [← HN.out]; omega)] at hT; simpa using hT)
        clear hT hmj hmm hca
        go_wp2
        go_ret
        refine ⟨ret_int ?_, HB1.out.trans (HB.out.mono HB1.out.size)⟩
        rw [HE.out]
end Go.Proofs.Ytmfbknmcmopjnaa.Lab
