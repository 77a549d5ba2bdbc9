/- What is put. -/
import Derived.Test.YtjdfinimbdcmbaaMdRows
set_option linter.unusedVariables false
namespace Go.Proofs.Ytjdfinimbdcmbaa.Lab
open Go Go.RowKit

theorem put_round (on : Bool) (s : Nat) (hs : s < 2048) (x : Mo) : ((bitM x).isSome = false → putM on s x = s) ∧ ((bitM x).isSome = true → ∃ z : Nat, bits .andNot .u16 (s : Int) (bitV x : Nat) = (z : Nat) ∧ (on = false → putM on s x = z) ∧ (on = true → bits .or .u16 (z : Int) (bitV x : Nat) = (putM on s x : Nat))) := by
  unfold putM bitV
  cases e : bitM x with
  | none => exact ⟨fun _ => rfl, fun h => by cases h⟩
  | some j =>
    have hj := bitM_lt e
    refine ⟨fun h => (by cases h), fun _ => ⟨s ^^^ (s &&& 2 ^ j), u16_andNot_nat s hs j hj, fun h => by subst h; rfl, fun h => ?_⟩⟩
    subst h
    have hz := modB_lt (s := s) (j := j) false hs hj
    have hz' : s ^^^ (s &&& 2 ^ j) < 2048 := hz
    refine (u16_or_bit hz' hj).trans ?_
    have : (s ^^^ (s &&& 2 ^ j)) ||| 2 ^ j = modB s j true := by
      have := modB_twice s j false true
      exact this
    rw [this]
/-- A call of Put in its midst: b: the modes, b + 1: the result, bm: the table. -/
def PutI (w wr : World) (b bm r : Nat) : Prop := wr.heap[b]? = some (.cells #[.int .u16 (r : Nat)] 27 (0, 0)) ∧ wr.heap[b + 1]? = some (.cells #[.int .u16 0] 27 (0, 0)) ∧ BMap wr bm ∧ Below w.heap.size w wr ∧ w.heap.size ≤ b ∧ b + 1 < bm
theorem BMap.same {w w' : World} {b : Nat} (h : BMap w b) (hs : w'.heap[b]? = w.heap[b]?) : BMap w' b := by
  obtain ⟨D, N, h1, h2⟩ := h
  obtain ⟨es, clock, hb, F, hn, hD⟩ := h1
  exact ⟨D, N, ⟨es, clock, hs.trans hb, F, hn, hD⟩, h2⟩
theorem BMap.but {w w' : World} {b g : Nat} (h : BMap w b) (hb : But g w w') (hne : g ≠ b) : BMap w' b := h.same (hb.block b h.lt (fun e => hne (by injection e with e; exact e.symm)))
theorem PutI.alloc {w wr : World} {b bm r : Nat} (h : PutI w wr b bm r) (o : Obj) : PutI w (wr.alloc o) b bm r := by
  obtain ⟨h1, h2, h3, h4, h5, h6⟩ := h
  have k : Below wr.heap.size wr (wr.alloc o) := (Below.refl _ _).alloc (Nat.le_refl _) _
  exact ⟨(k.block b (Array.getElem?_eq_some_iff.1 h1).1).trans h1, (k.block (b + 1) (Array.getElem?_eq_some_iff.1 h2).1).trans h2, h3.below k, h4.alloc h4.size _, h5, h6⟩
theorem PutI.set {w wr : World} {b bm r : Nat} (h : PutI w wr b bm r) (z : Nat) : PutI w (wr.setCell ⟨b, 0, none⟩ (.int .u16 (z : Nat))) b bm z := by
  obtain ⟨h1, h2, h3, h4, h5, h6⟩ := h
  have k := But.set wr b 0 (.int .u16 (z : Nat))
  exact ⟨one_setCell h1, (k.block (b + 1) (Array.getElem?_eq_some_iff.1 h2).1 (by simp)).trans h2, h3.but k (by omega), h4.trans (k.below h5 h4.size), h5, h6⟩
set_option maxHeartbeats 2000000 in
set_option maxRecDepth 100000 in
theorem put_any (s : Nat) (hs : s < 2048) (on : Bool) (v : Value) (l : List Mo) (w : World) (h : MoIn w v l) (hw : ∀ x ∈ l, wfM x) (hl : l.length ≤ 10000) : Calls Try.prog 13 #[.agg #[.int .u16 (s : Nat)], .bool on, v] w fun e w' => e = .returned (.tuple #[.agg #[.int .u16 (putL on s l : Nat)], .int .i64 (knownN l : Nat)]) ∧ Below w.heap.size w w' := by
  obtain ⟨la, lc, rfl⟩ := h.shape
  obtain ⟨n, hn⟩ : ∃ n, n = l.length := ⟨_, rfl⟩
  obtain ⟨G, hG⟩ : ∃ G : Nat → Nat, G = fun k => putL on s (l.take k) := ⟨_, rfl⟩
  obtain ⟨C, hC⟩ : ∃ C : Nat → Nat, C = fun k => knownN (l.take k) := ⟨_, rfl⟩
  have htk : ∀ k, k < n → l.take (k + 1) = l.take k ++ [l.getD k (false, 0)] := fun k hk => by
    rw [List.take_succ_eq_append_getElem (by omega), List.getD_eq_getElem?_getD, List.getElem?_eq_getElem (by omega)]
    rfl
  have HG0 := Lib.hid (show G 0 = s by rw [hG]; rfl)
  have HC0 := Lib.hid (show C 0 = 0 by rw [hC]; rfl)
  have HGs := Lib.hid (show ∀ k, k < n → G (k + 1) = putM on (G k) (l.getD k (false, 0)) from fun k hk => by
    rw [hG]
    show putL on s (l.take (k + 1)) = _
    rw [htk k hk, putL_snoc])
  have HCs := Lib.hid (show ∀ k, k < n → C (k + 1) = C k + if (bitM (l.getD k (false, 0))).isSome then 1 else 0 from fun k hk => by
    rw [hC]
    show knownN (l.take (k + 1)) = _
    rw [htk k hk, knownN_snoc])
  have HGl := Lib.hid (show ∀ k, G k < 2048 from fun k => by rw [hG]; exact putL_lt hs)
  have HCl := Lib.hid (show ∀ k, k ≤ n → C k ≤ k from fun k hk => by rw [hC]; refine Nat.le_trans (knownN_le _) ?_; simp; omega)
  have HE := Lib.hid (show putL on s l = G n ∧ knownN l = C n by rw [hG, hC]; show putL on s l = putL on s (l.take n) ∧ knownN l = knownN (l.take n); rw [hn, List.take_length]; exact ⟨rfl, rfl⟩)
  rw [HE.out.1, HE.out.2]
  rw [← hn] at h hl ⊢
  have HW := Lib.hid (show ∀ k, k < n → wfM (l.getD k (false, 0)) from fun k hk => by
    rw [List.getD_eq_getElem?_getD, List.getElem?_eq_getElem (by omega)]
    exact hw _ (List.getElem_mem (by omega)))
  have HM := Lib.hid h
  have HL := Lib.hid hl
  clear htk h hl hw hs hG hC HE
  have HN := Lib.hid hn
  clear hn
  obtain ⟨b, hb⟩ : ∃ b, b = w.heap.size := ⟨_, rfl⟩
  obtain ⟨w1, hw1⟩ : ∃ x, x = (w.alloc (.cells #[.int .u16 (s : Nat)] 27)).alloc (.cells #[.int .u16 0] 27) := ⟨_, rfl⟩
  have e1 : (w.alloc (.cells #[.int .u16 (s : Nat)] 27)).heap.size = b + 1 := by rw [hb]; simp
  have HB1 := Lib.hid (show Below w.heap.size w w1 by rw [hw1]; exact ((Below.refl _ _).alloc (Nat.le_refl _) _).alloc (by simp) _)
  have h1 : w1.heap[b]? = some (.cells #[.int .u16 (s : Nat)] 27 (0, 0)) := by rw [hw1, Below.heap_alloc _ _ _ (by rw [e1]; omega), hb]; exact World.alloc_heap_new _ _
  have h2 : w1.heap[b + 1]? = some (.cells #[.int .u16 0] 27 (0, 0)) := by rw [hw1, ← e1]; exact World.alloc_heap_new _ _
  have HH := Lib.hid (And.intro h1 (And.intro h2 (show w.heap.size ≤ b ∧ w1.heap.size = b + 2 from ⟨by rw [hb]; exact Nat.le_refl _, by rw [hw1, World.size_alloc, e1]⟩)))
  clear h1 h2 e1
  go_enter Try.func13, Try.ntmps13
  go_wp2_with fail
  rw [← hw1, ← hb]
  clear hw1 hb
  refine (bits_any _).mono ?_
  rintro e w2 ⟨bm, rfl, hbm, hB, bb⟩
  have HP0 := Lib.hid (show PutI w w2 b bm (G 0) from by
    rw [HG0.out]
    exact ⟨(bb.block b (Array.getElem?_eq_some_iff.1 HH.out.1).1).trans HH.out.1, (bb.block (b + 1) (Array.getElem?_eq_some_iff.1 HH.out.2.1).1).trans HH.out.2.1, hB, HB1.out.trans (bb.mono HB1.out.size), HH.out.2.2.1, by have := HH.out.2.2.2; omega⟩)
  clear bb hB hbm HB1 HH
  go_wp2_with fail
  go_loopw [8, 17] (fun v u wr => ∃ k : Nat, v = .int .i64 (C k : Nat) ∧ u = .int .i64 (k : Nat) ∧ Hid (k ≤ n) ∧ Hid (PutI w wr b bm (G k))) (fun v u wr => 20000 - (intOf u).toNat)
  case atStart => exact ⟨0, by rw [HC0.out]; rfl, rfl, Lib.hid (Nat.zero_le _), HP0⟩
  case round =>
    obtain ⟨k, rfl, rfl, HK, HP⟩ := hrel
    clear HP0
    have u1 : IntKind.i64.wrap ((k : Int) + 1) = ((k + 1 : Nat) : Int) := by rw [IntKind.wrap_i64]; have := HK.out; have := HL.out; omega
    by_cases h1 : k < n
    · obtain ⟨g, o, hla, c0, c1⟩ := (HM.out.below HP.out.2.2.2.1).at (i := k) h1
      subst hla
      obtain ⟨x, hx⟩ : ∃ x, x = l.getD k (false, 0) := ⟨_, rfl⟩
      have HGk := Lib.hid (HGs.out k h1)
      have HCk := Lib.hid (HCs.out k h1)
      have HWk := Lib.hid (HW.out k h1)
      rw [← hx] at c0 c1 HGk HCk HWk
      have HR := Lib.hid (put_round on (G k) (HGl.out k) x)
      rw [← HGk.out] at HR
      clear hx
      obtain ⟨p, m⟩ := x
      simp only [] at c0 c1
      have HH1 := Lib.hid h1
      obtain ⟨v, hv⟩ : ∃ v, v = bitV (p, m) := ⟨_, rfl⟩
      obtain ⟨q, hq⟩ : ∃ q, q = (bitM (p, m)).isSome := ⟨_, rfl⟩
      have HV := Lib.hid hv
      have HQ := Lib.hid hq
      have HLK := Lib.hid (show ∀ w b, BMap w b → (Instr.lookup 59 (.map (some b)) (.agg #[.bool p, .int .i64 m]) true).run Try.prog w = .ok (.tuple #[.int .u16 (v : Nat), .bool q]) w from fun w b hb => by rw [hv, hq]; exact hb.look_ok (p, m) HWk.out)
      rw [← hv, ← hq] at HR
      rw [← hq] at HCk
      clear hv hq HV HQ HWk
      obtain ⟨r, hr⟩ : ∃ r, r = G k := ⟨_, rfl⟩
      obtain ⟨r', hr'⟩ : ∃ r, r = G (k + 1) := ⟨_, rfl⟩
      rw [← hr] at HP HR
      rw [← hr'] at HR
      have HRR := Lib.hid hr'
      clear hr hr' HGk
      obtain ⟨w3, hw3⟩ : ∃ X, X = wr.alloc (.cells #[.bool p, .int .i64 m] 24) := ⟨_, rfl⟩
      obtain ⟨d, hd⟩ : ∃ d, d = wr.heap.size := ⟨_, rfl⟩
      have HP3 := Lib.hid (show PutI w w3 b bm r by rw [hw3]; exact HP.out.alloc _)
      have HD := Lib.hid (two_cells (show w3.heap[d]? = some (.cells #[.bool p, .int .i64 m] 24 (0, 0)) by rw [hw3, hd]; exact World.alloc_heap_new _ _))
      go_upto_region 5 with (fail)
      rw [← hw3, ← hd]
      clear hw3 hd c0 c1
      have hrun := HLK.out w3 bm HP3.out.2.2.1
      have d0 := HD.out.1
      have d1 := HD.out.2.1
      have c0 := (one_cell HP3.out.1).1
      have f0 := (one_cell HP3.out.1).2
      cases q
      · go_wp2
        go_roundw
        case rel =>
          refine ⟨k + 1, ?_, by go_num, Lib.hid HH1.out, Lib.hid ?_⟩
          · rw [HCk.out]
            rfl
          · rw [← HRR.out, HR.out.1 rfl]
            exact HP3.out
        case measure => simp only [intOf]; have := HK.out; have := HL.out; omega
      · obtain ⟨z, r1, hoff, hon⟩ := HR.out.2 rfl
        have u2 : IntKind.i64.wrap ((C k : Int) + 1) = ((C k + 1 : Nat) : Int) := by rw [IntKind.wrap_i64]; have := HCl.out k HK.out; have := HK.out; have := HL.out; omega
        have HP4 := Lib.hid (HP3.out.set z)
        cases on
        · have HO := Lib.hid (hoff rfl)
          clear hoff hon
          go_wp2
          go_roundw
          case rel =>
            refine ⟨k + 1, ?_, by go_num, Lib.hid HH1.out, Lib.hid ?_⟩
            · rw [HCk.out]
              rfl
            · rw [← HRR.out, HO.out]
              exact HP4.out
          case measure => simp only [intOf]; have := HK.out; have := HL.out; omega
        · have r2 := hon rfl
          have HP5 := Lib.hid (HP4.out.set r')
          have c4 := (one_cell HP4.out.1).1
          have f4 := (one_cell HP4.out.1).2
          clear hoff hon
          go_wp2
          go_roundw
          case rel =>
            refine ⟨k + 1, ?_, by go_num, Lib.hid HH1.out, Lib.hid ?_⟩
            · rw [HCk.out]
              rfl
            · rw [← HRR.out]
              exact HP5.out
          case measure => simp only [intOf]; have := HK.out; have := HL.out; omega
    · have hkn : k = n := by have := HK.out; omega
      obtain ⟨r, hr⟩ : ∃ r, r = G n := ⟨_, rfl⟩
      obtain ⟨c, hc⟩ : ∃ c, c = C n := ⟨_, rfl⟩
      have HE2 := Lib.hid (And.intro hr hc)
      rw [hkn, ← hr] at HP
      rw [hkn, ← hc]
      clear hr hc hkn
      have c0 := (one_cell HP.out.1).1
      have d0 := (one_cell HP.out.2.1).1
      have f0 := (one_cell HP.out.2.1).2
      have hkk : ¬ n < n := Nat.lt_irrefl n
      go_wp2
      refine bodyPost_ret (v := .tuple #[.agg #[.int .u16 (r : Nat)], .int .i64 (c : Nat)]) (by simp [results, Try.results13, go_sem, d0]) rfl ⟨by rw [HE2.out.1, HE2.out.2], ?_⟩
      exact HP.out.2.2.2.1.trans ((But.set wr (b + 1) 0 (.int .u16 (r : Nat))).below (by have := HP.out.2.2.2.2.1; omega) HP.out.2.2.2.1.size)
end Go.Proofs.Ytjdfinimbdcmbaa.Lab
