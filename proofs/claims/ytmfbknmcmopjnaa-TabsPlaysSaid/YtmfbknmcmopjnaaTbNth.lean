/- The project's nth, Next and Back. -/
import Derived.Test.YtmfbknmcmopjnaaTbSeq
set_option linter.unusedVariables false
namespace Go.Proofs.Ytmfbknmcmopjnaa.Lab
open Go Go.RowKit Go.Shelf
attribute [local go_sem] Oper.semAt_some

theorem edge_any (t : Tb) (ht : t.L.length ≤ 512) (c n s en : Int) (hn : n < 1) (w : World) :
    Calls Try.prog 46 #[tbV t, .int .i64 c, .int .i64 n, .int .i64 s, .int .i64 en] w fun e w' => e = .returned (.int .i64 (edgeM t.L c : Nat)) ∧ Below w.heap.size w w' := by
  have HL := Lib.hid (fun w => last_any t ht w)
  obtain ⟨x, hx⟩ : ∃ x, x = inN c 0 (lastM t.L) := ⟨_, rfl⟩
  have HE := Lib.hid (show ((edgeM t.L c : Nat) : Int) = x by rw [hx]; unfold edgeM inN; omega)
  have HW := Lib.hid (fun w => within_any c 0 (lastM t.L) w)
  rw [← hx] at HW
  clear hx ht
  go_enter Try.func46, Try.ntmps46
  obtain ⟨w2, hw2⟩ : ∃ x, x = ((w.alloc (.cells (tbC t) TB)).alloc (.cells #[.int .i64 n] 3)).alloc (.cells #[.int .i64 0] 3) := ⟨_, rfl⟩
  obtain ⟨b, hb⟩ : ∃ b, b = w.heap.size := ⟨_, rfl⟩
  have HB2 := Lib.hid (show Below w.heap.size w w2 by rw [hw2]; exact (((Below.refl _ _).alloc (Nat.le_refl _) _).alloc (by simp) _).alloc (by simp; omega) _)
  have hz : w2.heap[b + 2]? = some (.cells #[.int .i64 0] 3 (0, 0)) := by
    have := World.alloc_heap_new ((w.alloc (.cells (tbC t) TB)).alloc (.cells #[.int .i64 n] 3)) (.cells #[.int .i64 0] 3)
    rw [← hw2] at this
    simpa [hb] using this
  have HZ := Lib.hid hz
  have HBB := Lib.hid (show b = w.heap.size ∧ w2.heap.size = b + 3 by rw [hw2, hb]; simp)
  clear hz
  go_wp2_with fail
  refine (HL.out _).mono ?_
  rw [← hw2, ← hb]
  clear hw2 hb
  rintro e w3 ⟨rfl, b3⟩
  have HB3 := Lib.hid b3
  clear b3 HL
  go_wp2_with fail
  refine (HW.out _).mono ?_
  rintro e w4 ⟨rfl, rfl⟩
  have HZ3 := Lib.hid ((HB3.out.block (b + 2) (by have := HBB.out; omega)).trans HZ.out)
  have c2 : w3.cell? ⟨b + 1 + 1, 0, none⟩ = some (.int .i64 0) := by rw [cell_of_row w3 (b + 2) 0 _ _ _ HZ3.out]; rfl
  have f2 : w3.frozen? ⟨b + 1 + 1, 0, none⟩ = false := frozen_of_row w3 (b + 2) 0 _ _ HZ3.out
  clear HW
  go_wp2
  refine bodyPost_ret (v := .int .i64 x) (by simp [results, Try.results46, go_sem, c2]) rfl ⟨by rw [HE.out], ?_⟩
  exact (HB2.out.trans (HB3.out.mono HB2.out.size)).setCell (show w.heap.size ≤ b + 1 + 1 by have := HBB.out; omega) _
/-- What is known ahead of round k: two blocks of the call's own, what is left of the number, and the place of the result. -/
def NthAt (w2 : World) (bn br : Nat) (n : Int) (k : Nat) (W : World) : Prop :=
  Buts (fun j => j = bn ∨ j = br) w2 W ∧ W.heap[bn]? = some (.cells #[.int .i64 (n - k)] 3 (0, 0)) ∧ W.heap[br]? = some (.cells #[.int .i64 0] 3 (0, 0)) ∧ (k : Int) < n
def NthEnd (w2 : World) (bn br : Nat) (x : Int) (c : Code) (W : World) : Prop :=
  c = .ret ∧ Buts (fun j => j = bn ∨ j = br) w2 W ∧ W.heap[br]? = some (.cells #[.int .i64 x] 3 (0, 0))
theorem kept_block {W W' : World} {b : Nat} {u : Value} {T : TypeId} {row : Option Nat} (h : W.heap[b]? = some (.cells #[u] T (0, 0))) (hg : W.grownBy W' row) (hr : ∀ r, row = some r → ∃ o : Obj, W.heap[r]? = some o ∧ o.isCells = false) : W'.heap[b]? = some (.cells #[u] T (0, 0)) := by
  refine (hg.block b (Array.getElem?_eq_some_iff.1 h).1 ?_).trans h
  intro e
  obtain ⟨o, ho, hc⟩ := hr b e.symm
  rw [h] at ho
  injection ho with ho
  rw [← ho] at hc
  cases hc
theorem NthAt.turn {w2 W W' : World} {bn br k B : Nat} {n : Int} {row : Option Nat} (h : NthAt w2 bn br n k W) (hg : W.grownBy W' row) (hB : w2.heap.size ≤ B) (hr : ∀ r, row = some r → B ≤ r ∧ ∃ o : Obj, W.heap[r]? = some o ∧ o.isCells = false) : NthAt w2 bn br n k W' :=
  ⟨h.1.turn hg hB hr, kept_block h.2.1 hg (fun r e => (hr r e).2), kept_block h.2.2.1 hg (fun r e => (hr r e).2), h.2.2.2⟩
theorem NthEnd.turn {w2 W W' : World} {bn br B : Nat} {x : Int} {c : Code} {row : Option Nat} (h : NthEnd w2 bn br x c W) (hg : W.grownBy W' row) (hB : w2.heap.size ≤ B) (hr : ∀ r, row = some r → B ≤ r ∧ ∃ o : Obj, W.heap[r]? = some o ∧ o.isCells = false) : NthEnd w2 bn br x c W' :=
  ⟨h.1, h.2.1.turn hg hB hr, kept_block h.2.2 hg (fun r e => (hr r e).2)⟩
set_option maxHeartbeats 4000000 in
set_option maxRecDepth 100000 in
theorem nth_any (t : Tb) (ht : t.L.length ≤ 512) (c n : Int) (up : Bool) (en : Nat) (hn : 1 ≤ n) (hn2 : n ≤ 9223372036854775807) (w : World) :
    Calls Try.prog 46 #[tbV t, .int .i64 c, .int .i64 n, .int .i64 (stepV up), .int .i64 (en : Nat)] w fun e w' => e = .returned (.int .i64 ((sideL t.L c up).getD (n - 1).toNat en : Nat)) ∧ Below w.heap.size w w' := by
  obtain ⟨s, hs⟩ : ∃ s, s = stepV up := ⟨_, rfl⟩
  have HF := Lib.hid (fun w => from_any t c s w)
  have HITB := Lib.hid (fun b => from_iter b t ht c up)
  obtain ⟨K, hK⟩ : ∃ K, K = sideL t.L c up := ⟨_, rfl⟩
  obtain ⟨N, hN⟩ : ∃ N, N = K.length := ⟨_, rfl⟩
  have HN := Lib.hid (show K.length = N ∧ N ≤ 512 from ⟨hN.symm, by rw [hN, hK]; have := side_len t.L c up; omega⟩)
  rw [← hK] at HITB ⊢
  rw [← hs] at HITB ⊢
  rw [← hN] at HITB
  obtain ⟨R, hR⟩ : ∃ R : Nat, R = K.getD (n - 1).toNat en := ⟨_, rfl⟩
  have HRR := Lib.hid hR
  rw [← hR]
  have HN1 := Lib.hid (And.intro hn hn2)
  clear hN hK hs hR
  obtain ⟨w2, hw2⟩ : ∃ x, x = ((w.alloc (.cells (tbC t) TB)).alloc (.cells #[.int .i64 n] 3)).alloc (.cells #[.int .i64 0] 3) := ⟨_, rfl⟩
  obtain ⟨b, hb⟩ : ∃ b, b = w.heap.size := ⟨_, rfl⟩
  have HB2 := Lib.hid (show Below w.heap.size w w2 by rw [hw2]; exact (((Below.refl _ _).alloc (Nat.le_refl _) _).alloc (by simp) _).alloc (by simp; omega) _)
  have hz : w2.heap[b + 2]? = some (.cells #[.int .i64 0] 3 (0, 0)) := by
    have := World.alloc_heap_new ((w.alloc (.cells (tbC t) TB)).alloc (.cells #[.int .i64 n] 3)) (.cells #[.int .i64 0] 3)
    rw [← hw2] at this
    simpa [hb] using this
  have hy : w2.heap[b + 1]? = some (.cells #[.int .i64 n] 3 (0, 0)) := by
    have := World.alloc_heap_new (w.alloc (.cells (tbC t) TB)) (.cells #[.int .i64 n] 3)
    rw [hw2, Below.heap_alloc _ _ _ (by simp [hb])]
    simpa [hb] using this
  have HZ := Lib.hid (And.intro hy hz)
  have HBB := Lib.hid (show b = w.heap.size ∧ w2.heap.size = b + 3 by rw [hw2, hb]; simp)
  have hn0 : ¬ n < 1 := by omega
  clear hz hy ht hn hn2
  refine (callsIn_wide (n := 0)).1 ?_
  refine callsIn_of_wp_marks Try.func46 rfl trivial ?_ rfl
  simp only [Try.ntmps46, List.size_toArray, List.length_cons, List.length_nil, Nat.reduceAdd, Nat.reduceSub, Array.replicate_succ, Array.replicate_zero, List.push_toArray, List.append_toArray, List.nil_append, List.cons_append]
  gi_wp2_with (refine ⟨trivial, rfl, ?_⟩; gi_at_call 44; refine (callsIn_wide.2 (HF.out _)).mono ?_; rw [← hw2, ← hb]; clear hw2 hb; rintro e w3 ⟨rfl, hF3, b3, hs3⟩)
  obtain ⟨p, hp⟩ : ∃ p, p = w2.heap.size := ⟨_, rfl⟩
  have HIT := Lib.hid (HITB.out p)
  have HP := Lib.hid (show p = b + 3 ∧ w3.heap.size = b + 6 by have := HBB.out; omega)
  have HB3 := Lib.hid (HB2.out.trans (b3.mono HB2.out.size))
  have HST := Lib.hid (show NthAt w3 (b + 1) (b + 1 + 1) n 0 w3 from ⟨Buts.refl _ _, by have := (b3.block (b + 1) (by have := HBB.out; omega)).trans HZ.out.1; simpa using this, (b3.block (b + 2) (by have := HBB.out; omega)).trans HZ.out.2, by have := HN1.out; omega⟩)
  have HHR := Lib.hid (show ∀ W, Buts (fun j => j = b + 1 ∨ j = b + 1 + 1) w3 W → FromAt W p t c s from fun W hbu => by
    rw [← hp] at hF3
    have := HP.out
    exact hF3.buts hbu (by omega) (by omega) (by omega))
  rw [← hp]
  clear hp hF3 b3 hs3 HF HITB HZ hn0
  refine wp_rangeS (gf := 53) (pre := #[]) (post := fromP p) rfl (enters_of Try.func53 (by kernel_rfl) rfl) HIT.out (fun _ => rfl)
    (fun k W => NthAt w3 (b + 1) (b + 1 + 1) n k W) (fun cd W => NthEnd w3 (b + 1) (b + 1 + 1) (R : Nat) cd W)
    (fun k a' W => a' = { tmps := #[tbV t, .int .i64 c, .int .i64 n, .int .i64 s, .int .i64 (en : Nat), .pointer (some ⟨b, 0, none⟩), undef, .pointer (some ⟨b + 1, 0, none⟩), undef, undef, .pointer (some ⟨b + 1 + 1, 0, none⟩), nV (K.getD k 0), .int .i64 n, .bool false, undef, undef, undef, undef, tbV t, .int .i64 c, .int .i64 s, fromF p, nV (K.getD k 0), undef, undef, undef, undef, undef, undef], defers := [] } ∧ NthAt w3 (b + 1) (b + 1 + 1) n k W)
    ?hI ?hIx ?hA ?hH ?h0 ?assign ?body ?done ?stop
  case hI => exact fun k W W' row hs hg hr => hs.turn hg (Nat.le_refl _) hr
  case hIx => exact fun k W W' row hs hg hr => hs.turn hg (Nat.le_refl _) hr
  case hA => exact fun k a' _ W W' row hs hg hr => ⟨hs.1, hs.2.turn hg (Nat.le_refl _) hr⟩
  case hH => exact fun k W hs => HHR.out W hs.1
  case h0 => exact HST.out
  case assign =>
    intro ll k W Kk hk hW hI hK
    have HK := Lib.hid hK
    have HI := Lib.hid hI
    clear hK hI
    obtain ⟨x, hx⟩ : ∃ x, x = K.getD k 0 := ⟨_, rfl⟩
    have HX := Lib.hid hx
    rw [← hx]
    clear hx
    gi_wp2
    exact HK.out _ _ (KeepsFrom.refl _ _) ⟨by rw [← HX.out], HI.out⟩
  case body =>
    rintro ll k a' W1 hk hW ⟨rfl, bt, h1, h2, hkn⟩
    obtain ⟨x, hx⟩ : ∃ x, x = K.getD k 0 := ⟨_, rfl⟩
    have HX := Lib.hid hx
    rw [← hx]
    clear hx
    obtain ⟨m1, hm1⟩ : ∃ m1, m1 = n - (k : Int) := ⟨_, rfl⟩
    obtain ⟨m2, hm2⟩ : ∃ m2, m2 = n - ((k + 1 : Nat) : Int) := ⟨_, rfl⟩
    have u1 : IntKind.i64.wrap (m1 - 1) = m2 := by rw [IntKind.wrap_i64]; have := HN1.out; omega
    rw [← hm1] at h1
    have C1 : W1.cell? ⟨b + 1, 0, none⟩ = some (.int .i64 m1) := by rw [cell_of_row W1 (b + 1) 0 _ _ _ h1]; rfl
    have F1 : W1.frozen? ⟨b + 1, 0, none⟩ = false := frozen_of_row W1 (b + 1) 0 _ _ h1
    have C2 : W1.cell? ⟨b + 1 + 1, 0, none⟩ = some (.int .i64 0) := by rw [cell_of_row W1 (b + 1 + 1) 0 _ _ _ h2]; rfl
    have F2 : W1.frozen? ⟨b + 1 + 1, 0, none⟩ = false := frozen_of_row W1 (b + 1 + 1) 0 _ _ h2
    have H1 := Lib.hid h1
    have H2 := Lib.hid h2
    have HBT := Lib.hid bt
    have HM := Lib.hid (And.intro hm2 hkn)
    have HKN := Lib.hid hk
    clear h1 h2 bt hm1 hm2 hkn hk hW
    by_cases hz : m2 = 0
    · have hz0 : (m2 == 0) = true := by simp [hz]
      have HZ := Lib.hid hz
      clear hz
      refine wpIn_block ?_
      gi_wp2
      have hb2 := (Below.heap_setCell W1 ⟨b + 1, 0, none⟩ (.int .i64 m2) (b + 1 + 1) (by simp)).trans H2.out
      have ha := heap_setCell_same (W1.setCell ⟨b + 1, 0, none⟩ (.int .i64 m2)) (b + 1 + 1) 0 _ _ (nV x) hb2
      refine ⟨((KeepsOthers.setCell _ _ _).trans (KeepsOthers.setCell _ _ _)).from _, rfl, (HBT.out.trans (Buts.but (But.set W1 (b + 1) 0 _) (.inl rfl))).trans (Buts.but (But.set _ (b + 1 + 1) 0 _) (.inr rfl)), ?_⟩
      have hR : R = x := by
        have h1 := HM.out
        have h2 := HZ.out
        have h3 := HKN.out
        have h4 := HN.out
        rw [HRR.out, HX.out, show (n - 1).toNat = k by omega, List.getD_eq_getElem?_getD, List.getD_eq_getElem?_getD, List.getElem?_eq_getElem (by omega)]
        rfl
      rw [hR]
      exact ha
    · have hz0 : (m2 == 0) = false := by simp [hz]
      have HZ := Lib.hid hz
      clear hz
      refine wpIn_block ?_
      gi_wp2
      have ha := heap_setCell_same W1 (b + 1) 0 _ _ (.int .i64 m2) H1.out
      refine ⟨(KeepsOthers.setCell _ _ _).from _, HBT.out.trans (Buts.but (But.set W1 (b + 1) 0 _) (.inl rfl)), by rw [← HM.out.1]; exact ha, ?_, by have := HM.out; have := HZ.out; omega⟩
      exact (Below.heap_setCell _ _ _ _ (by simp)).trans H2.out
  case done =>
    rintro D W hD ⟨bt, h1, h2, hkn⟩ hK
    have hR : R = en := by
      have h4 := HN.out
      rw [HRR.out, List.getD_eq_getElem?_getD, List.getElem?_eq_none (by omega)]
      rfl
    have HR := Lib.hid hR
    clear hR h1 hkn
    have tg := grownBy_putObj' W D (.deferred none)
    have tr : ∀ r', some D = some r' → ∃ o : Obj, W.heap[r']? = some o ∧ o.isCells = false := fun r' e => by cases e; exact ⟨_, hK, rfl⟩
    have C2 : W.cell? ⟨b + 1 + 1, 0, none⟩ = some (.int .i64 0) := by rw [cell_of_row W (b + 1 + 1) 0 _ _ _ h2]; rfl
    have F2 : W.frozen? ⟨b + 1 + 1, 0, none⟩ = false := frozen_of_row W (b + 1 + 1) 0 _ _ h2
    have HH2 := Lib.hid h2
    have HBT := Lib.hid bt
    have HKD := Lib.hid hK
    have HD := Lib.hid hD
    clear h2 bt hK tg tr hD
    gi_wp2
    obtain ⟨W5, hW5⟩ : ∃ W5, W5 = W.setCell ⟨b + 1 + 1, 0, none⟩ (nV en) := ⟨_, rfl⟩
    have h5 : W5.heap[b + 1 + 1]? = some (.cells #[nV en] 3 (0, 0)) := by rw [hW5]; exact heap_setCell_same W (b + 1 + 1) 0 _ _ (nV en) HH2.out
    have hK5 : W5.heap[D]? = some (.deferred (some [])) := by rw [hW5]; exact (Below.heap_setCell _ _ _ _ (by have := HD.out; have := HP.out; simp only; omega)).trans HKD.out
    have bt5 : Buts (fun j => j = b + 1 ∨ j = b + 1 + 1) w3 W5 := by rw [hW5]; exact HBT.out.trans (Buts.but (But.set W (b + 1 + 1) 0 _) (.inr rfl))
    rw [← hW5]
    clear hW5
    have tg := grownBy_putObj' W5 D (.deferred none)
    have tr : ∀ r', some D = some r' → ∃ o : Obj, W5.heap[r']? = some o ∧ o.isCells = false := fun r' e => by cases e; exact ⟨_, hK5, rfl⟩
    have C5 : (W5.putObj D (.deferred none)).cell? ⟨b + 1 + 1, 0, none⟩ = some (nV en) := by rw [cell_of_row _ (b + 1 + 1) 0 _ _ _ (kept_block h5 tg tr)]; rfl
    have HBW := Lib.hid (show Below w.heap.size w (W5.putObj D (.deferred none)) from (HB3.out.trans (bt5.below (fun i hi => by have := HBB.out; omega) HB3.out.size)).grown tg (Nat.le_trans HB3.out.size bt5.size) (fun r' e => by cases e; exact Nat.le_trans HB3.out.size HD.out))
    refine ⟨by simp, .inl ⟨_, _, rfl, run_takeDeferred hK5, ?_⟩⟩
    refine ⟨nV en, by simp [results, Try.results46, go_sem, C5], by rw [HR.out], HBW.out⟩
  case stop =>
    rintro D cd W hD ⟨rfl, bt, h2⟩ hK
    have tg := grownBy_putObj' W D (.deferred none)
    have tr : ∀ r', some D = some r' → ∃ o : Obj, W.heap[r']? = some o ∧ o.isCells = false := fun r' e => by cases e; exact ⟨_, hK, rfl⟩
    have C2 : (W.putObj D (.deferred none)).cell? ⟨b + 1 + 1, 0, none⟩ = some (nV R) := by rw [cell_of_row _ (b + 1 + 1) 0 _ _ _ (kept_block h2 tg tr)]; rfl
    have HBW := Lib.hid (show Below w.heap.size w (W.putObj D (.deferred none)) from (HB3.out.trans (bt.below (fun i hi => by have := HBB.out; omega) HB3.out.size)).grown tg (Nat.le_trans HB3.out.size bt.size) (fun r' e => by cases e; exact Nat.le_trans HB3.out.size hD))
    have HKD := Lib.hid hK
    clear h2 bt hK tg tr hD
    gi_wp2
    refine ⟨by simp, .inl ⟨_, _, rfl, run_takeDeferred HKD.out, ?_⟩⟩
    refine ⟨nV R, by simp [results, Try.results46, go_sem, C2], rfl, HBW.out⟩
set_option maxHeartbeats 2000000 in
theorem next_any (t : Tb) (ht : t.L.length ≤ 512) (c n : Int) (hn2 : n ≤ 9223372036854775807) (w : World) :
    Calls Try.prog 20 #[tbV t, .int .i64 c, .int .i64 n] w fun e w' => e = .returned (.int .i64 (nextM t.L c n : Nat)) ∧ Below w.heap.size w w' := by
  have HN := Lib.hid (show ∀ w, Calls Try.prog 46 #[tbV t, .int .i64 c, .int .i64 n, .int .i64 1, .int .i64 (lastM t.L : Nat)] w fun e w' => e = .returned (.int .i64 (nextM t.L c n : Nat)) ∧ Below w.heap.size w w' from fun w => by
    by_cases h : n < 1
    · rw [show nextM t.L c n = edgeM t.L c by unfold nextM; rw [if_pos h]]
      exact edge_any t ht c n 1 _ h w
    · rw [show nextM t.L c n = (sideL t.L c true).getD (n - 1).toNat (lastM t.L) by unfold nextM sideL; rw [if_neg h, if_pos rfl]]
      exact nth_any t ht c n true (lastM t.L) (by omega) hn2 w)
  have HL := Lib.hid (fun w => last_any t ht w)
  obtain ⟨x, hx⟩ : ∃ x, x = nextM t.L c n := ⟨_, rfl⟩
  obtain ⟨z, hz⟩ : ∃ z, z = lastM t.L := ⟨_, rfl⟩
  rw [← hx] at HN ⊢
  rw [← hz] at HN HL
  clear hx hz hn2 ht
  obtain ⟨w1, hw1⟩ : ∃ x, x = w.alloc (.cells (tbC t) TB) := ⟨_, rfl⟩
  obtain ⟨b, hb⟩ : ∃ b, b = w.heap.size := ⟨_, rfl⟩
  have HB1 := Lib.hid (show Below w.heap.size w w1 by rw [hw1]; exact (Below.refl _ _).alloc (Nat.le_refl _) _)
  have HT := Lib.hid (show TbAt w1 b t by unfold TbAt; rw [hw1, hb]; exact World.alloc_heap_new w _)
  have KEEP := Lib.hid (show ∀ wx, Below w1.heap.size w1 wx → wx.cell? ⟨b, 0, none⟩ = some (wV t.L 0) ∧ wx.cell? ⟨b, 1, none⟩ = some (wV t.L 1) ∧ wx.cell? ⟨b, 2, none⟩ = some (wV t.L 2) ∧ wx.cell? ⟨b, 3, none⟩ = some (wV t.L 3) ∧ wx.cell? ⟨b, 4, none⟩ = some (wV t.L 4) ∧ wx.cell? ⟨b, 5, none⟩ = some (wV t.L 5) ∧ wx.cell? ⟨b, 6, none⟩ = some (wV t.L 6) ∧ wx.cell? ⟨b, 7, none⟩ = some (wV t.L 7) ∧ wx.cell? ⟨b, 8, none⟩ = some (.int .i64 (t.L.length : Nat)) ∧ wx.cell? ⟨b, 9, none⟩ = some (.int .u8 (t.b : Nat)) ∧ wx.cell? ⟨b, 10, none⟩ = some (.int .u8 (t.l : Nat)) from fun wx hx => (HT.out.below hx).cells)
  go_enter Try.func20, Try.ntmps20
  go_upto_region 1 with (fail)
  rw [← hw1, ← hb]
  clear hw1 hb
  refine region_but (S := (fun wx => wx.cell? ⟨b, 0, none⟩ = some (wV t.L 0) ∧ wx.cell? ⟨b, 1, none⟩ = some (wV t.L 1) ∧ wx.cell? ⟨b, 2, none⟩ = some (wV t.L 2) ∧ wx.cell? ⟨b, 3, none⟩ = some (wV t.L 3) ∧ wx.cell? ⟨b, 4, none⟩ = some (wV t.L 4) ∧ wx.cell? ⟨b, 5, none⟩ = some (wV t.L 5) ∧ wx.cell? ⟨b, 6, none⟩ = some (wV t.L 6) ∧ wx.cell? ⟨b, 7, none⟩ = some (wV t.L 7) ∧ wx.cell? ⟨b, 8, none⟩ = some (.int .i64 (t.L.length : Nat)) ∧ wx.cell? ⟨b, 9, none⟩ = some (.int .u8 (t.b : Nat)) ∧ wx.cell? ⟨b, 10, none⟩ = some (.int .u8 (t.l : Nat)))) 6 (by kernel_rfl) (KEEP.out _ ((Below.refl _ _).drew)) (fun hHeld => ?_)
  obtain ⟨wz, hwz⟩ : ∃ X, X = w1.drew := ⟨_, rfl⟩
  have HX := Lib.hid (show Below w1.heap.size w1 wz by rw [hwz]; exact (Below.refl _ _).drew)
  replace hHeld := KEEP.out _ HX.out
  rw [← hwz]
  clear hwz
  refine ti 0 rfl (fun w hSw => by (try dsimp only at hSw); go_simp; try with_reducible rfl) ?_
  go_frame
  refine ti 1 rfl (fun w hSw => by (try dsimp only at hSw); go_simp; try with_reducible rfl) ?_
  go_frame
  refine ti 2 rfl (fun w hSw => by (try dsimp only at hSw); go_simp; try with_reducible rfl) ?_
  go_frame
  refine ti 3 rfl (fun w hSw => by (try dsimp only at hSw); go_simp; try with_reducible rfl) ?_
  go_frame
  refine th 4 rfl (by kernel_rfl) (by decide) (by kernel_rfl) (fun K hK => ?_)
  go_simp
  refine (HL.out _).mono ?_
  rintro e w3 ⟨rfl, bb⟩
  replace HX := Lib.hid (HX.out.trans (bb.mono HX.out.size))
  clear bb
  go_wp2_with fail
  refine hK.out _ _ (KEEP.out _ HX.out) (fun hHeld => ?_)
  clear hK K
  try go_frame
  refine th 5 rfl (by kernel_rfl) (by decide) (by kernel_rfl) (fun K hK => ?_)
  go_simp
  refine (HN.out _).mono ?_
  rintro e w4 ⟨rfl, bb⟩
  replace HX := Lib.hid (HX.out.trans (bb.mono HX.out.size))
  clear bb
  go_wp2_with fail
  refine hK.out _ _ (KEEP.out _ HX.out) (fun hHeld => ?_)
  clear hK K
  try go_frame
  refine tx rfl (by kernel_rfl) (by kernel_rfl) (by kernel_rfl) (fun K hK => ?_)
  go_simp
  refine hK.out _ _ ?_
  clear hK K hHeld KEEP
  try go_frame
  go_wp2
  go_ret
  exact ⟨rfl, HB1.out.trans (HX.out.mono HB1.out.size)⟩
set_option maxHeartbeats 2000000 in
theorem back_any (t : Tb) (ht : t.L.length ≤ 512) (c n : Int) (hn2 : n ≤ 9223372036854775807) (w : World) :
    Calls Try.prog 22 #[tbV t, .int .i64 c, .int .i64 n] w fun e w' => e = .returned (.int .i64 (backM t.L c n : Nat)) ∧ Below w.heap.size w w' := by
  have HN := Lib.hid (show ∀ w, Calls Try.prog 46 #[tbV t, .int .i64 c, .int .i64 n, .int .i64 (-1), .int .i64 0] w fun e w' => e = .returned (.int .i64 (backM t.L c n : Nat)) ∧ Below w.heap.size w w' from fun w => by
    by_cases h : n < 1
    · rw [show backM t.L c n = edgeM t.L c by unfold backM; rw [if_pos h]]
      exact edge_any t ht c n (-1) _ h w
    · rw [show backM t.L c n = (sideL t.L c false).getD (n - 1).toNat 0 by unfold backM sideL; rw [if_neg h, if_neg (by decide)]]
      exact nth_any t ht c n false 0 (by omega) hn2 w)
  have HL := Lib.hid (fun w => last_any t ht w)
  obtain ⟨x, hx⟩ : ∃ x, x = backM t.L c n := ⟨_, rfl⟩
  rw [← hx] at HN ⊢
  clear hx hn2 ht HL
  go_enter Try.func22, Try.ntmps22
  go_wp2_with fail
  refine (HN.out _).mono ?_
  rintro e w3 ⟨rfl, b3⟩
  have HB := Lib.hid (show Below w.heap.size w w3 from (show Below w.heap.size w (w.alloc (.cells (tbC t) TB)) from (Below.refl _ _).alloc (Nat.le_refl _) _).trans (b3.mono (by simp)))
  clear b3
  go_wp2
  go_ret
  exact ⟨rfl, HB.out⟩
end Go.Proofs.Ytmfbknmcmopjnaa.Lab
