/- The project's from, and the iterator that it answers. -/
import Derived.Test.YtmfbknmcmopjnaaTbWith
set_option linter.unusedVariables false
namespace Go.Proofs.Ytmfbknmcmopjnaa.Lab
open Go Go.RowKit Go.Shelf
attribute [local go_sem] Oper.semAt_some

abbrev fromP (b : Nat) : Array Value := #[.pointer (some ⟨b + 1, 0, none⟩), .pointer (some ⟨b, 0, none⟩), .pointer (some ⟨b + 2, 0, none⟩)]
abbrev fromF (b : Nat) : Value := .func (.func 53) #[] (fromP b)
/-- What the iterator reads. -/
def FromAt (W : World) (b : Nat) (t : Tb) (c s : Int) : Prop := TbAt W b t ∧ W.cell? ⟨b + 1, 0, none⟩ = some (.int .i64 c) ∧ W.cell? ⟨b + 2, 0, none⟩ = some (.int .i64 s)
theorem FromAt.below {w w' : World} {b : Nat} {t : Tb} {c s : Int} (h : FromAt w b t c s) (k : Below w.heap.size w w') : FromAt w' b t c s :=
  ⟨h.1.below k, (k.cell (World.block_lt_of_cell? w _ h.2.1)).trans h.2.1, (k.cell (World.block_lt_of_cell? w _ h.2.2)).trans h.2.2⟩
theorem FromAt.buts {S : Nat → Prop} {w w' : World} {b : Nat} {t : Tb} {c s : Int} (h : FromAt w b t c s) (k : Buts S w w') (h0 : ¬ S b) (h1 : ¬ S (b + 1)) (h2 : ¬ S (b + 2)) : FromAt w' b t c s :=
  ⟨(k.block b h.1.lt h0).trans h.1, k.cell h.2.1 h1, k.cell h.2.2 h2⟩
theorem from_any (t : Tb) (c s : Int) (w : World) : Calls Try.prog 44 #[tbV t, .int .i64 c, .int .i64 s] w fun e w' => e = .returned (fromF w.heap.size) ∧ FromAt w' w.heap.size t c s ∧ Below w.heap.size w w' ∧ w'.heap.size = w.heap.size + 3 := by
  go_enter Try.func44, Try.ntmps44
  go_wp2
  go_ret
  refine ⟨rfl, ⟨?_, ?_, ?_⟩, (((Below.refl _ _).alloc (Nat.le_refl _) _).alloc (by simp) _).alloc (by simp; omega) _, by simp⟩
  · unfold TbAt
    rw [Below.heap_alloc _ _ _ (by simp; omega), Below.heap_alloc _ _ _ (by simp)]
    exact World.alloc_heap_new w _
  · have q : ((w.alloc (.cells (tbC t) TB)).alloc (.cells #[.int .i64 c] 3)).cell? ⟨w.heap.size + 1, 0, none⟩ = some (.int .i64 c) := by rw [World.cell?_alloc_at _ _ _ _ (by simp)]; rfl
    exact (((Below.refl _ _).alloc (Nat.le_refl _) _).cell (World.block_lt_of_cell? _ _ q)).trans q
  · rw [World.cell?_alloc_at _ _ _ _ (by simp)]
    rfl

/-- Which side's tab stops come. -/
def sideL (L : List Bool) (c : Int) (up : Bool) : List Nat := if up = true then ups L (inN c (-1) L.length + 1).toNat else downs L (inN c (-1) L.length).toNat
def stepV (up : Bool) : Int := if up = true then 1 else -1
/-- What is still to come at a column. -/
def todo (L : List Bool) (up : Bool) (a : Int) : List Nat := if up = true then ups L a.toNat else downs L (a + 1).toNat
theorem todo_start (L : List Bool) (c : Int) (up : Bool) : todo L up (inN c (-1) L.length + stepV up) = sideL L c up := by
  unfold todo sideL stepV
  cases up
  · simp only [Bool.false_eq_true, if_false]
    rw [show inN c (-1) L.length + -1 + 1 = inN c (-1) L.length by omega]
  · rfl
theorem todo_out {L : List Bool} {up : Bool} {a : Int} (h : isC L a = false) (h0 : up = true → 0 ≤ a) (h1 : up = false → a < L.length) : todo L up a = [] := by
  unfold isC at h
  have h := of_decide_eq_false h
  unfold todo
  cases up
  · have := h1 rfl
    simp only [Bool.false_eq_true, if_false]
    rw [show (a + 1).toNat = 0 by omega]
    rfl
  · have := h0 rfl
    simp only [if_true]
    exact ups_out L (by omega)
theorem todo_in {L : List Bool} {up : Bool} {m : Nat} (h : m < L.length) : todo L up (m : Int) = if L.getD m false = true then m :: todo L up ((m : Int) + stepV up) else todo L up ((m : Int) + stepV up) := by
  unfold todo stepV
  cases up
  · simp only [Bool.false_eq_true, if_false]
    rw [show ((m : Int) + 1).toNat = m + 1 by omega, show ((m : Int) + -1 + 1).toNat = m by omega, downs]
  · simp only [if_true]
    rw [show ((m : Int) + 1).toNat = m + 1 by omega, Int.toNat_natCast, ups_step L h]
theorem ups_len (L : List Bool) (a : Nat) : (ups L a).length ≤ L.length := by
  have := stops_split L a
  have h := stops_len L
  rw [this, List.length_append] at h
  omega
theorem downs_len (L : List Bool) (a : Nat) : (downs L a).length ≤ L.length := by
  have := stops_split L a
  have h := stops_len L
  rw [this, List.length_append] at h
  rw [downs_eq, List.length_reverse]
  omega
theorem side_len (L : List Bool) (c : Int) (up : Bool) : (sideL L c up).length ≤ L.length := by
  unfold sideL
  split
  · exact ups_len _ _
  · exact downs_len _ _
theorem drop_cons {Q : List Nat} {k m : Nat} {R : List Nat} (h : Q.drop k = m :: R) : k < Q.length ∧ Q.getD k 0 = m ∧ Q.drop (k + 1) = R := by
  have hk : k < Q.length := by
    rcases Nat.lt_or_ge k Q.length with c | c
    · exact c
    · rw [List.drop_eq_nil_of_le c] at h
      cases h
  rw [List.drop_eq_getElem_cons hk] at h
  injection h with h1 h2
  refine ⟨hk, ?_, h2⟩
  rw [List.getD_eq_getElem?_getD, List.getElem?_eq_getElem hk]
  exact h1
theorem and_word (L : List Bool) (m : Nat) : bits .and .u64 ((wd L (m / 64) : Nat) : Int) ((2 ^ (m % 64) : Nat) : Int) = ((wd L (m / 64) &&& 2 ^ (m % 64) : Nat) : Int) := by
  have h1 := wd_lt L (m / 64)
  have h2 : 2 ^ (m % 64) < 2 ^ 64 := Nat.pow_lt_pow_right (by decide) (Nat.mod_lt _ (by decide))
  rw [u64_and_nat _ _ (by omega) (by omega)]
set_option maxHeartbeats 4000000 in
theorem from_iter (b : Nat) (t : Tb) (ht : t.L.length ≤ 512) (c : Int) (up : Bool) :
    IterS Try.prog 53 #[] (fromP b) (sideL t.L c up).length (fun k => #[.int .i64 ((sideL t.L c up).getD k 0 : Nat)]) (fun _ W => FromAt W b t c (stepV up)) := by
  intro l J Jx W hH hg hgx hY h0
  obtain ⟨wz, hwd⟩ : ∃ x, x = W.drew := ⟨_, rfl⟩
  have HJ := Lib.hid (show J 0 wz by rw [hwd]; exact hg 0 W _ h0 (grown_drew W))
  have HF := Lib.hid (hH 0 _ HJ.out)
  obtain ⟨Q, hQ⟩ : ∃ Q, Q = sideL t.L c up := ⟨_, rfl⟩
  have HTS := Lib.hid ((todo_start t.L c up).trans hQ.symm)
  rw [← hQ] at hY ⊢
  obtain ⟨s, hs⟩ : ∃ s, s = stepV up := ⟨_, rfl⟩
  have HSV := Lib.hid (show (up = true ∧ s = 1) ∨ (up = false ∧ s = -1) by rw [hs]; cases up <;> simp [stepV])
  obtain ⟨a0, ha0⟩ : ∃ a0, a0 = inN c (-1) t.L.length := ⟨_, rfl⟩
  have HA0 := Lib.hid (show -1 ≤ a0 ∧ a0 ≤ t.L.length by rw [ha0]; unfold inN; omega)
  have HW := Lib.hid (fun w => within_any c (-1) t.L.length w)
  rw [← hs] at HF HTS
  rw [← ha0] at HTS HW
  have HH := Lib.hid hH
  have HG := Lib.hid hg
  have HX := Lib.hid hgx
  have HY := Lib.hid hY
  have HT5 := Lib.hid ht
  rw [← hs] at HH
  have u0 : IntKind.i64.wrap (a0 + s) = a0 + s := by rw [IntKind.wrap_i64]; have := HA0.out; have := HSV.out; omega
  obtain ⟨⟨c0, c1, c2, c3, c4, c5, c6, c7, c8, c9, c10⟩, q1, q2⟩ := And.intro HF.out.1.cells HF.out.2
  clear hH hg hgx hY h0 hQ hs ha0 ht c0 c1 c2 c3 c4 c5 c6 c7 c9 c10
  refine callsIn_of_wp Try.func53 rfl trivial ?_ rfl
  simp only [Try.ntmps53, List.size_toArray, List.length_cons, List.length_nil, Nat.reduceAdd, Nat.reduceSub, Array.replicate_succ, Array.replicate_zero, List.push_toArray, List.append_toArray, List.nil_append, List.cons_append]
  gi_wp2
  refine region_heldX (S := fun wx => wx = wz) 6 (by kernel_rfl) (fun hS => ?_) hwd.symm
  rw [← hwd]
  replace hS : wz = wz := rfl
  clear hwd
  refine ti 0 rfl (fun w hSw => by (try dsimp only at hSw); subst hSw; go_simp; try with_reducible rfl) ?_
  go_frame
  refine ti 1 rfl (fun w hSw => by (try dsimp only at hSw); subst hSw; go_simp; try with_reducible rfl) ?_
  go_frame
  refine ti 2 rfl (fun w hSw => by (try dsimp only at hSw); subst hSw; go_simp; try with_reducible rfl) ?_
  go_frame
  refine ti 4 rfl (fun w hSw => by (try dsimp only at hSw); subst hSw; go_simp; try with_reducible rfl) ?_
  go_frame
  refine th 3 rfl (by kernel_rfl) (by decide) (by kernel_rfl) (fun K hK => ?_)
  go_simp
  refine (HW.out _).mono ?_
  rintro e w' ⟨rfl, rfl⟩
  go_wp2
  refine hK.out _ _ rfl (fun hS => ?_)
  clear hK K
  try go_frame
  refine ti 5 rfl (fun w hSw => by (try dsimp only at hSw); subst hSw; go_simp; try with_reducible rfl) ?_
  go_frame
  refine tx rfl (by kernel_rfl) (by kernel_rfl) (by kernel_rfl) (fun K hK => ?_)
  go_simp
  refine hK.out _ _ ?_
  clear hK K hS c8 q1 q2 HW
  obtain ⟨a1, ha1⟩ : ∃ a1, a1 = a0 + s := ⟨_, rfl⟩
  have HTA := Lib.hid (show todo t.L up a1 = Q by rw [ha1]; exact HTS.out)
  have HA1 := Lib.hid (show -2 ≤ a1 ∧ a1 ≤ 513 ∧ (up = true → 0 ≤ a1) ∧ (up = false → a1 < t.L.length) by
    have h1 := HA0.out
    have h2 := HT5.out
    rcases HSV.out with ⟨rfl, h3⟩ | ⟨rfl, h3⟩
    · exact ⟨by omega, by omega, fun _ => by omega, fun e => by cases e⟩
    · exact ⟨by omega, by omega, (fun e => by cases e), fun _ => by omega⟩)
  rw [← ha1]
  clear ha1 HTS u0
  gi_wp2
  gi_loopw [5] (fun v wr => ∃ (a : Int) (k : Nat), v = .int .i64 a ∧ Hid (J k wr) ∧ Hid (k ≤ Q.length ∧ todo t.L up a = Q.drop k) ∧ Hid (-2 ≤ a ∧ a ≤ 513 ∧ (up = true → 0 ≤ a) ∧ (up = false → a < t.L.length))) (fun v wr => if up = true then (600 - intOf v).toNat else (intOf v + 3).toNat)
  case atStart => exact ⟨a1, 0, rfl, HJ, Lib.hid ⟨Nat.zero_le _, HTA.out⟩, HA1⟩
  case round =>
    obtain ⟨a, k, rfl, HK, HQ, HA⟩ := hrel
    clear HJ HA1 HTA HF
    have HF := Lib.hid (HH.out k wr HK.out)
    obtain ⟨c0, c1, c2, c3, c4, c5, c6, c7, c8, c9, c10⟩ := HF.out.1.cells
    have HCA := Lib.hid (fun w => isCol_any t a w)
    by_cases hin : isC t.L a = true
    · obtain ⟨m, rfl, hm⟩ := (isC_iff t.L a).1 hin
      rw [hin] at HCA
      have HM := Lib.hid hm
      have HTI := Lib.hid (todo_in (up := up) hm)
      clear hin hm
      have HP := Lib.hid (fun w => place_any m (by have := HM.out; have := HT5.out; omega) w)
      have hb := and_word t.L m
      have HWT := Lib.hid (wd_test t.L m)
      have hq8 : m / 64 < 8 := by have := HM.out; have := HT5.out; omega
      have hw3 : ∀ w3, Below wr.heap.size wr w3 → w3.cell? ⟨b, m / 64, none⟩ = some (wV t.L (m / 64)) := fun w3 b3 => word_at (HF.out.1.below b3) hq8
      have hs3 : ∀ w3, Below wr.heap.size wr w3 → w3.cell? ⟨b + 2, 0, none⟩ = some (.int .i64 s) := fun w3 b3 => (HF.out.below b3).2.2
      have HC3 := Lib.hid hw3
      have HS3 := Lib.hid hs3
      clear hw3 hs3
      obtain ⟨q, hq⟩ : ∃ q, q = m / 64 := ⟨_, rfl⟩
      obtain ⟨z, hz⟩ : ∃ z, z = 2 ^ (m % 64) := ⟨_, rfl⟩
      rw [← hq, ← hz] at hb HWT HP
      rw [← hq] at hq8 HC3
      clear hq hz
      obtain ⟨x, hx⟩ : ∃ x, x = wd t.L q &&& z := ⟨_, rfl⟩
      rw [← hx] at hb HWT
      clear hx
      have HU0 := Lib.hid (show wrap64 ((m : Int) + s) = (m : Int) + s by unfold wrap64; have := HM.out; have := HT5.out; have := HSV.out; omega)
      have u1 : IntKind.i64.wrap ((m : Int) + s) = (m : Int) + s := by rw [IntKind.wrap_i64]; have := HM.out; have := HT5.out; have := HSV.out; omega
      obtain ⟨a2, ha2⟩ : ∃ a2, a2 = (m : Int) + s := ⟨_, rfl⟩
      have HA2 := Lib.hid (show (-2 ≤ a2 ∧ a2 ≤ 513 ∧ (up = true → 0 ≤ a2) ∧ (up = false → a2 < t.L.length)) ∧ (if up = true then (600 - a2).toNat < (600 - (m : Int)).toNat else (a2 + 3).toNat < ((m : Int) + 3).toNat) by
        have h1 := HM.out
        have h2 := HT5.out
        rcases HSV.out with ⟨rfl, h3⟩ | ⟨rfl, h3⟩
        · exact ⟨⟨by omega, by omega, fun _ => by omega, (fun e => by cases e)⟩, by rw [if_pos rfl]; omega⟩
        · exact ⟨⟨by omega, by omega, (fun e => by cases e), fun _ => by omega⟩, by rw [if_neg (by decide)]; omega⟩)
      have HSS := Lib.hid (show stepV up = s by rcases HSV.out with ⟨rfl, h3⟩ | ⟨rfl, h3⟩ <;> simp [stepV, h3])
      rw [HSS.out, ← ha2] at HTI
      rw [← ha2] at u1
      have HU := Lib.hid (HU0.out.trans ha2.symm)
      clear ha2 HU0
      by_cases hbit : t.L.getD m false = true
      · have hx0 : ((x : Int) != 0) = true := by
          have : ¬ x = 0 := fun e => by have := HWT.out.1 e; rw [hbit] at this; cases this
          simp [this]
        have HD := Lib.hid (drop_cons (Q := Q) (k := k) (m := m) (R := todo t.L up a2) (by rw [← HQ.out.2, HTI.out, if_pos hbit]))
        clear hbit
        gi_wp2_with (first
          | (refine ⟨trivial, rfl, ?_⟩; gi_at_call 49; refine (callsIn_wide.2 (HCA.out _)).mono ?_; rintro e w3 ⟨rfl, b3⟩)
          | (refine ⟨trivial, rfl, ?_⟩; gi_at_call 50; refine (callsIn_wide.2 (HP.out _)).mono ?_; rintro e w4 ⟨rfl, b4⟩; have HB4 := Lib.hid (b3.trans (b4.mono b3.size)); clear b3 b4 c0 c1 c2 c3 c4 c5 c6 c7 c8 c9 c10; have hc := HC3.out _ HB4.out))
        obtain ⟨fn, tmps, assign, body, hy, hR⟩ := HY.out k w4 HD.out.1 (HG.out k wr w4 HK.out (grown_of HB4.out))
        rw [HD.out.2.1] at hy
        rw [hy]
        clear hy hc hb hx0
        refine ⟨(fun h => by cases h), hR.mono ?_⟩
        rintro e W3 (⟨rfl, hJ3⟩ | ⟨rfl, hx3⟩)
        · have HJ3 := Lib.hid hJ3
          have hs := (HH.out (k + 1) W3 hJ3).2.2
          clear hJ3 hR
          gi_wp2
          go_roundw
          case rel => exact ⟨a2, k + 1, by rw [HU.out], HJ3, Lib.hid ⟨HD.out.1, HD.out.2.2.symm⟩, Lib.hid HA2.out.1⟩
          case measure =>
            have h := HA2.out.2
            simp only [intOf, HU.out]
            split at h <;> rename_i hu <;> simp only [hu, if_true, if_false, Bool.false_eq_true] <;> exact h
        · have HX3 := Lib.hid hx3
          clear hx3 hR
          gi_wp2
          refine bodyPost_ret (results_none rfl _ _ _) rfl ?_
          exact ⟨⟨_, rfl⟩, .inr HX3.out⟩
      · have hx0 : ((x : Int) != 0) = false := by
          have := HWT.out.2 (by simpa using hbit)
          simp [this]
        have HD := Lib.hid (show todo t.L up a2 = Q.drop k by rw [← HQ.out.2, HTI.out, if_neg hbit])
        clear hbit
        gi_wp2_with (first
          | (refine ⟨trivial, rfl, ?_⟩; gi_at_call 49; refine (callsIn_wide.2 (HCA.out _)).mono ?_; rintro e w3 ⟨rfl, b3⟩)
          | (refine ⟨trivial, rfl, ?_⟩; gi_at_call 50; refine (callsIn_wide.2 (HP.out _)).mono ?_; rintro e w4 ⟨rfl, b4⟩; have HB4 := Lib.hid (b3.trans (b4.mono b3.size)); clear b3 b4 c0 c1 c2 c3 c4 c5 c6 c7 c8 c9 c10; have hc := HC3.out _ HB4.out; have hs := HS3.out _ HB4.out))
        refine ⟨(fun f h => by cases h), ?_⟩
        gi_wp2
        go_roundw
        case rel => exact ⟨a2, k, by rw [HU.out], Lib.hid (HG.out k wr _ HK.out (grown_of HB4.out)), Lib.hid ⟨HQ.out.1, HD.out⟩, Lib.hid HA2.out.1⟩
        case measure =>
            have h := HA2.out.2
            simp only [intOf, HU.out]
            split at h <;> rename_i hu <;> simp only [hu, if_true, if_false, Bool.false_eq_true] <;> exact h
    · rw [Bool.not_eq_true] at hin
      rw [hin] at HCA
      have HE := Lib.hid (show k = Q.length by
        have := HQ.out.2
        rw [todo_out hin HA.out.2.2.1 HA.out.2.2.2] at this
        have h2 := List.drop_eq_nil_iff.1 this.symm
        have := HQ.out.1
        omega)
      clear hin
      gi_wp2_with (refine ⟨trivial, rfl, ?_⟩; gi_at_call 49; refine (callsIn_wide.2 (HCA.out _)).mono ?_; rintro e w3 ⟨rfl, b3⟩)
      go_end0
      refine ⟨⟨_, rfl⟩, .inl ?_⟩
      rw [← HE.out]
      exact HG.out k wr _ HK.out (grown_of b3)
end Go.Proofs.Ytmfbknmcmopjnaa.Lab
