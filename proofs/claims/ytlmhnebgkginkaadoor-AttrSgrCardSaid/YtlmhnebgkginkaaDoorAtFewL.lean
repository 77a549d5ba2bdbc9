/- The law's few: forty rows at most, of nine numbers each, copied. -/
import Derived.Test.YtlmhnebgkginkaaDoorAtRows
import Derived.Test.YtlmhnebgkginkaaDoorAtRSev
namespace Go.Proofs.YtlmhnebgkginkaaDoor.Lab
open Go Go.RowKit

theorem NumsAt.takeC {w : World} {X : Nat → Prop} {a : Option Addr} {n c : Nat} {r : List Int} (h : NumsAt w X (.slice a n c) r) {k : Nat} (hk : k ≤ r.length) : NumsAt w X (.slice a k c) (r.take k) := by
  obtain ⟨a', c', e, hc, hm, hh⟩ := h
  injection e with e1 e2 e3
  subst e1 e3
  have hl : (r.take k).length = k := by rw [List.length_take]; omega
  refine ⟨_, _, by rw [hl], by omega, by omega, fun h0 => ?_⟩
  obtain ⟨g, o, ea, hx, hg, hcell⟩ := hh (by omega)
  refine ⟨g, o, ea, hx, hg, fun j hj => ?_⟩
  rw [hl] at hj
  rw [getD_takeK r k j 0 hj]
  exact hcell j (by omega)
theorem MatAt.row_of {w : World} {X : Nat → Prop} {v : Value} {P : Rws} (h : MatAt w X v P) (h0 : 0 < P.length) : ∃ g o c, v = .slice (some ⟨g, o, none⟩) P.length c ∧ g < w.heap.size ∧ ∀ k, k < P.length → ∃ ua ul uc, w.cell? ⟨g, o + k, none⟩ = some (.slice ua ul uc) ∧ ul = (P.getD k []).length ∧ ul ≤ uc ∧ NumsAt w X (.slice ua ul uc) (P.getD k []) := by
  obtain ⟨g, o, c, e, _, _, _, hg, hcell⟩ := h.open h0
  refine ⟨g, o, c, e, hg, fun k hk => ?_⟩
  obtain ⟨u, hu, hn⟩ := hcell k hk
  obtain ⟨ua, uc, e, hc, hh⟩ := id hn
  subst e
  exact ⟨ua, _, uc, hu, rfl, hc, hn⟩
section
variable {P : Program}
theorem run_append_none_c {w : World} (base : Nat) (t ty e : TypeId) (i : TypeInfo) (size c : Nat) (ht : P.underlying t = some (.slice e)) (hi : P.info? e = some i)
    (v : Value) (n : Nat) (xs : List Value) (hown : w.ownsRow base e size v n xs) :
    (Builtin.append_ #[t, t] ty #[v, .slice none 0 c]).run P w = .ok v w := by
  rcases hown.2 with ⟨rfl, rfl⟩ | ⟨g, cap, cur, rfl, _, _, hnc, _⟩
  · simp [Builtin.append_, run_underlying ht, sizeOf, typeInfo, hi, Builtin.lenOf, Builtin.firstCells]
  · simp [Builtin.append_, run_underlying ht, sizeOf, typeInfo, hi, Builtin.lenOf, Builtin.firstCells, hnc, storeCells]
end
/-- Numbers that lie anywhere, appended to a row of the call's own. -/
theorem wp_append_nums {o : Oper} {a : Act} {w : World} {K : Act → World → Prop} {Q : Exit → Act → World → Prop} (s x : Operand)
    (hop : o.op = Op.call { callee := Callee.builtin Builtin.append, args := #[s, x], argTypes := #[50, 50] })
    (lo : Nat) (v : Value) (n : Nat) (l : List Int) (hs : a.eval s = v) (hown : w.ownsRow lo 3 1 v n (intsV l)) (hv : v ≠ .slice none 0 0)
    (X : Nat → Prop) (u : Value) (r : List Int) (hx : a.eval x = u) (hr : NumsAt w X u r) (hnr : n + r.length ≤ 1000) (hb : lo ≤ w.heap.size)
    (hK : ∀ v' w', w'.ownsRow lo 3 1 v' (n + r.length) (intsV (l ++ r)) → v' ≠ .slice none 0 0 → Below lo w w' → K (a.put o.dst v') w') :
    Oper.wp Tryd.prog o a w K Q := by
  obtain ⟨ib, hi, hz0, hz1, hz2⟩ := info_parts infoInt
  obtain ⟨ua, uc, e, _, _, hh⟩ := hr
  subst e
  have hcat : intsV (l ++ r) = intsV l ++ intsV r := by simp [intsV]
  cases ua with
  | none =>
    have h0 : r = [] := by
      by_cases h : 0 < r.length
      · obtain ⟨_, _, e, _⟩ := hh h
        cases e
      · exact List.length_eq_zero_iff.1 (by omega)
    subst h0
    have hrun := run_append_none_c (P := Tryd.prog) (w := w) lo 50 o.type 3 ib 1 uc Tryd.underlying50 hi v n (intsV l) hown
    unfold Oper.wp
    simp only [List.length_nil] at hx
    simp [execOp, hop, resolve, invoke, builtin, hs, hx, hrun, Result.andThen]
    exact hK v w (by simpa using hown) hv (Below.refl _ _)
  | some ad =>
    refine wp_append_own w s x 50 hop lo 3 ib (.int .i64 0) 1 8 Tryd.underlying50 hi hz0 hz1 hz2 rfl (by decide) v n (intsV l) hs hown ad r.length uc (intsV r) hx (by simp) (fun j y hj => ?_) (intsV_one r) (by unfold maxLen; omega) (by omega) hb (fun v' w' h1 h2 h3 => ?_)
    · have hjl : j < r.length := by
        have := (List.getElem?_eq_some_iff.1 hj).1
        simpa using this
      obtain ⟨g, o', e, _, _, hcell⟩ := hh (by omega)
      obtain rfl := Option.some.inj e
      have hy : (intsV r)[j]? = some (.int .i64 (r.getD j 0)) := by simp [List.getD_eq_getElem?_getD, hjl]
      obtain rfl : Value.int .i64 (r.getD j 0) = y := Option.some.inj (hy.symm.trans hj)
      rw [Addr.add_mid]
      exact hcell j hjl
    · exact hK v' w' (by rw [hcat]; exact h1) (fun e => hv (h3.1 e).1) ((Below.refl lo w).grown h2 hb (fun j hj => (hown.lt j hj).1))
theorem SRow.one {w w2 : World} {lo : Nat} {u : Value} {r : List Int} (h : IntsAt w lo u r) (h2 : w2 = w.alloc (.cells #[u] 50)) : SRow w2 lo w.heap.size 1 [r] := by
  have hb2 : Below w.heap.size w w2 := by rw [h2]; exact (Below.refl _ _).alloc (Nat.le_refl _) _
  refine ⟨rfl, by rw [h2]; simp, [u], rfl, fun j y hj => ?_, fun y hy => ?_, fun i hi => ?_⟩
  · cases j with
    | zero =>
      obtain rfl : u = y := by simpa using hj
      rw [h2]
      simp
    | succ j => simp at hj
  · obtain rfl : y = u := by simpa using hy
    obtain ⟨g, c, cur, rfl, _⟩ := h.open
    rfl
  · obtain rfl : i = 0 := by simpa using hi
    exact h.below hb2
abbrev few9 (P : Rws) : Rws := P.map fun r => r.take 9
theorem few_snoc (P : Rws) (k : Nat) (hk : k < P.length) : few9 (P.take (k + 1)) = few9 (P.take k) ++ [(P.getD k []).take 9] := by
  rw [List.take_succ_eq_append_getElem hk, few9, List.map_append, List.getD_eq_getElem?_getD, List.getElem?_eq_getElem hk]
  rfl
def FewOut (w : World) (P : Rws) (e : Ending) (w' : World) : Prop := ∃ u, e = .returned u ∧ RowsAt w' w.heap.size u (few9 (P.take 40)) ∧ Below w.heap.size w w'
set_option maxHeartbeats 16000000 in
set_option maxRecDepth 100000 in
theorem few_any (w : World) (X : Nat → Prop) (v : Value) (P : Rws) (h : MatAt w X v P) : Calls Tryd.prog 10 #[v] w (FewOut w P) := by
  obtain ⟨va, vc, rfl⟩ := h.shape
  obtain ⟨n, hn⟩ : ∃ n, n = P.length := ⟨_, rfl⟩
  have HN := Lib.hid hn
  have HM := Lib.hid h
  rw [← hn] at HM ⊢
  clear hn h
  go_enter Tryd.func10, Tryd.ntmps10
  go_wp2
  go_loopg [3, 4] 40 (fun G u i wr => ∃ k : Nat, i = .int .i64 k ∧ k ≤ n ∧ k ≤ 40 ∧ 40 - k ≤ G ∧ Hid (WRow wr w.heap.size w.heap.size u (few9 (P.take k))) ∧ Hid (Below w.heap.size w wr))
  case atStart => exact ⟨0, rfl, Nat.zero_le _, Nat.zero_le _, Nat.sub_le _ _, Lib.hid ⟨[], World.ownsRow_nil _ _ _ 1, fun i hi => by simp at hi⟩, Lib.hid (Below.refl _ _)⟩
  case round =>
    obtain ⟨k, rfl, hkn, hk40, hgk, HR, HB⟩ := hrel
    by_cases hgo : k < n ∧ k < 40
    · obtain ⟨hlt, hlt40⟩ := hgo
      have hkP : k < P.length := by rw [← HN.out]; exact hlt
      obtain ⟨g, o, c, e, hg, hcell⟩ := HM.out.row_of (by omega)
      injection e with e1 e2 e3
      subst e1
      clear e2 e3
      obtain ⟨ua, ul, uc, a1, hul, huc, hrow⟩ := hcell k hkP
      obtain ⟨row, hrw⟩ : ∃ row, row = P.getD k [] := ⟨_, rfl⟩
      have HFS := Lib.hid (show few9 (P.take (k + 1)) = few9 (P.take k) ++ [row.take 9] by rw [hrw]; exact few_snoc P k hkP)
      rw [← hrw] at hul hrow
      obtain ⟨m, hm⟩ : ∃ m : Nat, m = min ul 9 := ⟨_, rfl⟩
      have hmin : min (ul : Int) 9 = (m : Int) := by omega
      have s1 := fun w => low_ints ua ul m uc (by omega) w
      have HT0 := hrow.takeC (k := m) (by omega)
      have HTE : row.take m = row.take 9 := by
        by_cases h9 : ul ≤ 9
        · rw [List.take_of_length_le (by omega), List.take_of_length_le (by omega)]
        · rw [show m = 9 by omega]
      have hTL : (row.take 9).length = m := by rw [List.length_take]; omega
      rw [HTE] at HT0
      have HTL := Lib.hid hTL
      have hm9 : m ≤ 9 := by omega
      have HFL := Lib.hid (show (few9 (P.take k)).length ≤ 40 by rw [List.length_map, List.length_take]; omega)
      have HS := Lib.hid (show ∀ W, Below w.heap.size wr W → W.cell? ⟨g, o + k, none⟩ = some (.slice ua ul uc) from fun W hb => (hb.cell (p := ⟨g, o + k, none⟩) hg).trans ((HB.out.cell (p := ⟨g, o + k, none⟩) hg).trans a1))
      have HT := Lib.hid (show ∀ W, Below w.heap.size wr W → NumsAt W X (.slice ua m uc) (row.take 9) from fun W hb => HT0.below (HB.out.trans hb))
      have HWS := Lib.hid HB.out.size
      have d1 : k < 40 := hlt40
      clear a1 hul huc hrow hrw hm HT0 HTE hTL hcell hkP hg
      go_upto_region 5 with (fail)
      refine wp_region_held_drew (S := fun w' => w'.cell? ⟨g, o + k, none⟩ = some (.slice ua ul uc)) (by kernel_rfl) ?_ (fun hHeld => ?_)
      · exact HS.out _ ⟨rfl, rfl, rfl, Nat.le_refl _, fun _ _ => rfl⟩
      have bd : Below w.heap.size wr wr.drew := ⟨rfl, rfl, rfl, Nat.le_refl _, fun _ _ => rfl⟩
      obtain ⟨W0, hW0⟩ : ∃ u0, u0 = wr.drew := ⟨_, rfl⟩
      rw [← hW0] at bd
      replace hHeld := HS.out _ bd
      rw [← hW0]
      replace HR := Lib.hid (show WRow W0 w.heap.size w.heap.size u3 (few9 (P.take k)) from HR.out.below (by rw [hW0]; exact ⟨rfl, rfl, rfl, Nat.le_refl _, fun _ _ => rfl⟩))
      replace HWS := Lib.hid (Nat.le_trans HWS.out bd.size)
      have HBX := Lib.hid bd
      clear hW0 bd
      refine take_at (i := 0) (v := ?_) rfl (by kernel_rfl) (by kernel_rfl) (by kernel_rfl) (fun _ _ _ h => h) (by kernel_rfl) (by assumption) ?_ ?_
      rotate_left
      · (intro w hSw; (try dsimp only at hSw); go_simp; try with_reducible rfl)
      simp only [Act.put, List.setIfInBounds_toArray, List.set_cons_zero, List.set_cons_succ]
      refine take_at (i := 2) (v := ?_) rfl (by kernel_rfl) (by kernel_rfl) (by kernel_rfl) (fun _ _ _ h => h) (by kernel_rfl) (by assumption) ?_ ?_
      rotate_left
      · (intro w hSw; (try dsimp only at hSw); go_simp; try with_reducible rfl)
      simp only [Act.put, List.setIfInBounds_toArray, List.set_cons_zero, List.set_cons_succ]
      refine take_at (i := 3) (v := ?_) rfl (by kernel_rfl) (by kernel_rfl) (by kernel_rfl) (fun _ _ _ h => h) (by kernel_rfl) (by assumption) ?_ ?_
      rotate_left
      · (intro w hSw; (try dsimp only at hSw); go_simp; try with_reducible rfl)
      simp only [Act.put, List.setIfInBounds_toArray, List.set_cons_zero, List.set_cons_succ]
      refine take_at (i := 4) (v := ?_) rfl (by kernel_rfl) (by kernel_rfl) (by kernel_rfl) (fun _ _ _ h => h) (by kernel_rfl) (by assumption) ?_ ?_
      rotate_left
      · (intro w hSw; (try dsimp only at hSw); go_simp; try with_reducible rfl)
      simp only [Act.put, List.setIfInBounds_toArray, List.set_cons_zero, List.set_cons_succ]
      refine take_at (i := 5) (v := ?_) rfl (by kernel_rfl) (by kernel_rfl) (by kernel_rfl) (fun _ _ _ h => h) (by kernel_rfl) (by assumption) ?_ ?_
      rotate_left
      · (intro w hSw; (try dsimp only at hSw); go_simp; try with_reducible rfl)
      simp only [Act.put, List.setIfInBounds_toArray, List.set_cons_zero, List.set_cons_succ]
      refine take_at (i := 6) (v := ?_) rfl (by kernel_rfl) (by kernel_rfl) (by kernel_rfl) (fun _ _ _ h => h) (by kernel_rfl) (by assumption) ?_ ?_
      rotate_left
      · (intro w hSw; (try dsimp only at hSw); go_simp; try with_reducible rfl)
      simp only [Act.put, List.setIfInBounds_toArray, List.set_cons_zero, List.set_cons_succ]
      refine take_at (i := 7) (v := ?_) rfl (by kernel_rfl) (by kernel_rfl) (by kernel_rfl) (fun _ _ _ h => h) (by kernel_rfl) (by assumption) ?_ ?_
      rotate_left
      · (intro w hSw; (try dsimp only at hSw); go_simp; try with_reducible rfl)
      simp only [Act.put, List.setIfInBounds_toArray, List.set_cons_zero, List.set_cons_succ]
      refine take_at (i := 8) (v := ?_) rfl (by kernel_rfl) (by kernel_rfl) (by kernel_rfl) (fun _ _ _ h => h) (by kernel_rfl) (by assumption) ?_ ?_
      rotate_left
      · (intro w hSw; (try dsimp only at hSw); go_simp; try with_reducible rfl)
      simp only [Act.put, List.setIfInBounds_toArray, List.set_cons_zero, List.set_cons_succ]
      refine take_at (i := 9) (v := ?_) rfl (by kernel_rfl) (by kernel_rfl) (by kernel_rfl) (fun _ _ _ h => h) (by kernel_rfl) (by assumption) ?_ ?_
      rotate_left
      · (intro w hSw; (try dsimp only at hSw); go_simp; try with_reducible rfl)
      simp only [Act.put, List.setIfInBounds_toArray, List.set_cons_zero, List.set_cons_succ]
      refine take_at (i := 10) (v := ?_) rfl (by kernel_rfl) (by kernel_rfl) (by kernel_rfl) (fun _ _ _ h => h) (by kernel_rfl) (by assumption) ?_ ?_
      rotate_left
      · (intro w hSw; (try dsimp only at hSw); go_simp; try with_reducible rfl)
      simp only [Act.put, List.setIfInBounds_toArray, List.set_cons_zero, List.set_cons_succ]
      refine take_at (i := 11) (v := ?_) rfl (by kernel_rfl) (by kernel_rfl) (by kernel_rfl) (fun _ _ _ h => h) (by kernel_rfl) (by assumption) ?_ ?_
      rotate_left
      · (intro w hSw; (try dsimp only at hSw); go_simp; try with_reducible rfl)
      simp only [Act.put, List.setIfInBounds_toArray, List.set_cons_zero, List.set_cons_succ]
      refine take_at (i := 12) (v := ?_) rfl (by kernel_rfl) (by kernel_rfl) (by kernel_rfl) (fun _ _ _ h => h) (by kernel_rfl) (by assumption) ?_ ?_
      rotate_left
      · (intro w hSw; (try dsimp only at hSw); go_simp; try with_reducible rfl)
      simp only [Act.put, List.setIfInBounds_toArray, List.set_cons_zero, List.set_cons_succ]
      refine do_at (i := 1) rfl (by kernel_rfl) (by kernel_rfl) (fun K hK => ?_)
      obtain ⟨W1, hW1⟩ : ∃ u, u = W0.alloc (.cells #[] 3) := ⟨_, rfl⟩
      go_wp2_with fail
      rw [← hW1]
      have HE := Lib.hid (show W1.ownsRow W0.heap.size 3 1 (.slice (some ⟨W0.heap.size, 0, none⟩) 0 0) 0 (intsV []) by rw [hW1]; exact World.ownsRow_lit (e := 3) (base := W0.heap.size) (size := 1) W0 #[] 0 (Nat.le_refl _) (Nat.zero_le _) rfl)
      have HB1 := Lib.hid (show Below W0.heap.size W0 W1 by rw [hW1]; exact (Below.refl _ _).alloc (Nat.le_refl _) _)
      replace HBX := Lib.hid (HBX.out.trans (HB1.out.mono HWS.out))
      obtain ⟨g1, hg1⟩ : ∃ g, g = W0.heap.size := ⟨_, rfl⟩
      rw [← hg1] at HE ⊢
      have HG1 := Lib.hid hg1
      clear hW1 hg1
      refine hK.out _ _ ?_ (fun hHeld => ?_)
      · exact HS.out _ HBX.out
      clear hK K
      try simp only [Act.put, List.setIfInBounds_toArray, List.set_cons_zero, List.set_cons_succ]
      refine do_at (i := 13) rfl (by kernel_rfl) (by kernel_rfl) (fun K hK => ?_)
      refine wp_append_nums (.tmp 16) (.tmp 27) rfl g1 (.slice (some ⟨g1, 0, none⟩) 0 0) 0 [] rfl HE.out (by simp) X (.slice ua m uc) (row.take 9) rfl (HT.out W1 HBX.out) (by have := HTL.out; omega) (by rw [HG1.out]; exact HB1.out.size) (fun v2 W2 own2 hv2 bb => ?_)
      have HB2 := Lib.hid (show Below W0.heap.size W0 W2 from HB1.out.trans (by rw [← HG1.out]; exact bb))
      have HI2 := Lib.hid (show IntsAt W2 w.heap.size v2 (row.take 9) from IntsAt.lower ⟨by simpa using own2, hv2⟩ (show w.heap.size ≤ g1 by rw [HG1.out]; exact HWS.out))
      have HR2 := Lib.hid (HR.out.below HB2.out)
      have HS2 := Lib.hid (show w.heap.size ≤ W2.heap.size from Nat.le_trans HWS.out HB2.out.size)
      replace HBX := Lib.hid (HBX.out.trans (bb.mono (show w.heap.size ≤ g1 by rw [HG1.out]; exact HWS.out)))
      clear own2 hv2 bb HE HB1 HG1 HB2 HR
      obtain ⟨q2, c2, _, hv2e, _⟩ := HI2.out.open
      obtain ⟨n2, hn2⟩ : ∃ n2, n2 = (row.take 9).length := ⟨_, rfl⟩
      rw [← hn2] at hv2e
      subst hv2e
      clear hn2
      refine hK.out _ _ ?_ (fun hHeld => ?_)
      · exact HS.out _ HBX.out
      clear hK K
      try simp only [Act.put, List.setIfInBounds_toArray, List.set_cons_zero, List.set_cons_succ]
      refine do_at (i := 14) rfl (by kernel_rfl) (by kernel_rfl) (fun K hK => ?_)
      obtain ⟨W3, hW3⟩ : ∃ u, u = W2.alloc (.cells #[.slice (some ⟨q2, 0, none⟩) n2 c2] 50) := ⟨_, rfl⟩
      go_wp2_with fail
      rw [← hW3]
      have HSR := Lib.hid (SRow.one HI2.out hW3)
      have bb : Below W2.heap.size W2 W3 := by rw [hW3]; exact (Below.refl _ _).alloc (Nat.le_refl _) _
      have HR3 := Lib.hid (HR2.out.below bb)
      have HS3 := Lib.hid (show w.heap.size ≤ W3.heap.size from Nat.le_trans HS2.out bb.size)
      replace HBX := Lib.hid (HBX.out.trans (bb.mono HS2.out))
      obtain ⟨g3, hg3⟩ : ∃ g, g = W2.heap.size := ⟨_, rfl⟩
      rw [← hg3] at HSR ⊢
      clear hW3 hg3 bb HI2 HR2 HS2
      refine hK.out _ _ ?_ (fun hHeld => ?_)
      · exact HS.out _ HBX.out
      clear hK K
      try simp only [Act.put, List.setIfInBounds_toArray, List.set_cons_zero, List.set_cons_succ]
      refine do_at (i := 15) rfl (by kernel_rfl) (by kernel_rfl) (fun K hK => ?_)
      refine wp_rows (.tmp 15) (.tmp 29) rfl rfl HR3.out rfl HSR.out (by have := HFL.out; rw [List.length_singleton]; omega) HS3.out (fun v4 W4 R4 bb => ?_)
      have HR4 := Lib.hid (show WRow W4 w.heap.size w.heap.size v4 (few9 (P.take (k + 1))) by rw [HFS.out]; exact R4)
      replace HBX := Lib.hid (HBX.out.trans (bb))
      clear R4 bb HSR HR3 HS3
      refine hK.out _ _ ?_ (fun hHeld => ?_)
      · exact HS.out _ HBX.out
      clear hK K
      try simp only [Act.put, List.setIfInBounds_toArray, List.set_cons_zero, List.set_cons_succ]
      refine take_at (i := 16) (v := ?_) rfl (by kernel_rfl) (by kernel_rfl) (by kernel_rfl) (fun _ _ _ h => h) (by kernel_rfl) (by assumption) ?_ ?_
      rotate_left
      · (intro w hSw; (try dsimp only at hSw); go_simp; try with_reducible rfl)
      simp only [Act.put, List.setIfInBounds_toArray, List.set_cons_zero, List.set_cons_succ]
      refine wpAnyH_done (by kernel_rfl) ?_ _
      have HBN := Lib.hid (HB.out.trans HBX.out)
      clear HB HBX HS HT HTL HFL HFS hHeld HWS s1 hmin
      go_wp2
      go_roundg (40 - (k + 1))
      case rel => exact ⟨k + 1, by go_num, by omega, by omega, Nat.le_refl _, HR4, HBN⟩
      case measure => omega
    · by_cases hlt : k < n
      · have d1 : ¬ k < 40 := fun h => hgo ⟨hlt, h⟩
        have HE := Lib.hid (show P.take k = P.take 40 by
          have := HN.out
          by_cases h : k = 40
          · rw [h]
          · rw [List.take_of_length_le (by omega), List.take_of_length_le (by omega)])
        clear HM
        go_wp2
        go_ret
        exact ⟨u3, rfl, by have := HR.out.rows (Nat.le_refl _); rwa [HE.out] at this, HB.out⟩
      · skip
        have HE := Lib.hid (show P.take k = P.take 40 by
          have := HN.out
          by_cases h : k = 40
          · rw [h]
          · rw [List.take_of_length_le (by omega), List.take_of_length_le (by omega)])
        clear HM
        go_wp2
        go_ret
        exact ⟨u3, rfl, by have := HR.out.rows (Nat.le_refl _); rwa [HE.out] at this, HB.out⟩
end Go.Proofs.YtlmhnebgkginkaaDoor.Lab
