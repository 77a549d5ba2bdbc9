/- Rows of modes in memory; modes that are drawn near to those that there are. -/
import Derived.Test.YtjdfinimbdcmbaaMdFns
import Derived.Laws.OwnMore
set_option linter.unusedVariables false
namespace Go.Proofs.Ytjdfinimbdcmbaa.Lab
open Go Go.RowKit

theorem keep_own_below {w w' : World} {lo size n : Nat} {e : TypeId} {v : Value} {xs : List Value} (h : w.ownsRow lo e size v n xs) (hb : Below w.heap.size w w') : w'.ownsRow lo e size v n xs := by
  refine h.kept (row := none) ⟨hb.os, hb.tape, hb.output, hb.size, fun k hk _ => hb.block k hk⟩ ?_
  cases hv : v.ownBlock with
  | none => exact .inl rfl
  | some b => exact .inr (by simp)
theorem own_shape {w : World} {lo size n : Nat} {e : TypeId} {v : Value} {xs : List Value} (h : w.ownsRow lo e size v n xs) : ∃ a c, v = .slice a n c := by
  rcases h.2 with ⟨rfl, h0⟩ | ⟨g, cap, cur, rfl, _⟩
  · exact ⟨none, 0, by rw [h0]⟩
  · exact ⟨_, cap, rfl⟩
theorem own_lower {w : World} {lo lo' n size : Nat} {e : TypeId} {v : Value} {xs : List Value} (h : w.ownsRow lo e size v n xs) (hl : lo' ≤ lo) : w.ownsRow lo' e size v n xs := by
  refine ⟨h.1, ?_⟩
  rcases h.2 with hn | ⟨g, cap, cur, e, hb, rest⟩
  · exact .inl hn
  · exact .inr ⟨g, cap, cur, e, Nat.le_trans hl hb, rest⟩
/-- A row of modes, cell by cell. -/
def moL (l : List Mo) : List Value := l.flatMap fun x => [.bool x.1, .int .i64 x.2]
theorem moL_len : ∀ l : List Mo, (moL l).length = l.length * 2
  | [] => rfl
  | x :: l => by
    show (_ :: _ :: moL l).length = _
    simp only [List.length_cons, moL_len l]
    omega
theorem moL_append (l k : List Mo) : moL (l ++ k) = moL l ++ moL k := by simp [moL]
theorem moL_at : ∀ (l : List Mo) (i : Nat), i < l.length → (moL l)[i * 2]? = some (.bool (l.getD i (false, 0)).1) ∧ (moL l)[i * 2 + 1]? = some (.int .i64 (l.getD i (false, 0)).2)
  | [], i, h => absurd h (Nat.not_lt_zero _)
  | x :: l, 0, _ => ⟨rfl, rfl⟩
  | x :: l, i + 1, h => by
    have h1 := moL_at l i (by simpa using h)
    have e : moL (x :: l) = .bool x.1 :: .int .i64 x.2 :: moL l := rfl
    rw [e, show (i + 1) * 2 = i * 2 + 1 + 1 by omega]
    simpa using h1
theorem moL_one (l : List Mo) : ∀ v ∈ moL l, v.oneCell' = true := by
  intro v hv
  obtain ⟨x, _, hx⟩ := List.mem_flatMap.1 hv
  simp at hx
  rcases hx with rfl | rfl <;> rfl
/-- A row of modes as it can be read. -/
def MoIn (w : World) (v : Value) (l : List Mo) : Prop := ∃ a c, v = .slice a l.length c ∧ l.length ≤ 9223372036854775807 ∧ (0 < l.length → ∃ g o, a = some ⟨g, o, none⟩ ∧ g < w.heap.size ∧ ∀ i, i < l.length →
  w.cell? ⟨g, o + i * 2, none⟩ = some (.bool (l.getD i (false, 0)).1) ∧ w.cell? ⟨g, o + i * 2 + 1, none⟩ = some (.int .i64 (l.getD i (false, 0)).2))
theorem MoIn.below {w w' : World} {v : Value} {l : List Mo} (h : MoIn w v l) (hb : Below w.heap.size w w') : MoIn w' v l := by
  obtain ⟨a, c, e, hm, hh⟩ := h
  refine ⟨a, c, e, hm, fun h0 => ?_⟩
  obtain ⟨g, o, ea, hg, hC⟩ := hh h0
  exact ⟨g, o, ea, Nat.lt_of_lt_of_le hg hb.size, fun i hi => ⟨(hb.cell hg).trans (hC i hi).1, (hb.cell hg).trans (hC i hi).2⟩⟩
theorem MoIn.shape {w : World} {v : Value} {l : List Mo} (h : MoIn w v l) : ∃ a c, v = .slice a l.length c := by
  obtain ⟨a, c, e, _⟩ := h
  exact ⟨a, c, e⟩
theorem MoIn.at {w : World} {a : Option Addr} {n c : Nat} {l : List Mo} (h : MoIn w (.slice a n c) l) {i : Nat} (hi : i < n) : ∃ g o, a = some ⟨g, o, none⟩ ∧ w.cell? ⟨g, o + i * 2, none⟩ = some (.bool (l.getD i (false, 0)).1) ∧ w.cell? ⟨g, o + i * 2 + 1, none⟩ = some (.int .i64 (l.getD i (false, 0)).2) := by
  obtain ⟨a', c', e, _, hh⟩ := h
  injection e with ea en _
  obtain ⟨g, o, e2, _, hC⟩ := hh (by omega)
  exact ⟨g, o, ea.trans e2, hC i (by omega)⟩
theorem moIn_own {w : World} {lo : Nat} {T : TypeId} {v : Value} {l : List Mo} (h : w.ownsRow lo T 2 v l.length (moL l)) (hl : l.length ≤ 9223372036854775807) : MoIn w v l := by
  rcases h.2 with ⟨rfl, h0⟩ | ⟨g, cap, cur, rfl, _⟩
  · exact ⟨none, 0, by rw [h0], hl, fun h1 => by omega⟩
  · refine ⟨_, cap, rfl, hl, fun h1 => ⟨g, 0, rfl, (h.lt g rfl).2, fun i hi => ?_⟩⟩
    have hp : ∀ j, (⟨g, 0, none⟩ : Addr).add j = ⟨g, 0 + j, none⟩ := fun j => by unfold Addr.add; split <;> simp_all
    have hc := h.cells (g := g) rfl
    have h2 := moL_at l i hi
    have c1 := hc _ _ h2.1
    have c2 := hc _ _ h2.2
    rw [hp] at c1 c2
    exact ⟨c1, by rw [Nat.add_assoc]; exact c2⟩
theorem infoMo : (Try.prog.info? 24).map (fun i => (i.zero, i.size, i.bytes)) = some (some (.agg #[.bool false, .int .i64 0]), 2, 16) := by kernel_rfl
theorem infoRMo : (Try.prog.info? 43).map (fun i => (i.zero, i.size, i.bytes)) = some (some (.agg #[.bool false, .int .i64 0]), 2, 16) := by kernel_rfl
theorem wpList_append_mo {w : World} {ops : Array Oper} {rest : List Oper} {o : Oper} {a : Act} {Q : Exit → Act → World → Prop} (hgd : o.guard = none) (s x : Operand)
    (hop : o.op = Op.call { callee := Callee.builtin Builtin.append, args := #[s, x], argTypes := #[33, 33] })
    (base : Nat) (v : Value) (n : Nat) (l : List Mo) (hs : a.eval s = v) (hnl : n = l.length) (hown : w.ownsRow base 24 2 v n (moL l))
    (q : Nat) (k : List Mo) (m c : Nat) (hx : a.eval x = .slice (some ⟨q, 0, none⟩) m c) (hm : m = k.length) (hc : ∀ j u, (moL k)[j]? = some u → w.cell? ((⟨q, 0, none⟩ : Addr).add j) = some u) (hnr : n + m ≤ 100000) (hb : base ≤ w.heap.size)
    (hK : ∀ v' w', w'.ownsRow base 24 2 v' (n + m) (moL (l ++ k)) → w.grownBy w' v.ownBlock → wpList Try.prog ops Q rest (a.put o.dst v') w') : wpList Try.prog ops Q (o :: rest) a w := by
  obtain ⟨ib, hi, hz0, hz1, hz2⟩ := info_parts infoMo
  exact wpList_append_own w hgd s x 33 hop base 24 ib (.agg #[.bool false, .int .i64 0]) 2 16 Try.underlying33 hi hz0 hz1 hz2 rfl (by decide) v n (moL l) hs hown ⟨q, 0, none⟩ m c (moL k) hx (by rw [moL_len, hm]) hc (moL_one k) (by unfold maxLen; omega) (by omega) hb (fun v' w' h1 h2 _ => hK v' w' (by rw [moL_append]; exact h1) h2)
theorem wpList_append_rmo {w : World} {ops : Array Oper} {rest : List Oper} {o : Oper} {a : Act} {Q : Exit → Act → World → Prop} (hgd : o.guard = none) (s x : Operand)
    (hop : o.op = Op.call { callee := Callee.builtin Builtin.append, args := #[s, x], argTypes := #[29, 29] })
    (base : Nat) (v : Value) (n : Nat) (l : List Mo) (hs : a.eval s = v) (hnl : n = l.length) (hown : w.ownsRow base 43 2 v n (moL l))
    (q : Nat) (k : List Mo) (m c : Nat) (hx : a.eval x = .slice (some ⟨q, 0, none⟩) m c) (hm : m = k.length) (hc : ∀ j u, (moL k)[j]? = some u → w.cell? ((⟨q, 0, none⟩ : Addr).add j) = some u) (hnr : n + m ≤ 100000) (hb : base ≤ w.heap.size)
    (hK : ∀ v' w', w'.ownsRow base 43 2 v' (n + m) (moL (l ++ k)) → w.grownBy w' v.ownBlock → wpList Try.prog ops Q rest (a.put o.dst v') w') : wpList Try.prog ops Q (o :: rest) a w := by
  obtain ⟨ib, hi, hz0, hz1, hz2⟩ := info_parts infoRMo
  exact wpList_append_own w hgd s x 29 hop base 43 ib (.agg #[.bool false, .int .i64 0]) 2 16 Try.underlying29 hi hz0 hz1 hz2 rfl (by decide) v n (moL l) hs hown ⟨q, 0, none⟩ m c (moL k) hx (by rw [moL_len, hm]) hc (moL_one k) (by unfold maxLen; omega) (by omega) hb (fun v' w' h1 h2 _ => hK v' w' (by rw [moL_append]; exact h1) h2)
/-- One mode, alone in a block. -/
theorem one_at {w : World} {q : Nat} {x : Mo} {T : TypeId} (h : w.heap[q]? = some (.cells #[.bool x.1, .int .i64 x.2] T (0, 0))) : ∀ j u, (moL [x])[j]? = some u → w.cell? ((⟨q, 0, none⟩ : Addr).add j) = some u := by
  intro j u hj
  have hp : (⟨q, 0, none⟩ : Addr).add j = ⟨q, 0 + j, none⟩ := by unfold Addr.add; split <;> simp_all
  rw [hp, Nat.zero_add, cell_of_row w q j _ _ _ h]
  simpa [moL] using hj
/-! ### near -/
def nearL : List Int := [1, 4, 5, 6, 7, 20, 25, 47, 1004, 1047, 1048, 1049, 2004]
def nearN (n : Int) : Int := if 0 ≤ n ∧ n < 26 then nearL.getD (n % 13).toNat 0 else n
def nearM (x : Mo) : Mo := (x.1, nearN x.2)
theorem nearL_all : ∀ z ∈ nearL, -9223372036854775808 ≤ z ∧ z ≤ 9223372036854775807 := by decide
theorem nearN_wf {x : Mo} (h : wfM x) : wfM (nearM x) := by
  unfold nearM nearN wfM
  unfold wfM at h
  simp only []
  split
  · rename_i h1
    have hl : (x.2 % 13).toNat < nearL.length := by
      have : nearL.length = 13 := rfl
      omega
    rw [List.getD_eq_getElem?_getD, List.getElem?_eq_getElem hl]
    exact nearL_all _ (List.getElem_mem hl)
  · exact h
def nearA : Array Value := #[.int .i64 1, .int .i64 4, .int .i64 5, .int .i64 6, .int .i64 7, .int .i64 20, .int .i64 25, .int .i64 47, .int .i64 1004, .int .i64 1047, .int .i64 1048, .int .i64 1049, .int .i64 2004]
theorem nearA_at : ∀ j, j < 13 → nearA[j]? = some (.int .i64 (nearL.getD j 0)) := by
  intro j hj
  match j, hj with
  | 0, _ => rfl
  | 1, _ => rfl
  | 2, _ => rfl
  | 3, _ => rfl
  | 4, _ => rfl
  | 5, _ => rfl
  | 6, _ => rfl
  | 7, _ => rfl
  | 8, _ => rfl
  | 9, _ => rfl
  | 10, _ => rfl
  | 11, _ => rfl
  | 12, _ => rfl
set_option maxHeartbeats 2000000 in
set_option maxRecDepth 100000 in
theorem near_any (p : Bool) (n : Int) (w : World) : Calls Try.prog 16 #[.agg #[.bool p, .int .i64 n]] w fun e w' => e = .returned (.agg #[.bool p, .int .i64 (nearN n)]) ∧ Below w.heap.size w w' := by
  obtain ⟨b, hb⟩ : ∃ b, b = w.heap.size := ⟨_, rfl⟩
  obtain ⟨z, hz⟩ : ∃ z, z = nearN n := ⟨_, rfl⟩
  obtain ⟨w3, hw3⟩ : ∃ x, x = ((w.alloc (.cells #[.bool p, .int .i64 n] 24)).alloc (.cells #[.bool false, .int .i64 0] 24)).alloc (.cells #[.int .i64 1, .int .i64 4, .int .i64 5, .int .i64 6, .int .i64 7, .int .i64 20, .int .i64 25, .int .i64 47, .int .i64 1004, .int .i64 1047, .int .i64 1048, .int .i64 1049, .int .i64 2004] 3) := ⟨_, rfl⟩
  have HB := Lib.hid (show Below w.heap.size w w3 by rw [hw3]; exact (((Below.refl _ _).alloc (Nat.le_refl _) _).alloc (by simp) _).alloc (by simp; omega) _)
  have e1 : (w.alloc (.cells #[.bool p, .int .i64 n] 24)).heap.size = b + 1 := by rw [hb]; simp
  have e2 : ((w.alloc (.cells #[.bool p, .int .i64 n] 24)).alloc (.cells #[.bool false, .int .i64 0] 24)).heap.size = b + 2 := by rw [hb]; simp
  have h0 : w3.heap[b]? = some (.cells #[.bool p, .int .i64 n] 24 (0, 0)) := by
    rw [hw3, Below.heap_alloc _ _ _ (by rw [e2]; omega), Below.heap_alloc _ _ _ (by rw [e1]; omega), hb]
    exact World.alloc_heap_new _ _
  have h1 : w3.heap[b + 1]? = some (.cells #[.bool false, .int .i64 0] 24 (0, 0)) := by
    rw [hw3, Below.heap_alloc _ _ _ (by rw [e2]; omega), ← e1]
    exact World.alloc_heap_new _ _
  have h2 : w3.heap[b + 2]? = some (.cells nearA 3 (0, 0)) := by
    rw [hw3, ← e2]
    exact World.alloc_heap_new _ _
  have HH := Lib.hid (And.intro h0 (And.intro h1 h2))
  have HBB := Lib.hid hb
  clear e1 e2 h0 h1 h2
  go_enter Try.func16, Try.ntmps16
  by_cases g0 : 0 ≤ n
  · by_cases g1 : n < 26
    · obtain ⟨j, hj⟩ : ∃ j : Nat, j = (n % 13).toNat := ⟨_, rfl⟩
      have hj13 : j < 13 := by omega
      have hzz : z = nearL.getD j 0 := by rw [hz, hj]; unfold nearN; rw [if_pos ⟨g0, g1⟩]
      have r1 : n.tmod 13 = (j : Nat) := by rw [Int.tmod_eq_emod_of_nonneg g0]; omega
      have r2 : n % 13 = (j : Nat) := by omega
      have HZ := Lib.hid hz
      rw [← hz]
      clear hj hz
      go_upto_region 2 with (fail)
      rw [← hw3, ← hb]
      clear hw3 hb
      have c0 := (two_cells HH.out.1).1
      have c1 := (two_cells HH.out.1).2.1
      have f0 := (two_cells HH.out.1).2.2.1
      have f1 := (two_cells HH.out.1).2.2.2
      have d0 := (two_cells HH.out.2.1).1
      have d1 := (two_cells HH.out.2.1).2.1
      have k0 := (two_cells HH.out.2.1).2.2.1
      have k1 := (two_cells HH.out.2.1).2.2.2
      have cj : w3.cell? ⟨b + 1 + 1, j, none⟩ = some (.int .i64 z) := by rw [hzz, cell_of_row w3 (b + 2) j _ _ _ HH.out.2.2]; exact nearA_at j hj13
      clear hzz
      go_wp2
      refine bodyPost_ret (v := .agg #[.bool p, .int .i64 z]) (by simp [results, Try.results16, go_sem, d0, d1]) rfl ⟨rfl, ?_⟩
      have s0 := (But.set w3 b 1 (.int .i64 z)).below (C := w.heap.size) (by have := HBB.out; omega) HB.out.size
      have s1 := (((But.set (w3.setCell ⟨b, 1, none⟩ (.int .i64 z)) (b + 1) 0 (.bool p)).trans (But.set _ (b + 1) 1 (.int .i64 z)))).below (C := w.heap.size) (by have := HBB.out; omega) (by simpa using HB.out.size)
      exact HB.out.trans (s0.trans s1)
    · have hz' : z = n := by rw [hz]; unfold nearN; rw [if_neg (by omega)]
      subst hz'
      have HZN := Lib.hid hz
      clear hz
      go_upto_region 2 with (fail)
      rw [← hw3, ← hb]
      clear hw3 hb
      have c0 := (two_cells HH.out.1).1
      have c1 := (two_cells HH.out.1).2.1
      have d0 := (two_cells HH.out.2.1).1
      have d1 := (two_cells HH.out.2.1).2.1
      have k0 := (two_cells HH.out.2.1).2.2.1
      have k1 := (two_cells HH.out.2.1).2.2.2
      go_wp2
      refine bodyPost_ret (v := .agg #[.bool p, .int .i64 z]) (by simp [results, Try.results16, go_sem, d0, d1]) rfl ⟨by rw [← HZN.out], ?_⟩
      have s1 := (((But.set w3 (b + 1) 0 (.bool p)).trans (But.set _ (b + 1) 1 (.int .i64 z)))).below (C := w.heap.size) (by have := HBB.out; omega) HB.out.size
      exact HB.out.trans s1
  · have hz' : z = n := by rw [hz]; unfold nearN; rw [if_neg (by omega)]
    subst hz'
    have HZN := Lib.hid hz
    clear hz
    go_upto_region 2 with (fail)
    rw [← hw3, ← hb]
    clear hw3 hb
    have c0 := (two_cells HH.out.1).1
    have c1 := (two_cells HH.out.1).2.1
    have d0 := (two_cells HH.out.2.1).1
    have d1 := (two_cells HH.out.2.1).2.1
    have k0 := (two_cells HH.out.2.1).2.2.1
    have k1 := (two_cells HH.out.2.1).2.2.2
    go_wp2
    refine bodyPost_ret (v := .agg #[.bool p, .int .i64 z]) (by simp [results, Try.results16, go_sem, d0, d1]) rfl ⟨by rw [← HZN.out], ?_⟩
    have s1 := (((But.set w3 (b + 1) 0 (.bool p)).trans (But.set _ (b + 1) 1 (.int .i64 z)))).below (C := w.heap.size) (by have := HBB.out; omega) HB.out.size
    exact HB.out.trans s1
set_option maxHeartbeats 2000000 in
set_option maxRecDepth 100000 in
theorem row_any (v : Value) (l R : List Mo) (hR : R = ((l.take 20).map nearM)) (w : World) (h : MoIn w v l) (hl : l.length ≤ 9223372036854775807) : Calls Try.prog 10 #[v] w fun e w' => ∃ v', e = .returned v' ∧ w'.ownsRow w.heap.size 24 2 v' R.length (moL R) ∧ Below w.heap.size w w' := by
  obtain ⟨la, lc, rfl⟩ := h.shape
  obtain ⟨n, hn⟩ : ∃ n, n = l.length := ⟨_, rfl⟩
  obtain ⟨F, hF⟩ : ∃ F : Nat → List Mo, F = fun k => (l.take k).map nearM := ⟨_, rfl⟩
  obtain ⟨m, hm⟩ : ∃ m, m = R.length := ⟨_, rfl⟩
  have HF0 := Lib.hid (show F 0 = [] by rw [hF]; simp)
  have HFs := Lib.hid (show ∀ k x, k < n → x = l.getD k (false, 0) → F (k + 1) = F k ++ [nearM x] from fun k x hk hx => by
    rw [hF]
    show (l.take (k + 1)).map nearM = (l.take k).map nearM ++ [nearM x]
    rw [hx, List.take_succ_eq_append_getElem (by omega), List.getD_eq_getElem?_getD, List.getElem?_eq_getElem (by omega), List.map_append]
    rfl)
  have HFl := Lib.hid (show ∀ k, k ≤ n → (F k).length = k from fun k hk => by
    rw [hF]
    simp
    omega)
  have HFe := Lib.hid (show ∀ k, k ≤ n → (k = 20 ∨ (k = n ∧ k ≤ 20)) → F k = R ∧ m = k from fun k hk h0 => by
    have e : F k = R := by
      rw [hF, hR]
      show (l.take k).map nearM = (l.take 20).map nearM
      rcases h0 with rfl | ⟨rfl, h0⟩
      · rfl
      · rw [hn, List.take_length, List.take_of_length_le (by omega)]
    refine ⟨e, ?_⟩
    rw [hm, ← e]
    exact HFl.out k hk)
  rw [← hm]
  rw [← hn] at h hl ⊢
  have HM := Lib.hid h
  have HL := Lib.hid hl
  have HMX := Lib.hid (show n ≤ 9223372036854775807 by omega)
  clear hn h hl hF hR hm
  go_enter Try.func10, Try.ntmps10
  go_wp2_with fail
  go_loopw [3, 4] (fun v u wr => ∃ k : Nat, u = .int .i64 (k : Nat) ∧ Hid (k ≤ n ∧ k ≤ 20) ∧ Hid (wr.ownsRow w.heap.size 24 2 v k (moL (F k)) ∧ Below w.heap.size w wr)) (fun v u wr => 60 - (intOf u).toNat)
  case atStart => exact ⟨0, rfl, Lib.hid ⟨Nat.zero_le _, Nat.zero_le _⟩, Lib.hid ⟨by rw [HF0.out]; exact ⟨rfl, .inl ⟨rfl, rfl⟩⟩, Below.refl _ _⟩⟩
  case round =>
    obtain ⟨k, rfl, HK, HP⟩ := hrel
    obtain ⟨va, vc, rfl⟩ := own_shape HP.out.1
    have u1 : IntKind.i64.wrap ((k : Int) + 1) = ((k + 1 : Nat) : Int) := by rw [IntKind.wrap_i64]; have := HK.out; have := HL.out; omega
    by_cases h1 : k < n
    · by_cases h2 : k < 20
      · have g2 : (k : Int) < 20 := by omega
        have HH2 := Lib.hid h2
        obtain ⟨g, o, hla, c0, c1⟩ := (HM.out.below HP.out.2).at (i := k) h1
        subst hla
        obtain ⟨x, hx⟩ : ∃ x, x = l.getD k (false, 0) := ⟨_, rfl⟩
        have HX := Lib.hid (HFs.out k x h1 hx)
        rw [← hx] at c0 c1
        clear hx
        obtain ⟨p, q⟩ := x
        simp only [] at c0 c1
        have HH1 := Lib.hid h1
        go_wp2_with fail
        refine (near_any p q _).mono ?_
        rintro e w2 ⟨rfl, bb⟩
        have HB2 := Lib.hid bb
        clear bb c0 c1
        go_wp2_with (at_builtin; refine wpList_append_mo rfl (.tmp 15) (.tmp 21) rfl w.heap.size _ k (F k) rfl (HFl.out k (Nat.le_of_lt HH1.out)).symm ((keep_own_below HP.out.1 HB2.out).alloc _) w2.heap.size [(p, nearN q)] 1 1 rfl rfl (one_at (x := (p, nearN q)) (World.alloc_heap_new _ _)) (by have := HH1.out; have := HH2.out; omega) (by have := (HP.out.2.trans (HB2.out.mono HP.out.2.size)).size; simp; omega) ?_)
        intro v4 w4 ho hg
        obtain ⟨va4, vc4, rfl⟩ := own_shape ho
        have HO := Lib.hid ho
        have HG := Lib.hid hg
        clear ho hg
        go_wp2
        go_roundw
        case rel =>
          refine ⟨k + 1, by go_num, Lib.hid ⟨HH1.out, by have := HH2.out; omega⟩, Lib.hid ⟨?_, ?_⟩⟩
          · rw [HX.out]
            exact HO.out
          · have hb := HP.out.2.trans (HB2.out.mono HP.out.2.size)
            exact (hb.alloc hb.size _).grown HG.out (by have := hb.size; simp; omega) (fun j hj => (World.ownsRow.lt (keep_own_below HP.out.1 HB2.out) j hj).1)
        case measure => simp only [intOf]; have := HK.out; have := HL.out; omega
      · have g2 : ¬ (k : Int) < 20 := by omega
        go_wp2
        go_ret
        obtain ⟨e1, rfl⟩ := HFe.out k HK.out.1 (.inl (by have := HK.out; omega))
        refine ⟨_, rfl, ?_, HP.out.2⟩
        rw [← e1]
        exact HP.out.1
    · have h1' : ¬ (k : Int) < (n : Int) := by omega
      go_wp2
      go_ret
      obtain ⟨e1, rfl⟩ := HFe.out k HK.out.1 (.inr (by have := HK.out; omega))
      refine ⟨_, rfl, ?_, HP.out.2⟩
      rw [← e1]
      exact HP.out.1
set_option maxHeartbeats 2000000 in
set_option maxRecDepth 100000 in
theorem modes_any (v : Value) (l R : List Mo) (hR : R = l) (w : World) (h : MoIn w v l) (hl : l.length ≤ 10000) : Calls Try.prog 15 #[v] w fun e w' => ∃ v', e = .returned v' ∧ w'.ownsRow w.heap.size 43 2 v' R.length (moL R) ∧ Below w.heap.size w w' := by
  obtain ⟨la, lc, rfl⟩ := h.shape
  obtain ⟨n, hn⟩ : ∃ n, n = l.length := ⟨_, rfl⟩
  obtain ⟨F, hF⟩ : ∃ F : Nat → List Mo, F = fun k => l.take k := ⟨_, rfl⟩
  obtain ⟨m, hm⟩ : ∃ m, m = R.length := ⟨_, rfl⟩
  have HF0 := Lib.hid (show F 0 = [] by rw [hF]; simp)
  have HFs := Lib.hid (show ∀ k x, k < n → x = l.getD k (false, 0) → F (k + 1) = F k ++ [x] from fun k x hk hx => by
    rw [hF]
    show l.take (k + 1) = l.take k ++ [x]
    rw [hx, List.take_succ_eq_append_getElem (by omega), List.getD_eq_getElem?_getD, List.getElem?_eq_getElem (by omega)]
    rfl)
  have HFl := Lib.hid (show ∀ k, k ≤ n → (F k).length = k from fun k hk => by
    rw [hF]
    simp
    omega)
  have HFe := Lib.hid (show ∀ k, k ≤ n → k = n → F k = R ∧ m = k from fun k hk h0 => by
    have e : F k = R := by
      rw [hF, hR]
      show l.take k = l
      rw [h0, hn, List.take_length]
    refine ⟨e, ?_⟩
    rw [hm, ← e]
    exact HFl.out k hk)
  rw [← hm]
  rw [← hn] at h hl ⊢
  have HM := Lib.hid h
  have HL := Lib.hid hl
  have HMX := Lib.hid (show n ≤ 9223372036854775807 by omega)
  clear hn h hl hF hR hm
  go_enter Try.func15, Try.ntmps15
  go_wp2_with fail
  go_loopw [3, 4] (fun v u wr => ∃ k : Nat, u = .int .i64 (k : Nat) ∧ Hid (k ≤ n) ∧ Hid (wr.ownsRow w.heap.size 43 2 v k (moL (F k)) ∧ Below w.heap.size w wr)) (fun v u wr => 20000 - (intOf u).toNat)
  case atStart => exact ⟨0, rfl, Lib.hid (Nat.zero_le _), Lib.hid ⟨by rw [HF0.out]; exact ⟨rfl, .inl ⟨rfl, rfl⟩⟩, Below.refl _ _⟩⟩
  case round =>
    obtain ⟨k, rfl, HK, HP⟩ := hrel
    obtain ⟨va, vc, rfl⟩ := own_shape HP.out.1
    have u1 : IntKind.i64.wrap ((k : Int) + 1) = ((k + 1 : Nat) : Int) := by rw [IntKind.wrap_i64]; have := HK.out; have := HL.out; omega
    by_cases h1 : k < n
    · skip
      obtain ⟨g, o, hla, c0, c1⟩ := (HM.out.below HP.out.2).at (i := k) h1
      subst hla
      obtain ⟨x, hx⟩ : ∃ x, x = l.getD k (false, 0) := ⟨_, rfl⟩
      have HX := Lib.hid (HFs.out k x h1 hx)
      rw [← hx] at c0 c1
      clear hx
      obtain ⟨p, q⟩ := x
      simp only [] at c0 c1
      have HH1 := Lib.hid h1
      go_wp2_with (at_builtin; refine wpList_append_rmo rfl (.tmp 11) (.tmp 16) rfl w.heap.size _ k (F k) rfl (HFl.out k (Nat.le_of_lt HH1.out)).symm (HP.out.1.alloc _) wr.heap.size [(p, q)] 1 1 rfl rfl (one_at (x := (p, q)) (World.alloc_heap_new _ _)) (by have := HH1.out; have := HL.out; omega) (by have := (HP.out.2).size; simp; omega) ?_)
      intro v4 w4 ho hg
      obtain ⟨va4, vc4, rfl⟩ := own_shape ho
      have HO := Lib.hid ho
      have HG := Lib.hid hg
      clear ho hg
      go_wp2
      go_roundw
      case rel =>
        refine ⟨k + 1, by go_num, Lib.hid HH1.out, Lib.hid ⟨?_, ?_⟩⟩
        · rw [HX.out]
          exact HO.out
        · have hb := HP.out.2
          exact (hb.alloc hb.size _).grown HG.out (by have := hb.size; simp; omega) (fun j hj => (World.ownsRow.lt HP.out.1 j hj).1)
      case measure => simp only [intOf]; have := HK.out; have := HL.out; omega
    · have h1' : ¬ (k : Int) < (n : Int) := by omega
      go_wp2
      go_ret
      obtain ⟨e1, rfl⟩ := HFe.out k HK.out (by have := HK.out; omega)
      refine ⟨_, rfl, ?_, HP.out.2⟩
      rw [← e1]
      exact HP.out.1
end Go.Proofs.Ytjdfinimbdcmbaa.Lab
