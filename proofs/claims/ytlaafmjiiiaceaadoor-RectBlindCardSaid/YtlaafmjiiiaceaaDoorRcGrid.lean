/- Grids that are drawn: the reference's lines, Grid, Other. The reference's lines. The reference's Grid of a draft. -/
import Derived.Test.YtlaafmjiiiaceaaDoorRcClip
import Derived.Test.YtlaafmjiiiaceaaDoorRoRow
import Derived.Test.YtlaafmjiiiaceaaDoorRcMath
set_option linter.unusedVariables false
namespace Go.Proofs.YtlaafmjiiiaceaaDoor.Lab
open Go Go.RowKit

/-- A block of cells, its first values. -/
def Lie (w : World) (b : Nat) (l : List Value) : Prop := b < w.heap.size ∧ ∀ k v, l[k]? = some v → w.cell? ⟨b, k, none⟩ = some v
theorem Lie.below {w w' : World} {b : Nat} {l : List Value} (h : Lie w b l) (k : Below w.heap.size w w') : Lie w' b l := ⟨Nat.lt_of_lt_of_le h.1 k.size, fun j v hj => (k.cell (p := ⟨b, j, none⟩) h.1).trans (h.2 j v hj)⟩
theorem Lie.of {w : World} {b : Nat} {cs : Array Value} {T : TypeId} (h : w.heap[b]? = some (.cells cs T (0, 0))) : Lie w b cs.toList := ⟨(Array.getElem?_eq_some_iff.1 h).1, fun k v hk => by rw [cell_of_row w b k cs T (0, 0) h]; simpa using hk⟩
theorem Lie.new (w : World) (cs : Array Value) (T : TypeId) (b : Nat) (hb : b = w.heap.size) : Lie (w.alloc (.cells cs T)) b cs.toList := Lie.of (T := T) (by rw [hb]; exact heap_alloc_new w _)
theorem Lie.at {w : World} {b : Nat} {l : List Value} (h : Lie w b l) (k : Nat) {v : Value} (hk : l[k]? = some v) : w.cell? ⟨b, k, none⟩ = some v := h.2 k v hk
/-- Drafts of lines. -/
def DssIn (w : World) (us : List Value) (LL : List (List Dc)) : Prop := us.length = LL.length ∧ ∀ i, (hi : i < LL.length) → DsIn w (us.getD i undef) LL[i]
theorem DssIn.below {w w' : World} {us : List Value} {LL : List (List Dc)} (h : DssIn w us LL) (k : Below w.heap.size w w') : DssIn w' us LL := ⟨h.1, fun i hi => (h.2 i hi).below k⟩
/-- Lines as they come in: of each its columns, and the value of its drafts. -/
def LnsAt (w : World) (v : Value) (us : List Value) : Prop :=
  ∃ a c, v = .slice a us.length c ∧ us.length ≤ maxLen ∧ (0 < us.length → ∃ g o, a = some ⟨g, o, none⟩ ∧ g < w.heap.size ∧ ∀ i, i < us.length → ∃ x, w.cell? ⟨g, o + i * 2, none⟩ = some (.int .u8 x) ∧ w.cell? ⟨g, o + i * 2 + 1, none⟩ = some (us.getD i undef))
theorem LnsAt.below {w w' : World} {v : Value} {us : List Value} (h : LnsAt w v us) (k : Below w.heap.size w w') : LnsAt w' v us := by
  obtain ⟨a, c, e, hm, h⟩ := h
  refine ⟨a, c, e, hm, fun h0 => ?_⟩
  obtain ⟨g, o, ea, hg, hC⟩ := h h0
  refine ⟨g, o, ea, Nat.lt_of_lt_of_le hg k.size, fun i hi => ?_⟩
  obtain ⟨x, hx, hu⟩ := hC i hi
  exact ⟨x, (k.cell (p := ⟨g, o + i * 2, none⟩) hg).trans hx, (k.cell (p := ⟨g, o + i * 2 + 1, none⟩) hg).trans hu⟩
def LnsIn (w : World) (v : Value) (LL : List (List Dc)) : Prop := ∃ us, LnsAt w v us ∧ DssIn w us LL
theorem LnsIn.below {w w' : World} {v : Value} {LL : List (List Dc)} (h : LnsIn w v LL) (k : Below w.heap.size w w') : LnsIn w' v LL := by
  obtain ⟨us, h1, h2⟩ := h
  exact ⟨us, h1.below k, h2.below k⟩
theorem LnsIn.shape {w : World} {v : Value} {LL : List (List Dc)} (h : LnsIn w v LL) : ∃ a c, v = .slice a LL.length c := by
  obtain ⟨us, ⟨a, c, e, _⟩, h2⟩ := h
  exact ⟨a, c, by rw [e, h2.1]⟩
/-! ### own rows of lines, of rows of cells -/
theorem CRow.typed {w : World} {lo g : Nat} {v : Value} {R : Cls} (h : CRow w lo v R) (hb : v.ownBlock = some g) : ∃ cur, w.heap[g]? = some (.cells cur 62 (0, 0)) := by
  rcases h.2 with ⟨rfl, _⟩ | ⟨g', cap, cur, rfl, _, hg, _⟩
  · simp [Value.ownBlock] at hb
  · obtain rfl : g' = g := by simpa [Value.ownBlock] using hb
    exact ⟨cur, hg⟩
theorem CRow.apart {w w' : World} {lo : Nat} {row : Option Nat} {v : Value} {R : Cls} (h : CRow w lo v R) (k : w.grownBy w' row) (hg : ∀ g, row = some g → ∃ cur T fr, w.heap[g]? = some (.cells cur T fr) ∧ T ≠ 62) : CRow w' lo v R := by
  refine World.ownsRow.kept h k ?_
  cases hb : v.ownBlock with
  | none => exact .inl rfl
  | some b =>
    refine .inr fun e => ?_
    obtain ⟨cur, T, fr, hc, hT⟩ := hg b e.symm
    obtain ⟨cu, hu⟩ := h.typed hb
    rw [hc] at hu
    injection hu with hu
    injection hu with _ hu
    exact hT hu
def VRow (w : World) (base : Nat) (v : Value) (G : List Cls) : Prop :=
  ∃ us : List Value, w.ownsRow base 49 1 v G.length us ∧ ∀ i, i < G.length → CRow w 0 (us.getD i undef) (rowG G i)
theorem VRow.below {w w' : World} {base : Nat} {v : Value} {G : List Cls} (h : VRow w base v G) (k : Below w.heap.size w w') : VRow w' base v G := by
  obtain ⟨us, h1, h2⟩ := h
  exact ⟨us, own_below h1 k, fun i hi => (h2 i hi).below k⟩
theorem VRow.nil (w : World) (base : Nat) : VRow w base (.slice none 0 0) [] := ⟨[], World.ownsRow_nil w base _ 1, fun i hi => by simp at hi⟩
theorem VRow.lt {w : World} {base : Nat} {v : Value} {G : List Cls} (h : VRow w base v G) : ∀ j, v.ownBlock = some j → base ≤ j := fun j hj => by
  obtain ⟨us, h1, _⟩ := h
  exact (h1.lt j hj).1
theorem VRow.see {w : World} {base : Nat} {v : Value} {G : List Cls} (h : VRow w base v G) : ∃ U, GSee w v G U := by
  obtain ⟨us, h1, h2⟩ := h
  have hu : us.length = G.length := by simpa using h1.1
  refine ⟨fun i => us.getD i undef, ?_⟩
  rcases h1.2 with ⟨rfl, h0⟩ | ⟨g, cap, cur, rfl, _, hg, hnc, _⟩
  · exact ⟨none, 0, by rw [h0], by omega, fun h => by omega, fun i hi => (h2 i hi).row⟩
  · refine ⟨_, cap, rfl, hnc, fun _ => ⟨g, 0, rfl, (Array.getElem?_eq_some_iff.1 hg).1, fun i hi => ?_⟩, fun i hi => (h2 i hi).row⟩
    have := h1.cells (g := g) rfl i (us.getD i undef) (by rw [List.getD_eq_getElem?_getD, List.getElem?_eq_getElem (by omega)]; rfl)
    rwa [Addr.add_mid] at this
theorem CRow.one {w : World} {lo : Nat} {v : Value} {R : Cls} (h : CRow w lo v R) : v.oneCell' = true := by
  rcases h.2 with ⟨rfl, _⟩ | ⟨g', cap, cur, rfl, _, hg, _⟩ <;> rfl
theorem infoRow12 : (Tryd.prog.info? 49).map (fun i => (i.zero, i.size, i.bytes)) = some (some (.slice none 0 0), 1, 24) := by kernel_rfl
theorem infoLine12 : (Tryd.prog.info? 73).map (fun i => (i.zero, i.size, i.bytes)) = some (some (.agg #[.int .u8 0, .slice none 0 0]), 2, 32) := by kernel_rfl
theorem wpList_append_row1 {ops : Array Oper} {rest : List Oper} {o : Oper} {a : Act} {w : World} {Q : Exit → Act → World → Prop} (hgd : o.guard = none) (s x : Operand)
    (hop : o.op = Op.call { callee := Callee.builtin Builtin.append, args := #[s, x], argTypes := #[27, 27] })
    (base : Nat) (v : Value) (G : List Cls) (hs : a.eval s = v) (hown : VRow w base v G) (q : Nat) (u : Value) (R : Cls) (hx : a.eval x = .slice (some ⟨q, 0, none⟩) 1 1) (hq : w.cell? ⟨q, 0, none⟩ = some u) (hu : CRow w 0 u R)
    (hn : G.length ≤ 1000) (hb : base ≤ w.heap.size)
    (hK : ∀ v' w', VRow w' base v' (G ++ [R]) → w.grownBy w' v.ownBlock → wpList Tryd.prog ops Q rest (a.put o.dst v') w') :
    wpList Tryd.prog ops Q (o :: rest) a w := by
  obtain ⟨ib, hi, hz0, hz1, hz2⟩ := info_parts infoRow12
  obtain ⟨us, h1, h2⟩ := hown
  have hl : us.length = G.length := by simpa using h1.1
  have hgt : ∀ g, v.ownBlock = some g → ∃ cur T fr, w.heap[g]? = some (.cells cur T fr) ∧ T ≠ 62 := fun g hg => by
    rcases h1.2 with ⟨rfl, _⟩ | ⟨g', cap, cur, rfl, _, hgg, _⟩
    · simp [Value.ownBlock] at hg
    · obtain rfl : g' = g := by simpa [Value.ownBlock] using hg
      exact ⟨cur, _, _, hgg, by decide⟩
  refine wpList_append_own _ hgd s x 27 hop base 49 ib (.slice none 0 0) 1 24 Tryd.underlying27 hi hz0 hz1 hz2 rfl (by decide) v G.length us hs h1 ⟨q, 0, none⟩ 1 1 [u] hx rfl (fun j y hj => ?_) (fun y hy => by rw [List.mem_singleton.1 hy]; exact hu.one) (by unfold maxLen; omega) (by omega) hb (fun v' w' k1 k2 k3 => hK v' w' ⟨us ++ [u], ?_, fun i hi' => ?_⟩ k2)
  · have : j < 1 := (List.getElem?_eq_some_iff.1 hj).1
    obtain rfl : j = 0 := by omega
    obtain rfl : u = y := by simpa using hj
    exact hq
  · rw [List.length_append]
    exact k1
  · rw [List.length_append, List.length_singleton] at hi'
    by_cases e : i < G.length
    · rw [List.getD_eq_getElem?_getD, List.getElem?_append_left (by omega), ← List.getD_eq_getElem?_getD, show rowG (G ++ [R]) i = rowG G i by unfold rowG; rw [List.getD_eq_getElem?_getD, List.getElem?_append_left e, ← List.getD_eq_getElem?_getD]]
      exact (h2 i e).apart k2 hgt
    · obtain rfl : i = G.length := by omega
      rw [List.getD_eq_getElem?_getD, List.getElem?_append_right (by omega), show rowG (G ++ [R]) G.length = R by unfold rowG; rw [List.getD_eq_getElem?_getD, List.getElem?_append_right (by omega)]; simp]
      rw [hl, Nat.sub_self]
      exact hu.apart k2 hgt
/-- A row of lines of the call's own, all of c columns. -/
def lnV (c : Nat) (us : List Value) : List Value := us.flatMap fun u => [.int .u8 (c : Nat), u]
theorem lnV_len (c : Nat) : ∀ us : List Value, (lnV c us).length = us.length * 2
  | [] => rfl
  | u :: us => by
    show ([.int .u8 (c : Nat), u] ++ lnV c us).length = _
    rw [List.length_append, lnV_len c us, List.length_cons]
    simp
    omega
theorem lnV_get (c : Nat) : ∀ (us : List Value) (i : Nat), i < us.length → (lnV c us)[i * 2]? = some (.int .u8 (c : Nat)) ∧ (lnV c us)[i * 2 + 1]? = some (us.getD i undef)
  | u :: us, 0, _ => ⟨rfl, rfl⟩
  | u :: us, i + 1, h => by
    have := lnV_get c us i (by simpa using h)
    rw [show (i + 1) * 2 = i * 2 + 2 by omega]
    exact this
def LOwn (w : World) (base : Nat) (v : Value) (c : Nat) (us : List Value) : Prop := w.ownsRow base 73 2 v us.length (lnV c us)
theorem LOwn.nil (w : World) (base c : Nat) : LOwn w base (.slice none 0 0) c [] := World.ownsRow_nil w base _ 2
theorem LOwn.below {w w' : World} {base c : Nat} {v : Value} {us : List Value} (h : LOwn w base v c us) (k : Below w.heap.size w w') : LOwn w' base v c us := own_below h k
theorem LOwn.shape {w : World} {base c : Nat} {v : Value} {us : List Value} (h : LOwn w base v c us) : ∃ a cp, v = .slice a us.length cp := by
  rcases h.2 with ⟨rfl, h0⟩ | ⟨g, cap, cur, rfl, _⟩
  · exact ⟨none, 0, by rw [h0]⟩
  · exact ⟨_, cap, rfl⟩
theorem LOwn.open {w : World} {base c : Nat} {v : Value} {us : List Value} (h : LOwn w base v c us) (h0 : 0 < us.length) : ∃ g cp, v = .slice (some ⟨g, 0, none⟩) us.length cp ∧ us.length ≤ cp ∧ g < w.heap.size ∧ ∀ i, i < us.length → w.cell? ⟨g, i * 2, none⟩ = some (.int .u8 (c : Nat)) ∧ w.cell? ⟨g, i * 2 + 1, none⟩ = some (us.getD i undef) := by
  have h1 : w.ownsRow base 73 2 v us.length (lnV c us) := h
  rcases h1.2 with ⟨rfl, h0⟩ | ⟨g, cap, cur, rfl, _, hg, hnc, _⟩
  · omega
  · refine ⟨g, cap, rfl, hnc, (Array.getElem?_eq_some_iff.1 hg).1, fun i hi => ?_⟩
    obtain ⟨e1, e2⟩ := lnV_get c us i (by omega)
    have q1 := h1.cells (g := g) rfl _ _ e1
    have q2 := h1.cells (g := g) rfl _ _ e2
    rw [Addr.add_mid, Nat.zero_add] at q1 q2
    exact ⟨q1, q2⟩
theorem DsIn.one {w : World} {v : Value} {L : List Dc} (h : DsIn w v L) : v.oneCell' = true := by
  obtain ⟨a, c, rfl⟩ := h.shape
  rfl
theorem wpList_append_line {ops : Array Oper} {rest : List Oper} {o : Oper} {a : Act} {w : World} {Q : Exit → Act → World → Prop} (hgd : o.guard = none) (s x : Operand)
    (hop : o.op = Op.call { callee := Callee.builtin Builtin.append, args := #[s, x], argTypes := #[22, 22] })
    (base c : Nat) (v : Value) (us : List Value) (hs : a.eval s = v) (hown : LOwn w base v c us) (q : Nat) (u : Value) (hx : a.eval x = .slice (some ⟨q, 0, none⟩) 1 1) (hq : Lie w q [.int .u8 (c : Nat), u]) (hone : u.oneCell' = true)
    (hn : us.length ≤ 1000) (hb : base ≤ w.heap.size)
    (hK : ∀ v' w', LOwn w' base v' c (us ++ [u]) → w.grownBy w' v.ownBlock → wpList Tryd.prog ops Q rest (a.put o.dst v') w') :
    wpList Tryd.prog ops Q (o :: rest) a w := by
  obtain ⟨ib, hi, hz0, hz1, hz2⟩ := info_parts infoLine12
  refine wpList_append_own _ hgd s x 22 hop base 73 ib (.agg #[.int .u8 0, .slice none 0 0]) 2 32 Tryd.underlying22 hi hz0 hz1 hz2 rfl (by decide) v us.length (lnV c us) hs hown ⟨q, 0, none⟩ 1 1 [.int .u8 (c : Nat), u] hx rfl (fun j y hj => ?_) (fun y hy => ?_) (by unfold maxLen; omega) (by omega) hb (fun v' w' k1 k2 k3 => hK v' w' ?_ k2)
  · rw [Addr.add_mid, Nat.zero_add]
    exact hq.at j hj
  · rcases List.mem_cons.1 hy with rfl | hy
    · rfl
    · rw [List.mem_singleton.1 hy]; exact hone
  · unfold LOwn
    rw [List.length_append, show lnV c (us ++ [u]) = lnV c us ++ [.int .u8 (c : Nat), u] by unfold lnV; rw [List.flatMap_append]; rfl]
    exact k1

theorem take_snoc {us : List Value} {k : Nat} (h : k < us.length) : us.take (k + 1) = us.take k ++ [us.getD k undef] := by
  rw [List.take_succ_eq_append_getElem h, List.getD_eq_getElem?_getD, List.getElem?_eq_getElem h]
  rfl
set_option maxHeartbeats 8000000 in
set_option maxRecDepth 100000 in
theorem rlines_any (w : World) (cols : Nat) (lv : Value) (us : List Value) (LL : List (List Dc)) (hc : cols < 256) (hl : LnsAt w lv us) (hd : DssIn w us LL) :
    Calls Tryd.prog 28 #[.agg #[.int .u8 (cols : Nat), lv]] w fun e w' => ∃ v, e = .returned v ∧ LOwn w' w.heap.size v (cols % 31) (us.take 8) ∧ Below w.heap.size w w' := by
  have hul := hd.1
  obtain ⟨la, lc, elv, hmx, hopen⟩ := hl
  obtain ⟨n, hn⟩ : ∃ n, n = us.length := ⟨_, rfl⟩
  rw [← hn] at hmx hopen hul elv
  subst elv
  obtain ⟨c, hcc⟩ : ∃ c, c = cols % 31 := ⟨_, rfl⟩
  obtain ⟨nb, hnb⟩ : ∃ nb, nb = min 8 n := ⟨_, rfl⟩
  have HNN := Lib.hid (show n = us.length from hn)
  have HNB := Lib.hid (show nb ≤ n ∧ nb ≤ 8 ∧ (nb = n ∨ nb = 8) by omega)
  have HTB := Lib.hid (show us.take 8 = us.take nb by
    rcases Nat.lt_or_ge n 8 with h | h
    · rw [List.take_of_length_le (by omega), List.take_of_length_le (by omega)]
    · rw [show nb = 8 by omega])
  obtain ⟨b1, hb1⟩ : ∃ b, b = w.heap.size := ⟨_, rfl⟩
  obtain ⟨w0, hw0⟩ : ∃ x, x = w.alloc (.cells #[.int .u8 (cols : Nat), .slice la n lc] 24) := ⟨_, rfl⟩
  have H1 := Lib.hid (show Lie w0 b1 [.int .u8 (cols : Nat), .slice la n lc] by rw [hw0]; exact Lie.new w _ _ b1 hb1)
  have HB0 := Lib.hid (show Below w.heap.size w w0 by rw [hw0]; exact (Below.refl _ _).alloc (Nat.le_refl _) _)
  have HS0 := Lib.hid (show b1 = w.heap.size ∧ w0.heap.size = b1 + 1 by rw [hw0]; exact ⟨hb1, by simp [hb1]⟩)
  have HLO := Lib.hid (show ∀ k, k < nb → ∃ g o, la = some ⟨g, o, none⟩ ∧ g < w.heap.size ∧ ∃ x ua ul uc, w.cell? ⟨g, o + k * 2, none⟩ = some (.int .u8 x) ∧ w.cell? ⟨g, o + k * 2 + 1, none⟩ = some (.slice ua ul uc) ∧ us.getD k undef = .slice ua ul uc from fun k h => by
    obtain ⟨g, o, e, hg, hC⟩ := hopen (by omega)
    obtain ⟨x, hx, hu⟩ := hC k (by omega)
    obtain ⟨ua, uc, hs⟩ := (hd.2 k (by omega)).shape
    rw [hs] at hu
    exact ⟨g, o, e, hg, x, ua, _, uc, hx, hu, hs⟩)
  have r1 : Int.tmod (cols : Int) 31 = (c : Int) := by rw [hcc]; rfl
  have r2 : IntKind.u8.wrap (c : Int) = (c : Int) := by rw [IntKind.wrap_u8]; omega
  have HL0 := Lib.hid (show LOwn w0 (b1 + 1) (.slice none 0 0) c (us.take 0) from LOwn.nil _ _ _)
  rw [HTB.out]
  rw [← hcc]
  clear hmx hopen hul hd hcc hnb hn
  go_enter Tryd.func28, Tryd.ntmps28
  go_upto_region 1 with (fail)
  rw [← hw0, ← hb1]
  clear hb1
  clear hw0
  go_wp2
  go_loopg [3, 4] nb (fun gl vv vi wr => ∃ (k : Nat), vi = .int .i64 k ∧ k ≤ nb ∧ nb - k ≤ gl ∧ Hid (LOwn wr (b1 + 1) vv c (us.take k)) ∧ Hid (Below w0.heap.size w0 wr))
  case atStart => exact ⟨0, rfl, Nat.zero_le _, Nat.sub_le _ _, HL0, Lib.hid (Below.refl _ _)⟩
  case round =>
    obtain ⟨k, rfl, hkn, hgk, HO, HB⟩ := hrel
    clear HL0
    have hq := H1.out.below HB.out
    have q0 := hq.at 0 rfl
    have q1 := hq.at 1 rfl
    by_cases hlt : k < nb
    · have hA : (k : Int) < (n : Int) := by have := HNB.out; omega
      have hB : (k : Int) < 8 := by have := HNB.out; omega
      obtain ⟨g, o, rfl, hg, x, ua, ul, uc, hx, hu, hs⟩ := HLO.out k hlt
      have HBW := Lib.hid (show Below w.heap.size w wr from HB0.out.trans (HB.out.mono HB0.out.size))
      have cx : wr.cell? ⟨g, o + k * 2, none⟩ = some (.int .u8 x) := (HBW.out.cell (p := ⟨g, o + k * 2, none⟩) hg).trans hx
      have cu : wr.cell? ⟨g, o + k * 2 + 1, none⟩ = some (.slice ua ul uc) := (HBW.out.cell (p := ⟨g, o + k * 2 + 1, none⟩) hg).trans hu
      have HLT := Lib.hid hlt
      obtain ⟨q, hqd⟩ : ∃ q, q = wr.heap.size := ⟨_, rfl⟩
      obtain ⟨wq, hwq⟩ : ∃ X, X = wr.alloc (.cells #[.int .u8 x, .slice ua ul uc] 73) := ⟨_, rfl⟩
      have HQB := Lib.hid (show Below wr.heap.size wr wq by rw [hwq]; exact (Below.refl _ _).alloc (Nat.le_refl _) _)
      have LQ := Lib.hid (show LnAt wq q 0 (.slice ua ul uc) ∨ True from .inr trivial)
      have l0 : wq.cell? ⟨q, 0, none⟩ = some (.int .u8 x) := by rw [hwq, hqd]; simp
      have l1 : wq.cell? ⟨q, 1, none⟩ = some (.slice ua ul uc) := by rw [hwq, hqd]; simp
      have lf : wq.frozen? ⟨q, 0, none⟩ = false := by rw [hwq, hqd]; simp
      obtain ⟨ws, hws⟩ : ∃ X, X = wq.setCell ⟨q, 0, none⟩ (.int .u8 (c : Nat)) := ⟨_, rfl⟩
      have s0 : ws.cell? ⟨q, 0, none⟩ = some (.int .u8 (c : Nat)) := by rw [hws]; exact World.cell?_setCell_same' _ _ _ (by rw [l0]; rfl)
      have s1 : ws.cell? ⟨q, 1, none⟩ = some (.slice ua ul uc) := by rw [hws]; exact (World.cell?_setCell_other _ _ _ _ (fun e => by simp at e)).trans l1
      have HSB := Lib.hid (show Below wr.heap.size wr ws by rw [hws]; exact HQB.out.trans ((But.set wq q 0 _).below (C := wr.heap.size) (by omega) HQB.out.size))
      have d0 := (hq.below HQB.out).at 0 rfl
      obtain ⟨p, hpd⟩ : ∃ p, p = ws.heap.size := ⟨_, rfl⟩
      obtain ⟨wp, hwp⟩ : ∃ X, X = ws.alloc (.cells #[.int .u8 (c : Nat), .slice ua ul uc] 73) := ⟨_, rfl⟩
      have HPL := Lib.hid (show Lie wp p [.int .u8 (c : Nat), .slice ua ul uc] by rw [hwp]; exact Lie.new ws _ _ p hpd)
      have HPB := Lib.hid (show Below wr.heap.size wr wp by rw [hwp]; exact HSB.out.alloc HSB.out.size _)
      have HO2 := Lib.hid (HO.out.below HPB.out)
      have HTS := Lib.hid (show us.take (k + 1) = us.take k ++ [.slice ua ul uc] by rw [take_snoc (by rw [← HNN.out]; have := HNB.out; omega), hs])
      have hlen : (us.take k).length ≤ 1000 := by rw [List.length_take]; have := HNB.out; omega
      have hb2 : b1 + 1 ≤ wp.heap.size := by have := HS0.out; have := HB.out.size; have := HPB.out.size; omega
      clear LQ hs hx hu
      go_upto_region 6 with (fail)
      rw [← hwq, ← hqd]
      clear hwq hqd cx cu q0 q1 hA hB
      go_upto_region 7 with (fail)
      rw [← hws]
      clear hws l0 l1 lf d0
      go_wp2_with (at_builtin; rw [← hwp, ← hpd]; clear hwp hpd; refine wpList_append_line rfl (.tmp 26) (.tmp 28) rfl (b1 + 1) c _ (us.take k) rfl HO2.out p (.slice ua ul uc) rfl HPL.out rfl hlen hb2 ?_)
      intro v' w6 own6 grow6
      have HO6 := Lib.hid (show LOwn w6 (b1 + 1) v' c (us.take (k + 1)) by rw [HTS.out]; exact own6)
      have HB6 := Lib.hid (show Below w0.heap.size w0 w6 from (HB.out.trans (HPB.out.mono HB.out.size)).grown grow6 (Nat.le_trans HB.out.size HPB.out.size) (fun j hj => by have := (HO2.out.lt j hj).1; have := HS0.out; omega))
      clear own6 grow6 HO2 HPL HPB HSB HQB HB HO HTS hlen hb2 s0 s1
      go_wp2
      go_roundg (nb - (k + 1))
      case rel =>
        have hk8 : k ≤ 8 := by have := HNB.out; omega
        clear r1 r2
        exact ⟨k + 1, by (refine congrArg _ ?_; unfold wrap64; omega), HLT.out, Nat.le_refl _, HO6, HB6⟩
      case measure => have := HLT.out; omega
    · obtain rfl : k = nb := by omega
      have HE := Lib.hid (show Below w.heap.size w wr from HB0.out.trans (HB.out.mono HB0.out.size))
      have HOE := Lib.hid (show LOwn wr w.heap.size _ c (us.take k) from own_lower HO.out (by have := HS0.out; omega))
      by_cases h8 : k = n
      · subst h8
        have hA : ¬ (k : Int) < (k : Int) := by omega
        clear hlt
        go_wp2
        go_ret
        exact ⟨u3, rfl, HOE.out, HE.out⟩
      · have hA : (k : Int) < (n : Int) := by have := HNB.out; omega
        have hB : ¬ (k : Int) < 8 := by have := HNB.out; omega
        clear hlt
        go_wp2
        go_ret
        exact ⟨u3, rfl, HOE.out, HE.out⟩

/-- The rows of a draft. -/
def rowsM (cols : Nat) (LL : List (List Dc)) : List Cls := (LL.take 8).map (rowM (cols % 31))
theorem rowsM_len (cols : Nat) (LL : List (List Dc)) : (rowsM cols LL).length = min 8 LL.length := by unfold rowsM; rw [List.length_map, List.length_take]
theorem rowsM_good (cols : Nat) (LL : List (List Dc)) : GG (rowsM cols LL) (cols % 31) := by
  refine ⟨fun R hR => ?_, by rw [rowsM_len]; omega, by omega⟩
  obtain ⟨L, _, rfl⟩ := List.mem_map.1 hR
  obtain ⟨h1, h2, h3⟩ := rowM_whole (cols % 31) L
  exact ⟨h1, by rw [h3]; omega, h2⟩
theorem rowsM_at {cols k : Nat} {LL : List (List Dc)} (h : k < min 8 LL.length) : rowG (rowsM cols LL) k = rowM (cols % 31) (LL.getD k []) := by
  rw [rowG_eq (by rw [rowsM_len]; exact h)]
  simp only [rowsM, List.getElem_map, List.getElem_take]
  rw [List.getD_eq_getElem?_getD, List.getElem?_eq_getElem (by omega)]
  rfl
theorem take_snocG {G : List Cls} {k : Nat} (h : k < G.length) : G.take (k + 1) = G.take k ++ [rowG G k] := by
  rw [List.take_succ_eq_append_getElem h, rowG_eq h]
theorem CRow.sl {w : World} {lo : Nat} {v : Value} {R : Cls} (h : CRow w lo v R) : ∃ a c, v = .slice a R.length c := h.shape
set_option maxHeartbeats 8000000 in
set_option maxRecDepth 100000 in
theorem rgrid12_any (w : World) (cols : Nat) (lv : Value) (LL : List (List Dc)) (hc : cols < 256) (hl : LnsIn w lv LL) :
    Calls Tryd.prog 9 #[.agg #[.int .u8 (cols : Nat), lv]] w fun e w' => ∃ v U, e = .returned v ∧ GSee w' v (rowsM cols LL) U ∧ Below w.heap.size w w' := by
  obtain ⟨la, lc, elv⟩ := hl.shape
  obtain ⟨us, hl1, hl2⟩ := hl
  obtain ⟨n, hn⟩ : ∃ n, n = LL.length := ⟨_, rfl⟩
  rw [← hn] at elv
  have HUN := Lib.hid (show us.length = n by rw [hn]; exact hl2.1)
  obtain ⟨nb, hnb⟩ : ∃ nb, nb = min 8 n := ⟨_, rfl⟩
  obtain ⟨c, hcc⟩ : ∃ c, c = cols % 31 := ⟨_, rfl⟩
  obtain ⟨G, hG⟩ : ∃ G, G = rowsM cols LL := ⟨_, rfl⟩
  have HGL := Lib.hid (show G.length = nb ∧ nb ≤ 8 ∧ (us.take 8).length = nb ∧ c < 31 by rw [hG, rowsM_len, ← hn, List.length_take, HUN.out]; omega)
  have HGR := Lib.hid (show ∀ k, (h : k < nb) → rowG G k = rowM c (LL.getD k []) from fun k h => by
    rw [hG, hcc]
    exact rowsM_at (by omega))
  obtain ⟨b1, hb1⟩ : ∃ b, b = w.heap.size := ⟨_, rfl⟩
  obtain ⟨w0, hw0⟩ : ∃ x, x = w.alloc (.cells #[.int .u8 (cols : Nat), .slice la n lc] 24) := ⟨_, rfl⟩
  have H1 := Lib.hid (show Lie w0 b1 [.int .u8 (cols : Nat), .slice la n lc] by rw [hw0]; exact Lie.new w _ _ b1 hb1)
  have HB0 := Lib.hid (show Below w.heap.size w w0 by rw [hw0]; exact (Below.refl _ _).alloc (Nat.le_refl _) _)
  have HS0 := Lib.hid (show b1 = w.heap.size ∧ w0.heap.size = b1 + 1 by rw [hw0]; exact ⟨hb1, by simp [hb1]⟩)
  have HD := Lib.hid (hl2.below HB0.out)
  have HLN := Lib.hid (rlines_any w0 cols lv us LL hc (hl1.below HB0.out) HD.out)
  rw [elv, ← hcc] at HLN
  rw [elv, ← hG]
  have q0 := H1.out.at 0 rfl
  have q1 := H1.out.at 1 rfl
  have HNL := Lib.hid (show n = LL.length ∧ (nb = n ∨ nb = 8) by omega)
  clear hl1 hl2 hn hnb hcc hG elv
  go_enter Tryd.func9, Tryd.ntmps9
  go_upto_region 1 with (fail)
  rw [← hw0, ← hb1]
  clear hw0 hb1
  go_wp2_with fail
  refine HLN.out.mono ?_
  rintro e w1 ⟨v1, rfl, own1, bw1⟩
  obtain ⟨va, vc, hv1⟩ := own1.shape
  rw [HGL.out.2.2.1] at hv1
  have HO := Lib.hid own1
  rw [hv1] at HO
  subst hv1
  have HB1 := Lib.hid bw1
  have HBW := Lib.hid (show Below w.heap.size w w1 from HB0.out.trans (bw1.mono HB0.out.size))
  have HV0 := Lib.hid (show VRow w1 w1.heap.size (.slice none 0 0) (G.take 0) from VRow.nil _ _)
  clear own1 bw1 HLN q0 q1
  go_wp2
  go_loopg [3, 5] nb (fun gl vv vi wr => ∃ (k : Nat), vi = .int .i64 k ∧ k ≤ nb ∧ nb - k ≤ gl ∧ Hid (VRow wr w1.heap.size vv (G.take k)) ∧ Hid (Below w1.heap.size w1 wr))
  case atStart => exact ⟨0, rfl, Nat.zero_le _, Nat.sub_le _ _, HV0, Lib.hid (Below.refl _ _)⟩
  case round =>
    obtain ⟨k, rfl, hkn, hgk, HV, HB⟩ := hrel
    clear HV0
    by_cases hlt : k < nb
    · have HLT := Lib.hid hlt
      obtain ⟨g, cp, e, hcap, hgs, hcell⟩ := HO.out.open (by rw [HGL.out.2.2.1]; omega)
      injection e with e1 e2 e3
      subst e1 e3
      have hk' : k < (us.take 8).length := by rw [HGL.out.2.2.1]; exact hlt
      obtain ⟨d0, d1⟩ := hcell k hk'
      have hku : k < us.length := by rw [List.length_take] at hk'; omega
      have hdk := HD.out.2 k (by rw [← HNL.out.1, ← HUN.out]; exact hku)
      obtain ⟨ua, uc, hs⟩ := hdk.shape
      have hus : (us.take 8).getD k undef = us.getD k undef := by
        rw [List.getD_eq_getElem?_getD, List.getD_eq_getElem?_getD, List.getElem?_take, if_pos (by have := HGL.out; omega)]
      rw [hus, hs] at d1
      rw [hs] at hdk
      have c0 : wr.cell? ⟨g, k * 2, none⟩ = some (.int .u8 (c : Nat)) := (HB.out.cell (p := ⟨g, k * 2, none⟩) hgs).trans d0
      have c1 : wr.cell? ⟨g, k * 2 + 1, none⟩ = some (.slice ua (LL[k]'(by rw [← HNL.out.1, ← HUN.out]; exact hku)).length uc) := (HB.out.cell (p := ⟨g, k * 2 + 1, none⟩) hgs).trans d1
      obtain ⟨L, hL⟩ : ∃ L, L = LL[k]'(by rw [← HNL.out.1, ← HUN.out]; exact hku) := ⟨_, rfl⟩
      rw [← hL] at hdk c1
      obtain ⟨ul, hul⟩ : ∃ ul, ul = L.length := ⟨_, rfl⟩
      rw [← hul] at hdk c1
      have HRC := Lib.hid (rrow_any wr c (.slice ua ul uc) L (by have := HGL.out; omega) ((hdk.below HB1.out).below HB.out))
      have HRG := Lib.hid (show rowG G k = rowM c L by rw [HGR.out k hlt, hL, List.getD_eq_getElem?_getD, List.getElem?_eq_getElem (by rw [← HNL.out.1, ← HUN.out]; exact hku)]; rfl)
      clear hcell hcap hgs e2 hk' hku hdk hs hus d0 d1 hul hL
      go_wp2_with fail
      refine HRC.out.mono ?_
      rintro e w2 ⟨r, rfl, own2, b2⟩
      obtain ⟨ra, rc, rfl⟩ := own2.sl
      obtain ⟨rl, hrl⟩ : ∃ rl, rl = (rowM c L).length := ⟨_, rfl⟩
      rw [← hrl] at own2 ⊢
      have HR2 := Lib.hid (own2.lower (Nat.zero_le _))
      have HV2 := Lib.hid (HV.out.below b2)
      have HB2 := Lib.hid (show Below w1.heap.size w1 w2 from HB.out.trans (b2.mono HB.out.size))
      obtain ⟨p, hpd⟩ : ∃ p, p = w2.heap.size := ⟨_, rfl⟩
      obtain ⟨wp, hwp⟩ : ∃ X, X = w2.alloc (.cells #[.slice ra rl rc] 49) := ⟨_, rfl⟩
      have hwb : Below w2.heap.size w2 wp := by rw [hwp]; exact (Below.refl _ _).alloc (Nat.le_refl _) _
      have HPL := Lib.hid (show Lie wp p [.slice ra rl rc] by rw [hwp]; exact Lie.new w2 _ _ p hpd)
      have HRP := Lib.hid (HR2.out.below hwb)
      have HVP := Lib.hid (HV2.out.below hwb)
      have HBP := Lib.hid (show Below w1.heap.size w1 wp from HB2.out.trans (hwb.mono HB2.out.size))
      have hlen : (G.take k).length ≤ 1000 := by rw [List.length_take]; have := HGL.out; omega
      clear own2 b2 hrl hwb HRC HR2 HV2 HB2 c0 c1
      go_wp2_with (at_builtin; rw [← hwp, ← hpd]; clear hwp hpd; refine wpList_append_row1 rfl (.tmp 14) (.tmp 20) rfl w1.heap.size _ (G.take k) rfl HVP.out p (.slice ra rl rc) (rowM c L) rfl (HPL.out.at 0 rfl) HRP.out hlen HBP.out.size ?_)
      intro v' w6 own6 grow6
      have HV6 := Lib.hid (show VRow w6 w1.heap.size v' (G.take (k + 1)) by rw [take_snocG (by rw [HGL.out.1]; exact HLT.out), HRG.out]; exact own6)
      have HB6 := Lib.hid (show Below w1.heap.size w1 w6 from HBP.out.grown grow6 HBP.out.size (fun j hj => HVP.out.lt j hj))
      clear own6 grow6 HVP HBP HRP HPL HV HB HRG hlen
      go_wp2
      go_roundg (nb - (k + 1))
      case rel =>
        have hk8 : k ≤ 8 := by have := HGL.out; have := HLT.out; omega
        exact ⟨k + 1, by first | go_num | (refine congrArg _ ?_; unfold wrap64; omega), HLT.out, Nat.le_refl _, HV6, HB6⟩
      case measure => have := HLT.out; omega
    · obtain rfl : k = nb := by omega
      have HE := Lib.hid (show Below w.heap.size w wr from HBW.out.trans (HB.out.mono HBW.out.size))
      have HVE := Lib.hid (show VRow wr w1.heap.size u3 G by have := HV.out; rwa [List.take_of_length_le (by rw [HGL.out.1]; exact Nat.le_refl _)] at this)
      clear hlt
      go_wp2
      go_ret
      obtain ⟨U, hU⟩ := HVE.out.see
      exact ⟨u3, U, rfl, hU, HE.out⟩
end Go.Proofs.YtlaafmjiiiaceaaDoor.Lab
