/- Grids that are drawn: the reference's lines, Grid, Other. -/
import Derived.Test.YtlaafmjiiiaceaaDoorRcClip
import Derived.Test.YtlaafmjiiiaceaaDoorRoRow
set_option linter.unusedVariables false
namespace Go.Proofs.YtlaafmjiiiaceaaDoor.Lab
open Go Go.RowKit

/-- A block of cells, its first values. -/
def Lie (w : World) (b : Nat) (l : List Value) : Prop := b < w.heap.size ∧ ∀ k v, l[k]? = some v → w.cell? ⟨b, k, none⟩ = some v
theorem Lie.below {w w' : World} {b : Nat} {l : List Value} (h : Lie w b l) (k : Below w.heap.size w w') : Lie w' b l := ⟨Nat.lt_of_lt_of_le h.1 k.size, fun j v hj => (k.cell (p := ⟨b, j, none⟩) h.1).trans (h.2 j v hj)⟩
theorem Lie.of {w : World} {b : Nat} {cs : Array Value} {T : TypeId} (h : w.heap[b]? = some (.cells cs T (0, 0))) : Lie w b cs.toList := ⟨(Array.getElem?_eq_some_iff.1 h).1, fun k v hk => by rw [cell_of_row w b k cs T (0, 0) h]; simpa using hk⟩
theorem Lie.new (w : World) (cs : Array Value) (T : TypeId) (b : Nat) (hb : b = w.heap.size) : Lie (w.alloc (.cells cs T)) b cs.toList := Lie.of (T := T) (by rw [hb]; exact heap_alloc_new w _)
theorem Lie.at {w : World} {b : Nat} {l : List Value} (h : Lie w b l) (k : Nat) {v : Value} (hk : l[k]? = some v) : w.cell? ⟨b, k, none⟩ = some v := h.2 k v hk
/-- Drafts of lines. -/
def DssIn (w : World) (us : List Value) (LL : List (List Dc)) : Prop := us.length = LL.length ∧ ∀ i, (hi : i < LL.length) → DsIn w (us.getD i undef) LL[i]
theorem DssIn.below {w w' : World} {us : List Value} {LL : List (List Dc)} (h : DssIn w us LL) (k : Below w.heap.size w w') : DssIn w' us LL := ⟨h.1, fun i hi => (h.2 i hi).below k⟩
/-- Lines as they come in: of each its columns, and the value of its drafts. -/
def LnsAt (w : World) (v : Value) (us : List Value) : Prop :=
  ∃ a c, v = .slice a us.length c ∧ us.length ≤ maxLen ∧ (0 < us.length → ∃ g o, a = some ⟨g, o, none⟩ ∧ g < w.heap.size ∧ ∀ i, i < us.length → ∃ x, w.cell? ⟨g, o + i * 2, none⟩ = some (.int .u8 x) ∧ w.cell? ⟨g, o + i * 2 + 1, none⟩ = some (us.getD i undef))
theorem LnsAt.below {w w' : World} {v : Value} {us : List Value} (h : LnsAt w v us) (k : Below w.heap.size w w') : LnsAt w' v us := by
  obtain ⟨a, c, e, hm, h⟩ := h
  refine ⟨a, c, e, hm, fun h0 => ?_⟩
  obtain ⟨g, o, ea, hg, hC⟩ := h h0
  refine ⟨g, o, ea, Nat.lt_of_lt_of_le hg k.size, fun i hi => ?_⟩
  obtain ⟨x, hx, hu⟩ := hC i hi
  exact ⟨x, (k.cell (p := ⟨g, o + i * 2, none⟩) hg).trans hx, (k.cell (p := ⟨g, o + i * 2 + 1, none⟩) hg).trans hu⟩
def LnsIn (w : World) (v : Value) (LL : List (List Dc)) : Prop := ∃ us, LnsAt w v us ∧ DssIn w us LL
theorem LnsIn.below {w w' : World} {v : Value} {LL : List (List Dc)} (h : LnsIn w v LL) (k : Below w.heap.size w w') : LnsIn w' v LL := by
  obtain ⟨us, h1, h2⟩ := h
  exact ⟨us, h1.below k, h2.below k⟩
theorem LnsIn.shape {w : World} {v : Value} {LL : List (List Dc)} (h : LnsIn w v LL) : ∃ a c, v = .slice a LL.length c := by
  obtain ⟨us, ⟨a, c, e, _⟩, h2⟩ := h
  exact ⟨a, c, by rw [e, h2.1]⟩
/-! ### own rows of lines, of rows of cells -/
theorem CRow.typed {w : World} {lo g : Nat} {v : Value} {R : Cls} (h : CRow w lo v R) (hb : v.ownBlock = some g) : ∃ cur, w.heap[g]? = some (.cells cur 62 (0, 0)) := by
  rcases h.2 with ⟨rfl, _⟩ | ⟨g', cap, cur, rfl, _, hg, _⟩
  · simp [Value.ownBlock] at hb
  · obtain rfl : g' = g := by simpa [Value.ownBlock] using hb
    exact ⟨cur, hg⟩
theorem CRow.apart {w w' : World} {lo : Nat} {row : Option Nat} {v : Value} {R : Cls} (h : CRow w lo v R) (k : w.grownBy w' row) (hg : ∀ g, row = some g → ∃ cur T fr, w.heap[g]? = some (.cells cur T fr) ∧ T ≠ 62) : CRow w' lo v R := by
  refine World.ownsRow.kept h k ?_
  cases hb : v.ownBlock with
  | none => exact .inl rfl
  | some b =>
    refine .inr fun e => ?_
    obtain ⟨cur, T, fr, hc, hT⟩ := hg b e.symm
    obtain ⟨cu, hu⟩ := h.typed hb
    rw [hc] at hu
    injection hu with hu
    injection hu with _ hu
    exact hT hu
def VRow (w : World) (base : Nat) (v : Value) (G : List Cls) : Prop :=
  ∃ us : List Value, w.ownsRow base 49 1 v G.length us ∧ ∀ i, i < G.length → CRow w 0 (us.getD i undef) (rowG G i)
theorem VRow.below {w w' : World} {base : Nat} {v : Value} {G : List Cls} (h : VRow w base v G) (k : Below w.heap.size w w') : VRow w' base v G := by
  obtain ⟨us, h1, h2⟩ := h
  exact ⟨us, own_below h1 k, fun i hi => (h2 i hi).below k⟩
theorem VRow.nil (w : World) (base : Nat) : VRow w base (.slice none 0 0) [] := ⟨[], World.ownsRow_nil w base _ 1, fun i hi => by simp at hi⟩
theorem VRow.lt {w : World} {base : Nat} {v : Value} {G : List Cls} (h : VRow w base v G) : ∀ j, v.ownBlock = some j → base ≤ j := fun j hj => by
  obtain ⟨us, h1, _⟩ := h
  exact (h1.lt j hj).1
theorem VRow.see {w : World} {base : Nat} {v : Value} {G : List Cls} (h : VRow w base v G) : ∃ U, GSee w v G U := by
  obtain ⟨us, h1, h2⟩ := h
  have hu : us.length = G.length := by simpa using h1.1
  refine ⟨fun i => us.getD i undef, ?_⟩
  rcases h1.2 with ⟨rfl, h0⟩ | ⟨g, cap, cur, rfl, _, hg, hnc, _⟩
  · exact ⟨none, 0, by rw [h0], by omega, fun h => by omega, fun i hi => (h2 i hi).row⟩
  · refine ⟨_, cap, rfl, hnc, fun _ => ⟨g, 0, rfl, (Array.getElem?_eq_some_iff.1 hg).1, fun i hi => ?_⟩, fun i hi => (h2 i hi).row⟩
    have := h1.cells (g := g) rfl i (us.getD i undef) (by rw [List.getD_eq_getElem?_getD, List.getElem?_eq_getElem (by omega)]; rfl)
    rwa [Addr.add_mid] at this
theorem CRow.one {w : World} {lo : Nat} {v : Value} {R : Cls} (h : CRow w lo v R) : v.oneCell' = true := by
  rcases h.2 with ⟨rfl, _⟩ | ⟨g', cap, cur, rfl, _, hg, _⟩ <;> rfl
theorem infoRow12 : (Tryd.prog.info? 49).map (fun i => (i.zero, i.size, i.bytes)) = some (some (.slice none 0 0), 1, 24) := by kernel_rfl
theorem infoLine12 : (Tryd.prog.info? 73).map (fun i => (i.zero, i.size, i.bytes)) = some (some (.agg #[.int .u8 0, .slice none 0 0]), 2, 32) := by kernel_rfl
theorem wpList_append_row1 {ops : Array Oper} {rest : List Oper} {o : Oper} {a : Act} {w : World} {Q : Exit → Act → World → Prop} (hgd : o.guard = none) (s x : Operand)
    (hop : o.op = Op.call { callee := Callee.builtin Builtin.append, args := #[s, x], argTypes := #[27, 27] })
    (base : Nat) (v : Value) (G : List Cls) (hs : a.eval s = v) (hown : VRow w base v G) (q : Nat) (u : Value) (R : Cls) (hx : a.eval x = .slice (some ⟨q, 0, none⟩) 1 1) (hq : w.cell? ⟨q, 0, none⟩ = some u) (hu : CRow w 0 u R)
    (hn : G.length ≤ 1000) (hb : base ≤ w.heap.size)
    (hK : ∀ v' w', VRow w' base v' (G ++ [R]) → w.grownBy w' v.ownBlock → wpList Tryd.prog ops Q rest (a.put o.dst v') w') :
    wpList Tryd.prog ops Q (o :: rest) a w := by
  obtain ⟨ib, hi, hz0, hz1, hz2⟩ := info_parts infoRow12
  obtain ⟨us, h1, h2⟩ := hown
  have hl : us.length = G.length := by simpa using h1.1
  have hgt : ∀ g, v.ownBlock = some g → ∃ cur T fr, w.heap[g]? = some (.cells cur T fr) ∧ T ≠ 62 := fun g hg => by
    rcases h1.2 with ⟨rfl, _⟩ | ⟨g', cap, cur, rfl, _, hgg, _⟩
    · simp [Value.ownBlock] at hg
    · obtain rfl : g' = g := by simpa [Value.ownBlock] using hg
      exact ⟨cur, _, _, hgg, by decide⟩
  refine wpList_append_own _ hgd s x 27 hop base 49 ib (.slice none 0 0) 1 24 Tryd.underlying27 hi hz0 hz1 hz2 rfl (by decide) v G.length us hs h1 ⟨q, 0, none⟩ 1 1 [u] hx rfl (fun j y hj => ?_) (fun y hy => by rw [List.mem_singleton.1 hy]; exact hu.one) (by unfold maxLen; omega) (by omega) hb (fun v' w' k1 k2 k3 => hK v' w' ⟨us ++ [u], ?_, fun i hi' => ?_⟩ k2)
  · have : j < 1 := (List.getElem?_eq_some_iff.1 hj).1
    obtain rfl : j = 0 := by omega
    obtain rfl : u = y := by simpa using hj
    exact hq
  · rw [List.length_append]
    exact k1
  · rw [List.length_append, List.length_singleton] at hi'
    by_cases e : i < G.length
    · rw [List.getD_eq_getElem?_getD, List.getElem?_append_left (by omega), ← List.getD_eq_getElem?_getD, show rowG (G ++ [R]) i = rowG G i by unfold rowG; rw [List.getD_eq_getElem?_getD, List.getElem?_append_left e, ← List.getD_eq_getElem?_getD]]
      exact (h2 i e).apart k2 hgt
    · obtain rfl : i = G.length := by omega
      rw [List.getD_eq_getElem?_getD, List.getElem?_append_right (by omega), show rowG (G ++ [R]) G.length = R by unfold rowG; rw [List.getD_eq_getElem?_getD, List.getElem?_append_right (by omega)]; simp]
      rw [hl, Nat.sub_self]
      exact hu.apart k2 hgt
/-- A row of lines of the call's own, all of c columns. -/
def lnV (c : Nat) (us : List Value) : List Value := us.flatMap fun u => [.int .u8 (c : Nat), u]
theorem lnV_len (c : Nat) : ∀ us : List Value, (lnV c us).length = us.length * 2
  | [] => rfl
  | u :: us => by
    show ([.int .u8 (c : Nat), u] ++ lnV c us).length = _
    rw [List.length_append, lnV_len c us, List.length_cons]
    simp
    omega
theorem lnV_get (c : Nat) : ∀ (us : List Value) (i : Nat), i < us.length → (lnV c us)[i * 2]? = some (.int .u8 (c : Nat)) ∧ (lnV c us)[i * 2 + 1]? = some (us.getD i undef)
  | u :: us, 0, _ => ⟨rfl, rfl⟩
  | u :: us, i + 1, h => by
    have := lnV_get c us i (by simpa using h)
    rw [show (i + 1) * 2 = i * 2 + 2 by omega]
    exact this
def LOwn (w : World) (base : Nat) (v : Value) (c : Nat) (us : List Value) : Prop := w.ownsRow base 73 2 v us.length (lnV c us)
theorem LOwn.nil (w : World) (base c : Nat) : LOwn w base (.slice none 0 0) c [] := World.ownsRow_nil w base _ 2
theorem LOwn.below {w w' : World} {base c : Nat} {v : Value} {us : List Value} (h : LOwn w base v c us) (k : Below w.heap.size w w') : LOwn w' base v c us := own_below h k
theorem LOwn.shape {w : World} {base c : Nat} {v : Value} {us : List Value} (h : LOwn w base v c us) : ∃ a cp, v = .slice a us.length cp := by
  rcases h.2 with ⟨rfl, h0⟩ | ⟨g, cap, cur, rfl, _⟩
  · exact ⟨none, 0, by rw [h0]⟩
  · exact ⟨_, cap, rfl⟩
theorem LOwn.open {w : World} {base c : Nat} {v : Value} {us : List Value} (h : LOwn w base v c us) (h0 : 0 < us.length) : ∃ g cp, v = .slice (some ⟨g, 0, none⟩) us.length cp ∧ us.length ≤ cp ∧ g < w.heap.size ∧ ∀ i, i < us.length → w.cell? ⟨g, i * 2, none⟩ = some (.int .u8 (c : Nat)) ∧ w.cell? ⟨g, i * 2 + 1, none⟩ = some (us.getD i undef) := by
  have h1 : w.ownsRow base 73 2 v us.length (lnV c us) := h
  rcases h1.2 with ⟨rfl, h0⟩ | ⟨g, cap, cur, rfl, _, hg, hnc, _⟩
  · omega
  · refine ⟨g, cap, rfl, hnc, (Array.getElem?_eq_some_iff.1 hg).1, fun i hi => ?_⟩
    obtain ⟨e1, e2⟩ := lnV_get c us i (by omega)
    have q1 := h1.cells (g := g) rfl _ _ e1
    have q2 := h1.cells (g := g) rfl _ _ e2
    rw [Addr.add_mid, Nat.zero_add] at q1 q2
    exact ⟨q1, q2⟩
theorem DsIn.one {w : World} {v : Value} {L : List Dc} (h : DsIn w v L) : v.oneCell' = true := by
  obtain ⟨a, c, rfl⟩ := h.shape
  rfl
theorem wpList_append_line {ops : Array Oper} {rest : List Oper} {o : Oper} {a : Act} {w : World} {Q : Exit → Act → World → Prop} (hgd : o.guard = none) (s x : Operand)
    (hop : o.op = Op.call { callee := Callee.builtin Builtin.append, args := #[s, x], argTypes := #[22, 22] })
    (base c : Nat) (v : Value) (us : List Value) (hs : a.eval s = v) (hown : LOwn w base v c us) (q : Nat) (u : Value) (hx : a.eval x = .slice (some ⟨q, 0, none⟩) 1 1) (hq : Lie w q [.int .u8 (c : Nat), u]) (hone : u.oneCell' = true)
    (hn : us.length ≤ 1000) (hb : base ≤ w.heap.size)
    (hK : ∀ v' w', LOwn w' base v' c (us ++ [u]) → w.grownBy w' v.ownBlock → wpList Tryd.prog ops Q rest (a.put o.dst v') w') :
    wpList Tryd.prog ops Q (o :: rest) a w := by
  obtain ⟨ib, hi, hz0, hz1, hz2⟩ := info_parts infoLine12
  refine wpList_append_own _ hgd s x 22 hop base 73 ib (.agg #[.int .u8 0, .slice none 0 0]) 2 32 Tryd.underlying22 hi hz0 hz1 hz2 rfl (by decide) v us.length (lnV c us) hs hown ⟨q, 0, none⟩ 1 1 [.int .u8 (c : Nat), u] hx rfl (fun j y hj => ?_) (fun y hy => ?_) (by unfold maxLen; omega) (by omega) hb (fun v' w' k1 k2 k3 => hK v' w' ?_ k2)
  · rw [Addr.add_mid, Nat.zero_add]
    exact hq.at j hj
  · rcases List.mem_cons.1 hy with rfl | hy
    · rfl
    · rw [List.mem_singleton.1 hy]; exact hone
  · unfold LOwn
    rw [List.length_append, show lnV c (us ++ [u]) = lnV c us ++ [.int .u8 (c : Nat), u] by unfold lnV; rw [List.flatMap_append]; rfl]
    exact k1
end Go.Proofs.YtlaafmjiiiaceaaDoor.Lab
