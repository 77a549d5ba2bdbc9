/- Rows of rows of cells in memory (a grid's rows): as the call's own, as they can be read; laws for append, copy and cuts of them; a grid behind its pointer. -/
import Derived.Test.YtlaafmjiiiaceaaDoorGrMath
import Derived.RangeFuncOwn
namespace Go.Proofs.YtlaafmjiiiaceaaDoor.Lab
open Go Go.RowKit

/-- A row of a grid as it lies: its block, its capacity, its cells. -/
structure Hd where
  b : Nat
  c : Nat
  R : Cls
abbrev hdV (h : Hd) : Value := .slice (some ⟨h.b, 0, none⟩) h.R.length h.c
def HdsOk (w : World) (lo : Nat) (H : List Hd) : Prop := ∀ h ∈ H, CRow w lo (hdV h) h.R
theorem HdsOk.below {w w' : World} {lo : Nat} {H : List Hd} (h : HdsOk w lo H) (k : Below w.heap.size w w') : HdsOk w' lo H := fun x hx => (h x hx).below k
theorem HdsOk.lower {w : World} {lo lo' : Nat} {H : List Hd} (h : HdsOk w lo H) (k : lo' ≤ lo) : HdsOk w lo' H := fun x hx => (h x hx).lower k
theorem HdsOk.append {w : World} {lo : Nat} {H K : List Hd} (h : HdsOk w lo H) (k : HdsOk w lo K) : HdsOk w lo (H ++ K) := fun x hx => (List.mem_append.1 hx).elim (h x) (k x)
theorem HdsOk.sub {w : World} {lo : Nat} {H K : List Hd} (h : HdsOk w lo H) (k : ∀ x ∈ K, x ∈ H) : HdsOk w lo K := fun x hx => h x (k x hx)
theorem HdsOk.take {w : World} {lo : Nat} {H : List Hd} (h : HdsOk w lo H) (n : Nat) : HdsOk w lo (H.take n) := h.sub fun _ hx => List.mem_of_mem_take hx
theorem HdsOk.drop {w : World} {lo : Nat} {H : List Hd} (h : HdsOk w lo H) (n : Nat) : HdsOk w lo (H.drop n) := h.sub fun _ hx => List.mem_of_mem_drop hx
theorem HdsOk.nil (w : World) (lo : Nat) : HdsOk w lo [] := fun _ h => by cases h
theorem HdsOk.one {w : World} {lo : Nat} {x : Hd} (h : CRow w lo (hdV x) x.R) : HdsOk w lo [x] := fun y hy => by rw [List.mem_singleton.1 hy]; exact h
theorem HdsOk.set {w : World} {lo i : Nat} {H : List Hd} {x : Hd} (h : HdsOk w lo H) (k : CRow w lo (hdV x) x.R) : HdsOk w lo (H.set i x) := fun y hy => by
  rcases List.mem_or_eq_of_mem_set hy with q | q
  · exact h y q
  · rw [q]; exact k
/-- What block a row lies in. -/
theorem CRow.type {w : World} {lo : Nat} {x : Hd} (h : CRow w lo (hdV x) x.R) : ∃ cur, w.heap[x.b]? = some (.cells cur 62 (0, 0)) := by
  rcases h.2 with ⟨e, _⟩ | ⟨g, cap, cur, e, _, hg, _⟩
  · cases e
  · injection e with e1 e2 e3
    injection e1 with e1
    injection e1 with e1
    subst e1
    exact ⟨cur, hg⟩
/-- A block that is no row of cells has turned. -/
theorem HdsOk.but {w w' : World} {lo g : Nat} {H : List Hd} (h : HdsOk w lo H) {cur : Array Value} {T : TypeId} {fr : Nat × Nat} (hg : w.heap[g]? = some (.cells cur T fr)) (hT : T ≠ 62) (k : But g w w') : HdsOk w' lo H := fun x hx => by
  refine (h x hx).kept k (.inr ?_)
  obtain ⟨cu, hc⟩ := (h x hx).type
  intro e
  obtain rfl : x.b = g := by simpa [Value.ownBlock] using e
  rw [hc] at hg
  injection hg with hg
  injection hg with _ hg
  exact hT hg.symm
/-- A row of rows of the call's own: it lies at base or later, the rows at lo or later. -/
def GRow (w : World) (lo base : Nat) (v : Value) (H : List Hd) : Prop := w.ownsRow base 49 1 v H.length (H.map hdV) ∧ HdsOk w lo H
theorem GRow.below {w w' : World} {lo base : Nat} {v : Value} {H : List Hd} (h : GRow w lo base v H) (k : Below w.heap.size w w') : GRow w' lo base v H := ⟨own_below h.1 k, h.2.below k⟩
theorem GRow.lower {w : World} {lo lo' base base' : Nat} {v : Value} {H : List Hd} (h : GRow w lo base v H) (k : lo' ≤ lo) (kb : base' ≤ base) : GRow w lo' base' v H := ⟨own_lower h.1 kb, h.2.lower k⟩
theorem GRow.nil (w : World) (lo base : Nat) : GRow w lo base (.slice none 0 0) [] := ⟨World.ownsRow_nil w base _ 1, HdsOk.nil w lo⟩
theorem GRow.shape {w : World} {lo base : Nat} {v : Value} {H : List Hd} (h : GRow w lo base v H) : ∃ a c, v = .slice a H.length c := by
  rcases h.1.2 with ⟨rfl, h0⟩ | ⟨g, cap, cur, rfl, _⟩
  · exact ⟨none, 0, by rw [h0]⟩
  · exact ⟨_, cap, rfl⟩
theorem GRow.here {w : World} {lo base : Nat} {v : Value} {H : List Hd} (h : GRow w lo base v H) (h0 : 0 < H.length) : ∃ g c, v = .slice (some ⟨g, 0, none⟩) H.length c ∧ base ≤ g ∧ g < w.heap.size := by
  rcases h.1.2 with ⟨rfl, h1⟩ | ⟨g, cap, cur, rfl, _⟩
  · omega
  · have := h.1.lt g rfl
    exact ⟨g, cap, rfl, this.1, this.2⟩
theorem GRow.type {w : World} {lo base g n c : Nat} {H : List Hd} (h : GRow w lo base (.slice (some ⟨g, 0, none⟩) n c) H) : ∃ cur, w.heap[g]? = some (.cells cur 49 (0, 0)) := by
  rcases h.1.2 with ⟨e, _⟩ | ⟨g', cap, cur, e, _, hg, _⟩
  · cases e
  · injection e with e1 e2 e3
    injection e1 with e1
    injection e1 with e1
    subst e1
    exact ⟨cur, hg⟩
theorem map_hd {H : List Hd} {i : Nat} (hi : i < H.length) : (H.map hdV)[i]? = some (hdV H[i]) := by rw [List.getElem?_map, List.getElem?_eq_getElem hi]; rfl
theorem GRow.at {w : World} {lo base g n c : Nat} {H : List Hd} (h : GRow w lo base (.slice (some ⟨g, 0, none⟩) n c) H) {i : Nat} (hi : i < H.length) : w.cell? ⟨g, i, none⟩ = some (hdV H[i]) := by
  have := h.1.cells (g := g) rfl i (hdV H[i]) (map_hd hi)
  rwa [Addr.add_mid, Nat.zero_add] at this
theorem GRow.row {w : World} {lo base : Nat} {v : Value} {H : List Hd} (h : GRow w lo base v H) {i : Nat} (hi : i < H.length) : CRow w lo (hdV H[i]) H[i].R := h.2 _ (List.getElem_mem hi)
theorem GRow.frozen {w : World} {lo base g n c : Nat} {H : List Hd} (h : GRow w lo base (.slice (some ⟨g, 0, none⟩) n c) H) (hn : n = H.length) (j : Nat) : w.frozen? ⟨g, j, none⟩ = false := by
  subst hn
  exact World.ownsRow.frozenAt h.1 j
/-- A row put into its place. -/
theorem GRow.put {w : World} {lo base g n c : Nat} {H : List Hd} (h : GRow w lo base (.slice (some ⟨g, 0, none⟩) n c) H) (hn : n = H.length) (i : Nat) {x : Hd} (hx : CRow w lo (hdV x) x.R) :
    GRow (w.setCell ⟨g, i, none⟩ (hdV x)) lo base (.slice (some ⟨g, 0, none⟩) n c) (H.set i x) := by
  subst hn
  obtain ⟨cur, hg⟩ := h.type
  have k := World.ownsRow.stored h.1 i (hdV x)
  refine ⟨?_, (h.2.set hx).but hg (by decide) k.2⟩
  rw [List.length_set, List.map_set]
  exact k.1
/-- A row of rows as it can be read. -/
def GIn (w : World) (lo : Nat) (v : Value) (H : List Hd) : Prop :=
  ∃ a c, v = .slice a H.length c ∧ H.length ≤ c ∧ c ≤ maxLen ∧ (0 < H.length → ∃ g o, a = some ⟨g, o, none⟩ ∧ g < w.heap.size ∧ ∀ i, (hi : i < H.length) → w.cell? ⟨g, o + i, none⟩ = some (hdV H[i])) ∧ HdsOk w lo H
theorem GIn.below {w w' : World} {lo : Nat} {v : Value} {H : List Hd} (h : GIn w lo v H) (k : Below w.heap.size w w') : GIn w' lo v H := by
  obtain ⟨a, c, e, h1, h2, h3, h4⟩ := h
  refine ⟨a, c, e, h1, h2, fun h0 => ?_, h4.below k⟩
  obtain ⟨g, o, ea, hg, hc⟩ := h3 h0
  exact ⟨g, o, ea, Nat.lt_of_lt_of_le hg k.size, fun i hi => (World.cell?_of_block (a := ⟨g, o + i, none⟩) (k.block g hg)).trans (hc i hi)⟩
theorem GIn.shape {w : World} {lo : Nat} {v : Value} {H : List Hd} (h : GIn w lo v H) : ∃ a c, v = .slice a H.length c := by
  obtain ⟨a, c, e, _⟩ := h
  exact ⟨a, c, e⟩
theorem GIn.lower {w : World} {lo lo' : Nat} {v : Value} {H : List Hd} (h : GIn w lo v H) (k : lo' ≤ lo) : GIn w lo' v H := by
  obtain ⟨a, c, e, h1, h2, h3, h4⟩ := h
  exact ⟨a, c, e, h1, h2, h3, h4.lower k⟩
theorem GIn.nil (w : World) (lo : Nat) (a : Option Addr) (c : Nat) (hc : c ≤ maxLen) : GIn w lo (.slice a 0 c) [] := ⟨a, c, rfl, Nat.zero_le _, hc, fun h => by simp at h, HdsOk.nil w lo⟩
theorem GRow.src {w : World} {lo base : Nat} {v : Value} {H : List Hd} (h : GRow w lo base v H) : GIn w lo v H := by
  have h' := h
  rcases h.1.2 with ⟨rfl, h0⟩ | ⟨g, cap, cur, rfl, _, hg, hnc, hm, _⟩
  · obtain rfl : H = [] := List.length_eq_zero_iff.1 h0
    exact GIn.nil _ _ _ _ (Nat.zero_le _)
  · exact ⟨_, cap, rfl, hnc, hm, fun _ => ⟨g, 0, rfl, (Array.getElem?_eq_some_iff.1 hg).1, fun i hi => by rw [Nat.zero_add]; exact h'.at hi⟩, h.2⟩
/-- A piece of a row of rows. -/
theorem GIn.piece {w : World} {lo g o n c : Nat} {H : List Hd} (h : GIn w lo (.slice (some ⟨g, o, none⟩) n c) H) {i m cm : Nat} {ad : Option Addr} (hm : i + m ≤ H.length) (hcm : m ≤ cm) (hcc : cm ≤ maxLen) (ha : 0 < m → ad = some ⟨g, o + i, none⟩) : GIn w lo (.slice ad m cm) ((H.drop i).take m) := by
  obtain ⟨a, c', e, h1, h2, h3, h4⟩ := h
  injection e with e1 e2 e3
  subst e1 e2 e3
  have hl : ((H.drop i).take m).length = m := by rw [List.length_take, List.length_drop]; omega
  refine ⟨ad, cm, by rw [hl], by rw [hl]; exact hcm, hcc, fun h0 => ?_, (h4.drop i).take m⟩
  rw [hl] at h0
  obtain ⟨g', o', ea, hg, hc⟩ := h3 (by omega)
  injection ea with ea
  injection ea with ea eo
  subst ea eo
  refine ⟨g, o + i, ha h0, hg, fun j hj => ?_⟩
  rw [hl] at hj
  have := hc (i + j) (by omega)
  rw [Nat.add_assoc, this]
  simp
theorem one_hds (H : List Hd) : ∀ u ∈ H.map hdV, u.oneCell' = true := by
  intro u hu
  obtain ⟨x, _, rfl⟩ := List.mem_map.1 hu
  rfl
theorem infoHds : (Tryd.prog.info? 49).map (fun i => (i.zero, i.size, i.bytes)) = some (some (.slice none 0 0), 1, 24) := by kernel_rfl
theorem GRow.grown {w w' : World} {lo base : Nat} {v v' : Value} {H K : List Hd} (h : GRow w lo base v H) (k : HdsOk w lo K) (ho : w'.ownsRow base 49 1 v' (H.length + K.length) (H.map hdV ++ K.map hdV)) (hg : w.grownBy w' v.ownBlock) : GRow w' lo base v' (H ++ K) := by
  refine ⟨by rw [List.length_append, List.map_append]; exact ho, ?_⟩
  have hk := h.2.append k
  rcases h.1.2 with ⟨rfl, h0⟩ | ⟨g, cap, cur, rfl, _, hgg, _⟩
  · exact fun x hx => (hk x hx).kept hg (.inr (by simp [Value.ownBlock]))
  · exact hk.but hgg (by decide) hg
/-- Rows that lie anywhere, appended to a row of rows of the call's own. -/
theorem wp_append_hds {o : Oper} {a : Act} {w : World} {K : Act → World → Prop} {Q : Exit → Act → World → Prop} (s x : Operand)
    (hop : o.op = Op.call { callee := Callee.builtin Builtin.append, args := #[s, x], argTypes := #[27, 27] })
    (lo base : Nat) (v : Value) (S : List Hd) (hs : a.eval s = v) (hown : GRow w lo base v S)
    (u : Value) (H : List Hd) (hx : a.eval x = u) (hr : GIn w lo u H) (hnr : S.length + H.length ≤ 100000) (hb : base ≤ w.heap.size)
    (hK : ∀ v' w', GRow w' lo base v' (S ++ H) → w.grownBy w' v.ownBlock → K (a.put o.dst v') w') :
    Oper.wp Tryd.prog o a w K Q := by
  obtain ⟨ib, hi, hz0, hz1, hz2⟩ := info_parts infoHds
  obtain ⟨ua, uc, e, _, hum, hh, hok⟩ := hr
  subst e
  cases ua with
  | none =>
    have h0 : H = [] := by
      by_cases h : 0 < H.length
      · obtain ⟨_, _, e, _⟩ := hh h
        cases e
      · exact List.length_eq_zero_iff.1 (by omega)
    subst h0
    have hrun := run_append_none_c (P := Tryd.prog) (w := w) base 27 o.type 49 ib 1 uc Tryd.underlying27 hi v _ _ hown.1
    unfold Oper.wp
    simp only [List.length_nil] at hx
    simp [execOp, hop, resolve, invoke, builtin, hs, hx, hrun, Result.andThen]
    exact hK v w (by simpa using hown) ⟨rfl, rfl, rfl, Nat.le_refl _, fun _ _ _ => rfl⟩
  | some ad =>
    refine wp_append_own w s x 27 hop base 49 ib (.slice none 0 0) 1 24 Tryd.underlying27 hi hz0 hz1 hz2 rfl (by decide) v S.length (S.map hdV) hs hown.1 ad H.length uc (H.map hdV) hx (by simp) (fun j y hj => ?_) (one_hds H) (by unfold maxLen; omega) (by omega) hb (fun v' w' h1 h2 h3 => hK v' w' (hown.grown hok h1 h2) h2)
    have hjl : j < H.length := by
      have := (List.getElem?_eq_some_iff.1 hj).1
      simpa using this
    obtain ⟨g, o', e, _, hC⟩ := hh (by omega)
    obtain rfl := Option.some.inj e
    rw [Addr.add_mid, hC j hjl]
    rw [map_hd hjl] at hj
    exact hj
theorem wpList_append_hds {ops : Array Oper} {rest : List Oper} {o : Oper} {a : Act} {w : World} {Q : Exit → Act → World → Prop} (hgd : o.guard = none) (s x : Operand)
    (hop : o.op = Op.call { callee := Callee.builtin Builtin.append, args := #[s, x], argTypes := #[27, 27] })
    (lo base : Nat) (v : Value) (S : List Hd) (hs : a.eval s = v) (hown : GRow w lo base v S)
    (u : Value) (H : List Hd) (hx : a.eval x = u) (hr : GIn w lo u H) (hnr : S.length + H.length ≤ 100000) (hb : base ≤ w.heap.size)
    (hK : ∀ v' w', GRow w' lo base v' (S ++ H) → w.grownBy w' v.ownBlock → wpList Tryd.prog ops Q rest (a.put o.dst v') w') :
    wpList Tryd.prog ops Q (o :: rest) a w :=
  wpList_plain hgd fun _ hK' => wp_append_hds s x hop lo base v S hs hown u H hx hr hnr hb fun v' w' h1 h2 => hK' _ _ (hK v' w' h1 h2)
/-- One row, laid in a row of one. -/
theorem GIn.one {w : World} {lo : Nat} {x : Hd} (h : CRow w lo (hdV x) x.R) (n : Nat) (hn : n = w.heap.size) : GIn (w.alloc (.cells #[hdV x] 49)) lo (.slice (some ⟨n, 0, none⟩) 1 1) [x] := by
  subst hn
  refine ⟨_, 1, rfl, Nat.le_refl _, by decide, fun _ => ⟨_, 0, rfl, by simp, fun i hi => ?_⟩, HdsOk.one (h.below ((Below.refl _ _).alloc (Nat.le_refl _) _))⟩
  obtain rfl : i = 0 := by simpa using hi
  simp
theorem GRow.empty (w : World) (lo base : Nat) (h : base ≤ w.heap.size) : GRow (w.alloc (.cells #[] 49)) lo base (.slice (some ⟨w.heap.size, 0, none⟩) 0 0) [] :=
  ⟨World.ownsRow_lit (e := 49) (base := base) (size := 1) w #[] 0 h (Nat.zero_le _) rfl, HdsOk.nil _ _⟩
/-! ### copy -/
def placeH (H : List Hd) (p : Nat) (S : List Hd) : List Hd := H.take p ++ (S ++ H.drop (p + S.length))
theorem len_placeH {H S : List Hd} {p : Nat} (h : p + S.length ≤ H.length) : (placeH H p S).length = H.length := by
  unfold placeH
  rw [List.length_append, List.length_append, List.length_take, List.length_drop]
  omega
theorem placeH_nil (H : List Hd) (p : Nat) : placeH H p [] = H := by simp [placeH]
theorem HdsOk.place {w : World} {lo p : Nat} {H S : List Hd} (h : HdsOk w lo H) (k : HdsOk w lo S) : HdsOk w lo (placeH H p S) := (h.take p).append (k.append (h.drop _))
theorem GRow.over {w : World} {lo base g n c : Nat} {H : List Hd} (h : GRow w lo base (.slice (some ⟨g, 0, none⟩) n c) H) (hn : n = H.length) {p : Nat} {S : List Hd} (hS : HdsOk w lo S) (hp : p + S.length ≤ H.length) :
    ∃ cur : Array Value, w.heap[g]? = some (.cells cur 49 (0, 0)) ∧ p + (S.map hdV).length ≤ cur.size ∧ GRow (w.setRow g (cur.toList.take p ++ (S.map hdV) ++ cur.toList.drop (p + (S.map hdV).length)).toArray) lo base (.slice (some ⟨g, 0, none⟩) n c) (placeH H p S) := by
  subst hn
  have h' := h
  obtain ⟨⟨h1, h2⟩, h3⟩ := h
  rcases h2 with ⟨e, _⟩ | ⟨g', cap, cur, e, hb, hg, hnc, hm, hs, ht⟩
  · cases e
  · injection e with e1 e2 e3
    injection e1 with e1
    injection e1 with e1
    subst e1 e3
    have hl : (S.map hdV).length = S.length := List.length_map ..
    have hsz : H.length ≤ cur.size := by rw [hs]; omega
    refine ⟨cur, hg, by omega, ⟨by rw [len_placeH hp, List.length_map, len_placeH hp, Nat.mul_one], .inr ⟨g, c, _, by rw [len_placeH hp], hb, setRow_heap w g cur _ _ _ hg, by rw [len_placeH hp]; exact hnc, hm, ?_, ?_⟩⟩, (h3.place hS).but hg (by decide) (But.setRow w g _)⟩
    · simp only [List.append_assoc, List.size_toArray, List.length_append, List.length_take, List.length_drop, Array.length_toList]
      omega
    · rw [Nat.mul_one] at ht
      rw [len_placeH hp, placeH, List.map_append, List.map_append, List.map_take, List.map_drop, ← ht, Nat.mul_one, List.append_assoc, List.toList_toArray]
      have := take_over cur.toList (S.map hdV) (o := p) (m := H.length) (by omega) (by rw [Array.length_toList]; exact hsz)
      rw [this, hl]
theorem wpList_copy_hds {ops : Array Oper} {rest : List Oper} {o : Oper} {a : Act} {w : World} {Q : Exit → Act → World → Prop} (hgd : o.guard = none) (d s : Operand)
    (hop : o.op = Op.call { callee := Callee.builtin Builtin.copy, args := #[d, s], argTypes := #[27, 27] })
    (lo base g n c : Nat) (H : List Hd) (hown : GRow w lo base (.slice (some ⟨g, 0, none⟩) n c) H) (hn : n = H.length)
    (u : Value) (S : List Hd) (hs : a.eval s = u) (hr : GIn w lo u S)
    (p m cm : Nat) (ad : Option Addr) (hd : a.eval d = .slice ad m cm) (hp : p + S.length ≤ H.length) (hm : S.length ≤ m) (hA : 0 < m → ad = some ⟨g, p, none⟩)
    (hK : ∀ w', GRow w' lo base (.slice (some ⟨g, 0, none⟩) n c) (placeH H p S) → But g w w' → wpList Tryd.prog ops Q rest (a.put o.dst (goInt S.length)) w') :
    wpList Tryd.prog ops Q (o :: rest) a w := by
  refine wpList_plain hgd fun K hK' => ?_
  obtain ⟨ib, hi, hz0, hz1, hz2⟩ := info_parts infoHds
  have hsz : (Tryd.prog.info? 49).map (·.size) = some 1 := by rw [hi]; simp [hz1]
  obtain ⟨ua, uc, e, _, _, hh, hok⟩ := hr
  subst e
  by_cases h0 : S.length = 0
  · obtain rfl : S = [] := List.length_eq_zero_iff.1 h0
    have hrun := run_copy_zero (P := Tryd.prog) w 27 27 o.type 49 ad ua m cm 0 uc Tryd.underlying27 (by rw [hsz]; rfl) (by simp)
    unfold Oper.wp
    simp only [List.length_nil] at hs
    simp [execOp, hop, resolve, invoke, builtin, hs, hd, hrun, Result.andThen]
    exact hK' _ _ (hK w (by rw [placeH_nil]; exact hown) (But.refl g w))
  · obtain rfl := hA (by omega)
    obtain ⟨g2, o2, rfl, _, hC⟩ := hh (by omega)
    obtain ⟨cur, hg, hfit, hnew⟩ := hown.over hn hok hp
    have hrun := run_copy_sized (P := Tryd.prog) w 27 27 o.type 49 1 g p m cm ⟨g2, o2, none⟩ S.length uc cur _ (S.map hdV) S.length Tryd.underlying27 hsz hg (by simp [Nat.min_eq_left hm]) (by simp) (fun j y hj => by
      have hjl : j < S.length := by
        have := (List.getElem?_eq_some_iff.1 hj).1
        simpa using this
      rw [Addr.add_mid, hC j hjl]
      rw [map_hd hjl] at hj
      exact hj) hfit (one_hds S)
    unfold Oper.wp
    simp [execOp, hop, resolve, invoke, builtin, hs, hd, hrun, Result.andThen]
    exact hK' _ _ (hK _ (by simpa using hnew) (But.setRow w g _))
/-! ### cuts -/
theorem szH (w : World) : (sizeOf 49).run Tryd.prog w = .ok 1 w := by kernel_rfl
theorem elH : Tryd.prog.elem 27 = 49 := by kernel_rfl
theorem unH : Tryd.prog.underlying 27 = some (.slice (Tryd.prog.elem 27)) := by kernel_rfl
/-- s[i:], where it lies. -/
theorem hds_from (g o n c i : Nat) (hi : i ≤ n) (hc : n ≤ c) : ∃ ad, (∀ w, (Instr.sliceAt 27 (.slice (some ⟨g, o, none⟩) n c) (some (.int .i64 (i : Nat))) none none).run Tryd.prog w = .ok (.slice ad (n - i) (c - i)) w) ∧ (0 < n - i → ad = some ⟨g, o + i, none⟩) := by
  refine ⟨if c = i then some ⟨g, o, none⟩ else some ⟨g, o + i, none⟩, fun w => ?_, fun h0 => ?_⟩
  · rw [run_sliceAt_slice w 27 _ _ _ _ unH, run_slice_l (P := Tryd.prog) (w := w) (t := 27) (ht := unH) (kl := .i64) (l := (i : Int)) (h0 := by omega) (h1 := by omega), elH, szH]
    simp only [Result.andThen, sliced, Int.toNat_natCast, Nat.mul_one]
    rw [Option.map_some, Addr.add_mid]
  · rw [if_neg (by omega)]
/-- s[:i:i]. -/
theorem hds_to (ad : Option Addr) (n c i : Nat) (hi : i ≤ c) (w : World) : (Instr.sliceAt 27 (.slice ad n c) none (some (.int .i64 (i : Nat))) (some (.int .i64 (i : Nat)))).run Tryd.prog w = .ok (.slice ad i i) w := by
  rw [run_sliceAt_slice w 27 _ _ _ _ unH, run_slice_hm (P := Tryd.prog) (w := w) (t := 27) (ht := unH) (kh := .i64) (km := .i64) (h := (i : Int)) (m := (i : Int)) (h0 := by omega) (h2 := by omega) (h3 := by omega), elH, szH]
  simp only [Result.andThen, sliced, Int.toNat_natCast, Nat.sub_zero, Nat.zero_mul]
  cases ad with
  | none => simp
  | some ad =>
    obtain ⟨g, o, r⟩ := ad
    simp [Addr.add]
/-- s[i:j:j]. -/
theorem hds_cut (g o n c i j : Nat) (hij : i < j) (hj : j ≤ c) (w : World) : (Instr.sliceAt 27 (.slice (some ⟨g, o, none⟩) n c) (some (.int .i64 (i : Nat))) (some (.int .i64 (j : Nat))) (some (.int .i64 (j : Nat)))).run Tryd.prog w = .ok (.slice (some ⟨g, o + i, none⟩) (j - i) (j - i)) w := by
  rw [run_sliceAt_slice w 27 _ _ _ _ unH, run_slice_lhm (P := Tryd.prog) (w := w) (t := 27) (ht := unH) (kl := .i64) (kh := .i64) (km := .i64) (l := (i : Int)) (h := (j : Int)) (m := (j : Int)) (h0 := by omega) (h1 := by omega) (h2 := by omega) (h3 := by omega), elH, szH]
  simp only [Result.andThen, sliced, Int.toNat_natCast, Nat.mul_one]
  rw [if_neg (by omega), Option.map_some, Addr.add_mid]
/-- Nothing but what S names has turned. -/
structure Buts (S : Nat → Prop) (w w' : World) : Prop where
  os : w'.os = w.os
  tape : w'.tape = w.tape
  output : w'.output = w.output
  size : w.heap.size ≤ w'.heap.size
  block : ∀ k, k < w.heap.size → ¬ S k → w'.heap[k]? = w.heap[k]?
theorem Buts.refl (S : Nat → Prop) (w : World) : Buts S w w := ⟨rfl, rfl, rfl, Nat.le_refl _, fun _ _ _ => rfl⟩
theorem Buts.trans {S : Nat → Prop} {a b c : World} (h : Buts S a b) (k : Buts S b c) : Buts S a c :=
  ⟨k.os.trans h.os, k.tape.trans h.tape, k.output.trans h.output, Nat.le_trans h.size k.size, fun i hi hn => (k.block i (Nat.lt_of_lt_of_le hi h.size) hn).trans (h.block i hi hn)⟩
theorem Buts.of {S : Nat → Prop} {a b : World} (h : Below a.heap.size a b) : Buts S a b := ⟨h.os, h.tape, h.output, h.size, fun i hi _ => h.block i hi⟩
theorem Buts.but {S : Nat → Prop} {g : Nat} {a b : World} (h : But g a b) (hg : S g) : Buts S a b := ⟨h.os, h.tape, h.output, h.size, fun i hi hn => h.block i hi (fun e => hn (by injection e with e; rw [e]; exact hg))⟩
theorem Buts.mono {S T : Nat → Prop} {a b : World} (h : Buts S a b) (k : ∀ i, S i → T i) : Buts T a b := ⟨h.os, h.tape, h.output, h.size, fun i hi hn => h.block i hi (fun e => hn (k i e))⟩
theorem Buts.drew {S : Nat → Prop} {a b : World} (h : Buts S a b) : Buts S a b.drew := ⟨h.os, h.tape, h.output, h.size, h.block⟩
theorem Buts.below {S : Nat → Prop} {C : Nat} {a b : World} (h : Buts S a b) (hS : ∀ i, S i → C ≤ i) (hC : C ≤ a.heap.size) : Below C a b :=
  ⟨h.os, h.tape, h.output, h.size, fun i hi => h.block i (by omega) (fun e => by have := hS i e; omega)⟩
theorem HdsOk.buts {w w' : World} {lo : Nat} {H : List Hd} {S : Nat → Prop} (h : HdsOk w lo H) (k : Buts S w w') (hS : ∀ x ∈ H, ¬ S x.b) : HdsOk w' lo H := fun x hx => by
  refine ⟨(h x hx).1, ?_⟩
  rcases (h x hx).2 with ⟨e, _⟩ | ⟨g, cap, cur, e, hb, hg, rest⟩
  · cases e
  · have e' := e
    injection e' with e1 _ _
    injection e1 with e1
    injection e1 with e1
    exact .inr ⟨g, cap, cur, e, hb, (k.block g (Array.getElem?_eq_some_iff.1 hg).1 (by rw [← e1]; exact hS x hx)).trans hg, rest⟩
/-- A row that the call made, as a row of a grid. -/
theorem CRow.hd {w : World} {lo : Nat} {v : Value} {R : Cls} (h : CRow w lo v R) (h0 : 0 < R.length) : ∃ x : Hd, v = hdV x ∧ x.R = R ∧ lo ≤ x.b ∧ CRow w lo (hdV x) x.R := by
  obtain ⟨g, c, rfl, hg, _⟩ := h.here h0
  exact ⟨⟨g, c, R⟩, rfl, rfl, hg, h⟩
theorem HdsOk.lt {w : World} {lo : Nat} {H : List Hd} (h : HdsOk w lo H) {x : Hd} (hx : x ∈ H) : lo ≤ x.b ∧ x.b < w.heap.size := (h x hx).lt x.b rfl
/-- Rows that are new, each of its own. -/
def Fr (n : Nat) (F : List Hd) : Prop := (∀ x ∈ F, n ≤ x.b) ∧ (F.map (·.b)).Nodup
theorem Fr.nil (n : Nat) : Fr n [] := ⟨fun _ h => (by cases h), List.nodup_nil⟩
theorem Fr.mono {n m : Nat} {F : List Hd} (h : Fr n F) (k : m ≤ n) : Fr m F := ⟨fun x hx => Nat.le_trans k (h.1 x hx), h.2⟩
theorem Fr.snoc {n : Nat} {F : List Hd} {x : Hd} {m : Nat} (h : Fr n F) (hF : ∀ y ∈ F, y.b < m) (hx : m ≤ x.b) (hn : n ≤ m) : Fr n (F ++ [x]) := by
  refine ⟨fun y hy => ?_, ?_⟩
  · rcases List.mem_append.1 hy with hy | hy
    · exact h.1 y hy
    · rw [List.mem_singleton.1 hy]
      omega
  · rw [List.map_append, List.nodup_append]
    refine ⟨h.2, by simp, fun a ha b hb => ?_⟩
    obtain ⟨y, hy, rfl⟩ := List.mem_map.1 ha
    obtain rfl : b = x.b := by simpa using hb
    have := hF y hy
    omega
theorem set_mid {α : Type} (A B : List α) (x y : α) : (A ++ x :: B).set A.length y = A ++ [y] ++ B := by simp
theorem drop_cons {α : Type} {H : List α} {k : Nat} (h : k < H.length) : H.drop k = H[k] :: H.drop (k + 1) := List.drop_eq_getElem_cons h
/-! ### turns of what is no cells -/
theorem World.ownsRow.turn {w w' : World} {lo size n : Nat} {e : TypeId} {v : Value} {xs : List Value} {row : Option Nat} (h : w.ownsRow lo e size v n xs) (hg : w.grownBy w' row) (hr : ∀ r, row = some r → ∃ o : Obj, w.heap[r]? = some o ∧ o.isCells = false) : w'.ownsRow lo e size v n xs := by
  rcases h.2 with ⟨e1, e2⟩ | ⟨g, cap, cur, e, hb, hgg, rest⟩
  · exact ⟨h.1, .inl ⟨e1, e2⟩⟩
  · refine ⟨h.1, .inr ⟨g, cap, cur, e, hb, (hg.block g (Array.getElem?_eq_some_iff.1 hgg).1 ?_).trans hgg, rest⟩⟩
    intro e
    obtain ⟨o, ho, hc⟩ := hr g e.symm
    rw [hgg] at ho
    injection ho with ho
    rw [← ho] at hc
    cases hc
theorem HdsOk.turn {w w' : World} {lo : Nat} {H : List Hd} {row : Option Nat} (h : HdsOk w lo H) (hg : w.grownBy w' row) (hr : ∀ r, row = some r → ∃ o : Obj, w.heap[r]? = some o ∧ o.isCells = false) : HdsOk w' lo H := fun x hx => World.ownsRow.turn (h x hx) hg hr
theorem GRow.turn {w w' : World} {lo base : Nat} {v : Value} {H : List Hd} {row : Option Nat} (h : GRow w lo base v H) (hg : w.grownBy w' row) (hr : ∀ r, row = some r → ∃ o : Obj, w.heap[r]? = some o ∧ o.isCells = false) : GRow w' lo base v H := ⟨World.ownsRow.turn h.1 hg hr, h.2.turn hg hr⟩
theorem Buts.turn {S : Nat → Prop} {B : Nat} {w W W' : World} {row : Option Nat} (h : Buts S w W) (hg : W.grownBy W' row) (hB : w.heap.size ≤ B) (hr : ∀ r, row = some r → B ≤ r ∧ ∃ o : Obj, W.heap[r]? = some o ∧ o.isCells = false) : Buts S w W' := by
  refine ⟨hg.os.trans h.os, hg.tape.trans h.tape, hg.output.trans h.output, Nat.le_trans h.size hg.size, fun k hk hn => ?_⟩
  refine (hg.block k (Nat.lt_of_lt_of_le hk h.size) ?_).trans (h.block k hk hn)
  intro e
  have := (hr k e.symm).1
  omega
end Go.Proofs.YtlaafmjiiiaceaaDoor.Lab
