/- The project's rows: laws for make, copy and cuts of rows of cells. The project's rows: within, half, rightOf, Blank, anew, isWide. -/
import Derived.Test.YtnefamgjlhdffaaRoRef
namespace Go.Proofs.Ytnefamgjlhdffaa.Lab
open Go Go.RowKit

/-- Cells laid over a row from a place on. -/
def place (R : Cls) (p : Nat) (S : Cls) : Cls := R.take p ++ (S ++ R.drop (p + S.length))
theorem len_place {R S : Cls} {p : Nat} (h : p + S.length ≤ R.length) : (place R p S).length = R.length := by
  unfold place
  rw [List.length_append, List.length_append, List.length_take, List.length_drop]
  omega
theorem place_nil (R : Cls) (p : Nat) : place R p [] = R := by simp [place]
theorem place_all (R S : Cls) (h : S.length = R.length) : place R 0 S = S := by
  unfold place
  rw [Nat.zero_add, h, List.take_zero, List.drop_length, List.append_nil, List.nil_append]
theorem gc_place {R S : Cls} {p i : Nat} (h : p + S.length ≤ R.length) : gc (place R p S) i = if p ≤ i ∧ i < p + S.length then gc S (i - p) else gc R i := by
  have hl : (R.take p).length = p := by rw [List.length_take]; omega
  unfold place
  by_cases h1 : i < p
  · rw [if_neg (by omega), gc_left (by omega), gc_take h1]
  · rw [gc_right (by omega), hl]
    by_cases h2 : i < p + S.length
    · rw [if_pos (by omega), gc_left (by omega)]
    · rw [if_neg (by omega), gc_right (by omega), gc_drop]
      congr 1
      omega
theorem flat14_take : ∀ (R : Cls) (p : Nat), flat14 (R.take p) = (flat14 R).take (p * 14)
  | [], p => by simp [flat14]
  | c :: R, 0 => by simp [flat14]
  | c :: R, p + 1 => by
    show cells14 c ++ flat14 (R.take p) = (cells14 c ++ flat14 R).take ((p + 1) * 14)
    rw [flat14_take R p, List.take_append]
    have e : (cells14 c).length = 14 := rfl
    rw [e, List.take_of_length_le (show (cells14 c).length ≤ (p + 1) * 14 by rw [e]; omega), show (p + 1) * 14 - 14 = p * 14 by omega]
theorem flat14_drop : ∀ (R : Cls) (p : Nat), flat14 (R.drop p) = (flat14 R).drop (p * 14)
  | [], p => by simp [flat14]
  | c :: R, 0 => by simp [flat14]
  | c :: R, p + 1 => by
    show flat14 (R.drop p) = (cells14 c ++ flat14 R).drop ((p + 1) * 14)
    rw [flat14_drop R p, List.drop_append]
    have e : (cells14 c).length = 14 := rfl
    rw [e, List.drop_of_length_le (show (cells14 c).length ≤ (p + 1) * 14 by rw [e]; omega), show (p + 1) * 14 - 14 = p * 14 by omega, List.nil_append]
theorem flat14_place (R : Cls) (p : Nat) (S : Cls) : flat14 (place R p S) = (flat14 R).take (p * 14) ++ (flat14 S ++ (flat14 R).drop (p * 14 + (flat14 S).length)) := by
  unfold place
  rw [flat14_append, flat14_append, flat14_take, flat14_drop, flat14_len, Nat.add_mul]
theorem take_over {α : Type} (L cs : List α) {o m : Nat} (h : o + cs.length ≤ m) (hm : m ≤ L.length) : (L.take o ++ (cs ++ L.drop (o + cs.length))).take m = (L.take m).take o ++ (cs ++ (L.take m).drop (o + cs.length)) := by
  have hl : (L.take o).length = o := by rw [List.length_take]; omega
  rw [List.take_append, List.take_append, hl, List.take_take, List.take_take, Nat.min_eq_right (show o ≤ m by omega), Nat.min_eq_left (show o ≤ m by omega), List.take_of_length_le (show cs.length ≤ m - o by omega), List.take_drop]
  congr 3
  congr 1
  omega
/-- What a run of cells in the midst of an own row makes of it. -/
theorem CRow.over {w : World} {lo g n c : Nat} {R : Cls} (h : CRow w lo (.slice (some ⟨g, 0, none⟩) n c) R) (hn : n = R.length) {p : Nat} {S : Cls} (hp : p + S.length ≤ R.length) :
    ∃ cur : Array Value, w.heap[g]? = some (.cells cur 47 (0, 0)) ∧ p * 14 + (flat14 S).length ≤ cur.size ∧ CRow (w.setRow g (cur.toList.take (p * 14) ++ (flat14 S) ++ cur.toList.drop (p * 14 + (flat14 S).length)).toArray) lo (.slice (some ⟨g, 0, none⟩) n c) (place R p S) := by
  subst hn
  obtain ⟨h1, h2⟩ := h
  rcases h2 with ⟨e, _⟩ | ⟨g', cap, cur, e, hb, hg, hnc, hm, hs, ht⟩
  · cases e
  · injection e with e1 e2 e3
    injection e1 with e1
    injection e1 with e1
    subst e1 e3
    have hfl := flat14_len S
    have hfit : p * 14 + (flat14 S).length ≤ R.length * 14 := by rw [hfl, ← Nat.add_mul]; exact Nat.mul_le_mul_right 14 hp
    have hsz : R.length * 14 ≤ cur.size := by rw [hs]; exact Nat.mul_le_mul_right 14 hnc
    refine ⟨cur, hg, by omega, ⟨by rw [len_place hp, flat14_len, len_place hp], .inr ⟨g, c, _, by rw [len_place hp], hb, setRow_heap w g cur _ _ _ hg, by rw [len_place hp]; exact hnc, hm, ?_, ?_⟩⟩⟩
    · simp only [List.append_assoc, List.size_toArray, List.length_append, List.length_take, List.length_drop, Array.length_toList]
      omega
    · rw [len_place hp, flat14_place, ← ht, List.append_assoc, List.toList_toArray]
      exact take_over cur.toList (flat14 S) hfit (by rw [Array.length_toList]; exact hsz)
theorem But.setRow (w : World) (g : Nat) (cs : Array Value) : But g w (w.setRow g cs) :=
  ⟨rfl, rfl, rfl, by simp [World.setRow], fun k _ hk => setRow_other w g k cs (fun e => hk (by rw [e]))⟩
section
variable {P : Program}
theorem run_copy_sized (w : World) (dT sT ty elem : TypeId) (sz g o dLen dCap : Nat) (a : Addr) (sLen sCap : Nat) (cur : Array Value) (t : TypeId) (cs : List Value) (m : Nat)
    (hu : P.underlying dT = some (.slice elem)) (hs : (P.info? elem).map (·.size) = some sz)
    (hg : w.heap[g]? = some (.cells cur t (0, 0))) (hm : m = Nat.min sLen dLen) (hn : cs.length = m * sz)
    (hsrc : ∀ j v, cs[j]? = some v → w.cell? (a.add j) = some v) (hfit : o + cs.length ≤ cur.size) (h1 : ∀ v ∈ cs, v.oneCell' = true) :
    (Builtin.copy_ #[dT, sT] ty #[.slice (some ⟨g, o, none⟩) dLen dCap, .slice (some a) sLen sCap]).run P w =
      .ok (goInt m) (w.setRow g (cur.toList.take o ++ cs ++ cur.toList.drop (o + cs.length)).toArray) := by
  have hl := run_loadCells_list (P := P) w a cs hsrc
  have hst := run_storeCells_at P g o t cs 0 cur w hg (by simpa using hfit) h1
  cases hq : P.info? elem with
  | none => simp [hq] at hs
  | some i =>
    have hi : i.size = sz := by simpa [hq] using hs
    simp [Builtin.copy_, run_underlying hu, Builtin.lenOf, Builtin.firstCells, sizeOf, typeInfo, hq, hi, ← hm, ← hn, hl, hst]
theorem run_copy_zero (w : World) (dT sT ty elem : TypeId) (dp sp : Option Addr) (dLen dCap sLen sCap : Nat) (hu : P.underlying dT = some (.slice elem)) (hs : ((P.info? elem).map (·.size)).isSome = true) (h0 : Nat.min sLen dLen = 0) :
    (Builtin.copy_ #[dT, sT] ty #[.slice dp dLen dCap, .slice sp sLen sCap]).run P w = .ok (goInt 0) w := by
  cases hq : P.info? elem with
  | none => simp [hq] at hs
  | some i =>
    cases dp <;> cases sp <;> simp [Builtin.copy_, run_underlying hu, Builtin.lenOf, Builtin.firstCells, sizeOf, typeInfo, hq, h0, storeCells, loadCells, loadCellsFrom]
end
/-- copy(dst, src): cells that lie anywhere, laid into a row of the call's own. -/
theorem wpList_copy_cells {ops : Array Oper} {rest : List Oper} {o : Oper} {a : Act} {w : World} {Q : Exit → Act → World → Prop} (hgd : o.guard = none) (d s : Operand)
    (hop : o.op = Op.call { callee := Callee.builtin Builtin.copy, args := #[d, s], argTypes := #[38, 38] })
    (lo g n c : Nat) (R : Cls) (hown : CRow w lo (.slice (some ⟨g, 0, none⟩) n c) R) (hn : n = R.length)
    (u : Value) (S : Cls) (hs : a.eval s = u) (hr : RowIn w u S)
    (p m cm : Nat) (ad : Option Addr) (hd : a.eval d = .slice ad m cm) (hp : p + S.length ≤ R.length) (hm : S.length ≤ m) (hA : 0 < m → ad = some ⟨g, p * 14, none⟩)
    (hK : ∀ w', CRow w' lo (.slice (some ⟨g, 0, none⟩) n c) (place R p S) → But g w w' → wpList Try.prog ops Q rest (a.put o.dst (goInt S.length)) w') :
    wpList Try.prog ops Q (o :: rest) a w := by
  refine wpList_plain hgd fun K hK' => ?_
  obtain ⟨ib, hi, hz0, hz1, hz2⟩ := info_parts infoCell
  have hsz : (Try.prog.info? 47).map (·.size) = some 14 := by rw [hi]; simp [hz1]
  obtain ⟨ua, uc, e, _, _, hh⟩ := hr
  subst e
  by_cases h0 : S.length = 0
  · obtain rfl : S = [] := List.length_eq_zero_iff.1 h0
    have hrun := run_copy_zero (P := Try.prog) w 38 38 o.type 47 ad ua m cm 0 uc Try.underlying38 (by rw [hsz]; rfl) (by simp)
    unfold Oper.wp
    simp only [List.length_nil] at hs
    simp [execOp, hop, resolve, invoke, builtin, hs, hd, hrun, Result.andThen]
    exact hK' _ _ (hK w (by rw [place_nil]; exact hown) (But.refl g w))
  · obtain rfl := hA (by omega)
    obtain ⟨g2, o2, rfl, _, hC⟩ := hh (by omega)
    obtain ⟨cur, hg, hfit, hnew⟩ := hown.over hn hp
    have hrun := run_copy_sized (P := Try.prog) w 38 38 o.type 47 14 g (p * 14) m cm ⟨g2, o2, none⟩ S.length uc cur _ (flat14 S) S.length Try.underlying38 hsz hg (by simp [Nat.min_eq_left hm]) (flat14_len S) (fun j y hj => by rw [Addr.add_mid]; exact RowIn.get hC j y hj) hfit (flat14_one S)
    unfold Oper.wp
    simp [execOp, hop, resolve, invoke, builtin, hs, hd, hrun, Result.andThen]
    exact hK' _ _ (hK _ (by simpa using hnew) (But.setRow w g _))
theorem made_cells (n : Nat) : (madeCells (Value.cells (.agg #[.int .i32 0, .int .i32 0, .int .i32 0, .int .u8 0, .int .u8 0, .int .u8 0, .int .u8 0, .int .u8 0, .int .u8 0, .int .u8 0, .int .u8 0, .int .u8 0, .int .u16 0, .int .u8 0])) (n * 14)).toList = flat14 (List.replicate n Cel.z) := by
  refine List.ext_getElem? fun j => ?_
  by_cases hj : j < n * 14
  · have e : j = j / 14 * 14 + j % 14 := by omega
    have hi : j / 14 < n := by omega
    have h14 : j % 14 < 14 := Nat.mod_lt _ (by decide)
    have hr : (flat14 (List.replicate n Cel.z))[j]? = (cells14 Cel.z)[j % 14]? := by
      conv => lhs; rw [e]
      rw [flat14_get _ _ _ (by rw [List.length_replicate]; exact hi) h14, gc_rep hi]
    rw [hr]
    simp only [madeCells, Value.cells, Array.toList_map, Array.toList_range, List.getElem?_map, List.getElem?_range hj, Option.map_some]
    obtain ⟨k, hk⟩ : ∃ k, k = j % 14 := ⟨_, rfl⟩
    have hs : (#[Value.int .i32 0, .int .i32 0, .int .i32 0, .int .u8 0, .int .u8 0, .int .u8 0, .int .u8 0, .int .u8 0, .int .u8 0, .int .u8 0, .int .u8 0, .int .u8 0, .int .u16 0, .int .u8 0] : Array Value).size = 14 := rfl
    rw [hs, ← hk]
    rw [← hk] at h14
    match k, h14 with
    | 0, _ => rfl
    | 1, _ => rfl
    | 2, _ => rfl
    | 3, _ => rfl
    | 4, _ => rfl
    | 5, _ => rfl
    | 6, _ => rfl
    | 7, _ => rfl
    | 8, _ => rfl
    | 9, _ => rfl
    | 10, _ => rfl
    | 11, _ => rfl
    | 12, _ => rfl
    | 13, _ => rfl
  · rw [List.getElem?_eq_none (by simp [madeCells]; omega), List.getElem?_eq_none (by rw [flat14_len, List.length_replicate]; omega)]
/-- make([]Cell, n). -/
theorem wpList_make_cells {ops : Array Oper} {rest : List Oper} {o : Oper} {a : Act} {w : World} {Q : Exit → Act → World → Prop} (hgd : o.guard = none) (l c : Operand)
    (hop : o.op = Op.makeSlice 38 l c) (n : Nat) (hl : a.eval l = .int .i64 (n : Nat)) (hc : a.eval c = .int .i64 (n : Nat)) (hn : n ≤ 10000)
    (hK : ∀ g w', CRow w' w.heap.size (.slice (some ⟨g, 0, none⟩) n n) (List.replicate n Cel.z) → Below w.heap.size w w' → w.heap.size ≤ g → g < w'.heap.size → wpList Try.prog ops Q rest (a.put o.dst (.slice (some ⟨g, 0, none⟩) n n)) w') :
    wpList Try.prog ops Q (o :: rest) a w := by
  refine wpList_plain hgd fun K hK' => ?_
  obtain ⟨ib, hi, hz0, hz1, hz2⟩ := info_parts infoCell
  obtain ⟨w', hrun, hown, hgr⟩ := run_make_full (P := Try.prog) w w.heap.size 38 47 ib _ 14 Try.underlying38 hi hz0 hz1 .i64 .i64 n (by rw [hz2]; omega) (by unfold maxLen; omega) (Nat.le_refl _)
  unfold Oper.wp
  simp [execOp, hop, hl, hc, hrun, Result.andThen]
  refine hK' _ _ (hK _ w' ?_ ⟨hgr.os, hgr.tape, hgr.output, hgr.size, fun k hk => hgr.block k hk (by simp)⟩ (Nat.le_refl _) ?_)
  · unfold CRow
    rw [List.length_replicate, ← made_cells]
    exact hown
  · exact (hown.lt _ rfl).2
/-- Cuts of a row. -/
theorem szC (w : World) : (sizeOf 47).run Try.prog w = .ok 14 w := by kernel_rfl
theorem elC : Try.prog.elem 38 = 47 := by kernel_rfl
theorem unC : Try.prog.underlying 38 = some (.slice (Try.prog.elem 38)) := by kernel_rfl
theorem cut_rows {w : World} {g n c : Nat} {R : Cls} {i j : Nat} (hij : i ≤ j) (hj : j ≤ R.length) (h : RowIn w (.slice (some ⟨g, 0, none⟩) n c) R) :
    RowIn w (.slice (if c = i then some ⟨g, 0, none⟩ else some ⟨g, i * 14, none⟩) (j - i) (c - i)) ((R.drop i).take (j - i)) := by
  obtain ⟨a, c', e, hc, hm, hh⟩ := h
  injection e with e1 e2 e3
  subst e1 e2 e3
  have hl : ((R.drop i).take (j - i)).length = j - i := by rw [List.length_take, List.length_drop]; omega
  refine ⟨_, _, by rw [hl], by rw [hl]; omega, by rw [hl]; omega, fun h0 => ?_⟩
  rw [hl] at h0
  rw [if_neg (by omega)]
  obtain ⟨g', o', ea, hg, hC⟩ := hh (by omega)
  injection ea with ea
  injection ea with ea eo
  subst ea eo
  refine ⟨g, i * 14, rfl, hg, fun k hk => ?_⟩
  rw [hl] at hk
  have := hC (i + k) (by omega)
  rw [gc_take hk, gc_drop]
  rw [Nat.zero_add, Nat.add_mul] at this
  exact this
/-- r[i:j]: where it lies, and what it reads. -/
theorem cut_both (g n c i j : Nat) (hij : i ≤ j) (hj : j ≤ c) : ∃ ad m cm, m = j - i ∧ cm = c - i ∧ (∀ w, (Instr.sliceAt 38 (.slice (some ⟨g, 0, none⟩) n c) (some (.int .i64 (i : Nat))) (some (.int .i64 (j : Nat))) none).run Try.prog w = .ok (.slice ad m cm) w) ∧
    (0 < m → ad = some ⟨g, i * 14, none⟩) ∧ ∀ w R, RowIn w (.slice (some ⟨g, 0, none⟩) n c) R → j ≤ R.length → RowIn w (.slice ad m cm) ((R.drop i).take (j - i)) := by
  refine ⟨if c = i then some ⟨g, 0, none⟩ else some ⟨g, i * 14, none⟩, j - i, c - i, rfl, rfl, fun w => ?_, fun h0 => ?_, fun w R h hR => cut_rows hij hR h⟩
  · rw [run_sliceAt_slice w 38 _ _ _ _ unC, run_slice_lh (P := Try.prog) (w := w) (t := 38) (ht := unC) (kl := .i64) (kh := .i64) (l := (i : Int)) (h := (j : Int)) (h0 := by omega) (h1 := by omega) (h2 := by omega), elC, szC]
    simp only [Result.andThen, sliced, Int.toNat_natCast]
    rw [Option.map_some, Addr.add_mid, Nat.zero_add]
  · rw [if_neg (by omega)]
/-- r[i:]. -/
theorem cut_from (g n c i : Nat) (hi : i ≤ n) (hc : n ≤ c) : ∃ ad m cm, m = n - i ∧ cm = c - i ∧ (∀ w, (Instr.sliceAt 38 (.slice (some ⟨g, 0, none⟩) n c) (some (.int .i64 (i : Nat))) none none).run Try.prog w = .ok (.slice ad m cm) w) ∧
    (0 < m → ad = some ⟨g, i * 14, none⟩) ∧ ∀ w R, RowIn w (.slice (some ⟨g, 0, none⟩) n c) R → RowIn w (.slice ad m cm) (R.drop i) := by
  refine ⟨if c = i then some ⟨g, 0, none⟩ else some ⟨g, i * 14, none⟩, n - i, c - i, rfl, rfl, fun w => ?_, fun h0 => ?_, fun w R h => ?_⟩
  · rw [run_sliceAt_slice w 38 _ _ _ _ unC, run_slice_l (P := Try.prog) (w := w) (t := 38) (ht := unC) (kl := .i64) (l := (i : Int)) (h0 := by omega) (h1 := by omega), elC, szC]
    simp only [Result.andThen, sliced, Int.toNat_natCast]
    rw [Option.map_some, Addr.add_mid, Nat.zero_add]
  · rw [if_neg (by omega)]
  · have hn : n = R.length := by obtain ⟨_, _, e, _⟩ := h; injection e
    subst hn
    have := cut_rows hi (Nat.le_refl _) h
    rwa [List.take_of_length_le (by rw [List.length_drop]; exact Nat.le_refl _)] at this
/-- r[:j]. -/
theorem cut_to (g n c j : Nat) (hj : j ≤ c) : (∀ w, (Instr.sliceAt 38 (.slice (some ⟨g, 0, none⟩) n c) none (some (.int .i64 (j : Nat))) none).run Try.prog w = .ok (.slice (some ⟨g, 0, none⟩) j c) w) ∧
    ∀ w R, RowIn w (.slice (some ⟨g, 0, none⟩) n c) R → j ≤ R.length → RowIn w (.slice (some ⟨g, 0, none⟩) j c) (R.take j) := by
  refine ⟨fun w => ?_, fun w R h hR => ?_⟩
  · rw [run_sliceAt_slice w 38 _ _ _ _ unC, run_slice_h (P := Try.prog) (w := w) (t := 38) (ht := unC) (kh := .i64) (h := (j : Int)) (h0 := by omega) (h2 := by omega), elC, szC]
    simp only [Result.andThen, sliced, Int.toNat_natCast, Nat.sub_zero, Nat.zero_mul]
    rw [Option.map_some, Addr.add_mid, Nat.zero_add]
    simp
  · have := cut_rows (Nat.zero_le j) hR h
    simp only [Nat.sub_zero, Nat.zero_mul, List.drop_zero] at this
    rwa [ite_self] at this

theorem within_any (w : World) (n : Int) (most : Nat) : Calls Try.prog 59 #[.int .i64 n, .int .i64 (most : Nat)] w fun e w' => e = .returned (.int .i64 (inN n most : Nat)) ∧ w = w' := by
  by_cases h0 : 0 < n
  · have g1 : ¬ n ≤ 0 := by omega
    by_cases h1 : (most : Int) < n
    · have g2 : ¬ n ≤ (most : Int) := by omega
      have HE := Lib.hid (show ((inN n most : Nat) : Int) = (most : Int) by unfold inN; omega)
      go_enter Try.func59, Try.ntmps59
      go_wp2
      go_ret
      exact ⟨by rw [HE.out]; rfl, rfl⟩
    · have g2 : n ≤ (most : Int) := by omega
      have HE := Lib.hid (show ((inN n most : Nat) : Int) = n by unfold inN; omega)
      go_enter Try.func59, Try.ntmps59
      go_wp2
      go_ret
      exact ⟨by rw [HE.out]; rfl, rfl⟩
  · have g2 : ¬ (most : Int) < 0 := by omega
    have g3 : (0 : Int) ≤ (most : Int) := by omega
    have HE := Lib.hid (show ((inN n most : Nat) : Int) = 0 by unfold inN; omega)
    by_cases hz : n = 0
    · subst hz
      go_enter Try.func59, Try.ntmps59
      go_wp2
      go_ret
      exact ⟨by rw [HE.out]; rfl, rfl⟩
    · have g1 : n ≤ 0 := by omega
      have g4 : ¬ 0 ≤ n := by omega
      clear h0 hz
      go_enter Try.func59, Try.ntmps59
      go_wp2
      go_ret
      exact ⟨by rw [HE.out]; rfl, rfl⟩
end Go.Proofs.Ytnefamgjlhdffaa.Lab
