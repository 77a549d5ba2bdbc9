/- Write: parameters as bytes. -/
import Derived.Test.YtlmhnebgkginkaaDoorPaSame
import Derived.Laws.IdiomStrings
import Derived.Lib.SmallJoins
import Derived.Lib.ItoaLen
namespace Go.Proofs.YtlmhnebgkginkaaDoor.Lab
open Go.RowKit

def joinT {α : Type} (sep : UInt8) (f : α → List UInt8) : List α → List UInt8
  | [] => []
  | x :: t => f x ++ t.flatMap fun y => sep :: f y
theorem joinT_snoc {α : Type} (sep : UInt8) (f : α → List UInt8) (l : List α) (x : α) : joinT sep f (l ++ [x]) = joinT sep f l ++ (if l.length = 0 then [] else [sep]) ++ f x := by
  cases l with
  | nil => simp [joinT]
  | cons y t => simp [joinT, List.flatMap_append]
def numT (x : Int) : List UInt8 := if x < 0 then [] else Lib.itoa x
def rowT (r : List Int) : List UInt8 := joinT 58 numT r
def allT (R : Rws) : List UInt8 := joinT 59 rowT R

def bytesV (l : List UInt8) : List Value := l.map fun b => .int .u8 (b.toNat : Nat)
theorem own_slice {w : World} {base : Nat} {e : TypeId} {size n : Nat} {v : Value} {xs : List Value} (h : w.ownsRow base e size v n xs) : ∃ a m c, v = .slice a m c := by
  rcases h.2 with ⟨rfl, _⟩ | ⟨g, cap, cur, rfl, _⟩
  · exact ⟨_, _, _, rfl⟩
  · exact ⟨_, _, _, rfl⟩
theorem own_str {w : World} {base : Nat} {v : Value} {l : List UInt8} (h : w.ownsRow base 5 1 v l.length (bytesV l)) : (convert 92 9 v).run Tryd.prog w = .ok (.string ⟨l.toArray⟩) w := by
  rcases h.2 with ⟨rfl, h0⟩ | ⟨g, cap, cur, rfl, _⟩
  · obtain rfl : l = [] := List.length_eq_zero_iff.1 h0
    kernel_rfl
  · refine run_convert_bytes_back w 92 9 5 ⟨g, 0, none⟩ cap l Tryd.underlying92 Tryd.underlying5 Tryd.underlying9 fun j hj => ?_
    exact h.cells (g := g) rfl j _ (by rw [bytesV, List.getElem?_map, List.getElem?_eq_getElem hj]; rfl)
theorem infoU8 : (Tryd.prog.info? 5).map (fun i => (i.zero, i.size, i.bytes)) = some (some (.int .u8 0), 1, 1) := by kernel_rfl

/-- The call's own variable holds these bytes. -/
def WS (w0 w : World) (t : List UInt8) : Prop := Below w0.heap.size w0 w ∧ ∃ v, w.heap[w0.heap.size]? = some (.cells #[v] 92 (0, 0)) ∧ w.ownsRow (w0.heap.size + 1) 5 1 v t.length (bytesV t)
theorem WS.start (w : World) : WS w (w.alloc (.cells #[.slice none 0 0] 92)) [] :=
  ⟨(Below.refl _ _).alloc (Nat.le_refl _) _, _, heap_alloc_new w _, World.ownsRow_nil _ _ _ 1⟩
theorem WS.cell {w0 w : World} {v : Value} (h : w.heap[w0.heap.size]? = some (.cells #[v] 92 (0, 0))) : w.cell? ⟨w0.heap.size, 0, none⟩ = some v ∧ w.frozen? ⟨w0.heap.size, 0, none⟩ = false := by
  constructor
  · unfold World.cell?
    rw [h]
    rfl
  · unfold World.frozen?
    rw [h]
    rfl
theorem WS.put {w0 w w' : World} {t' : List UInt8} {v v' : Value} (h : w.heap[w0.heap.size]? = some (.cells #[v] 92 (0, 0))) (hb : Below w0.heap.size w0 w) (hk : Below (w0.heap.size + 1) w w') (ho : w'.ownsRow (w0.heap.size + 1) 5 1 v' t'.length (bytesV t')) :
    WS w0 (w'.setCell ⟨w0.heap.size, 0, none⟩ v') t' := by
  have hb' : w'.heap[w0.heap.size]? = some (.cells #[v] 92 (0, 0)) := (hk.block _ (by omega)).trans h
  refine ⟨((hb.trans (hk.mono (by omega)))).setCell (Nat.le_refl _) _, v', ?_, ho.kept (row := some w0.heap.size) (But.set w' w0.heap.size 0 v') ?_⟩
  · have : w0.heap.size < w'.heap.size := (Array.getElem?_eq_some_iff.1 hb').1
    simp only [World.setCell, Array.getElem?_modify, if_true, hb', Option.map_some]
    rfl
  · by_cases e : v'.ownBlock = some w0.heap.size
    · have := (ho.lt _ e).1
      omega
    · exact .inr e

set_option maxHeartbeats 2000000 in
theorem part_no (w0 w : World) (t : List UInt8) (c : Value) (h : WS w0 w t) :
    Calls Tryd.prog 57 #[.int .i64 0, c, .pointer (some ⟨w0.heap.size, 0, none⟩)] w fun e w' => e = .returned (.tuple #[]) ∧ WS w0 w' t := by
  go_enter Tryd.func57, Tryd.ntmps57
  go_wp2
  go_end0
  exact ⟨rfl, h⟩

set_option maxHeartbeats 2000000 in
set_option maxRecDepth 100000 in
theorem part_yes (w0 w : World) (t : List UInt8) (p : Nat) (hp : 0 < p) (c : UInt8) (h : WS w0 w t) (hl : t.length < 100000) :
    Calls Tryd.prog 57 #[.int .i64 p, .int .u8 (c.toNat : Nat), .pointer (some ⟨w0.heap.size, 0, none⟩)] w fun e w' => e = .returned (.tuple #[]) ∧ WS w0 w' (t ++ [c]) := by
  obtain ⟨hb, v, hv, ho⟩ := h
  obtain ⟨c1, f1⟩ := WS.cell hv
  obtain ⟨ib, hi, hz0, hz1, hz2⟩ := info_parts infoU8
  have hlt : w0.heap.size < w.heap.size := (Array.getElem?_eq_some_iff.1 hv).1
  go_enter Tryd.func57, Tryd.ntmps57
  go_wp2_with (at_builtin; refine wpList_append_own _ rfl (.tmp 7) (.tmp 9) 92 rfl (w0.heap.size + 1) 5 ib (.int .u8 0) 1 1 Tryd.underlying92 hi hz0 hz1 hz2 rfl (by decide) v t.length (bytesV t) rfl (ho.alloc _) ⟨w.heap.size, 0, none⟩ 1 1 [.int .u8 (c.toNat : Nat)] rfl rfl ?c1 ?c2 ?c3 ?c4 ?c5 ?_)
  case c1 => exact new_cells w [.int .u8 (c.toNat : Nat)] 5 _ rfl
  case c2 => simp [Value.oneCell']
  case c3 => unfold maxLen; omega
  case c4 => omega
  case c5 => simp; omega
  intro v' w2 own2 grow2 _
  have b2 : Below (w0.heap.size + 1) w w2 := ((Below.refl _ _).alloc (by omega) _).grown grow2 (by simp; omega) (fun j hj => (ho.lt j hj).1)
  obtain ⟨a2, m2, cap2, rfl⟩ := own_slice own2
  have o2 : w2.ownsRow (w0.heap.size + 1) 5 1 (.slice a2 m2 cap2) (t ++ [c]).length (bytesV (t ++ [c])) := by simpa [bytesV] using own2
  have k2 := WS.put hv hb b2 o2
  obtain ⟨c2, f2⟩ := WS.cell ((b2.block _ (by omega)).trans hv)
  have K2 := Lib.hid k2
  clear own2 grow2 b2 o2 k2 c1 f1 ho hv
  go_wp2
  go_end0
  exact ⟨rfl, K2.out⟩

theorem part_any (w0 w : World) (t : List UInt8) (p : Nat) (c : UInt8) (h : WS w0 w t) (hl : t.length < 100000) :
    Calls Tryd.prog 57 #[.int .i64 p, .int .u8 (c.toNat : Nat), .pointer (some ⟨w0.heap.size, 0, none⟩)] w fun e w' => e = .returned (.tuple #[]) ∧ WS w0 w' (t ++ if p = 0 then [] else [c]) := by
  by_cases hp : p = 0
  · subst hp
    simpa using part_no w0 w t _ h
  · rw [if_neg hp]
    exact part_yes w0 w t p (by omega) c h hl

/-- The table that strconv reads; nothing turns it. -/
def Pow (w : World) : Prop := Lib.TabBelow Tryd.prog w.heap.size w "internal/strconv.uint64pow10" .u64 Lib.pow10Tab
theorem Pow.on {w w' : World} (h : Pow w) (hb : Below w.heap.size w w') : Pow w' := fun _ h' => h _ (hb.trans (h'.mono hb.size))
theorem Pow.at {w w' : World} (h : Pow w) (hb : Below w.heap.size w w') (B : Nat) (hB : w.heap.size ≤ B) : Lib.TabBelow Tryd.prog B w' "internal/strconv.uint64pow10" .u64 Lib.pow10Tab := fun _ h' => h _ (hb.trans (h'.mono hB))

def okRows (R : Rws) : Prop := R.length ≤ 32 ∧ ∀ r ∈ R, r.length ≤ 8 ∧ ∀ x ∈ r, -1 ≤ x ∧ x ≤ 65535

set_option maxHeartbeats 4000000 in
set_option maxRecDepth 100000 in
theorem write_row (w : World) (g c n lo : Nat) (R : Rws) (hn : n = R.length) (h1 : ∀ i, i < n → ∃ u, w.cell? ⟨g, i, none⟩ = some u ∧ IntsAt w lo u (R.getD i [])) (hg : g < w.heap.size) (hR : okRows R) (hP : Pow w) :
    Calls Tryd.prog 41 #[.slice (some ⟨g, 0, none⟩) n c] w fun e w' => e = .returned (.string ⟨(allT R).toArray⟩) ∧ Below w.heap.size w w' := by
  have HN := Lib.hid hn
  have H1 := Lib.hid h1
  have HR := Lib.hid hR
  have HP := Lib.hid hP
  have hn32 : n ≤ 32 := by rw [hn]; exact hR.1
  clear hn h1 hR hP
  go_enter Tryd.func41, Tryd.ntmps41
  go_wp2
  have HS := Lib.hid (WS.start w)
  generalize w.alloc (.cells #[.slice none 0 0] 92) = w0 at HS ⊢
  go_loopw [12] (fun i wr => ∃ k : Nat, k ≤ n ∧ i = .int .i64 k ∧ Hid (WS w wr (allT (R.take k))) ∧ (allT (R.take k)).length ≤ 200 * k) (fun i _ => n - (intOf i).toNat)
  case atStart => exact ⟨0, Nat.zero_le _, rfl, HS, by simp [allT, joinT]⟩
  case round =>
    obtain ⟨wo, rfl⟩ : ∃ wo : World, wo = wr := ⟨_, rfl⟩
    obtain ⟨k, hk, rfl, HW, hlen⟩ := hrel
    by_cases hlt : k < n
    · obtain ⟨u, d1, I1⟩ := H1.out k hlt
      have hb := HW.out.1
      have a1 : wo.cell? ⟨g, k, none⟩ = some u := (hb.cell (p := ⟨g, k, none⟩) hg).trans d1
      obtain ⟨q, hq⟩ : ∃ q, R.getD k [] = q := ⟨_, rfl⟩
      have hkR : k < R.length := by rw [← HN.out]; exact hlt
      have hqok := HR.out.2 q (hq ▸ getD_mem [] hkR)
      rw [hq] at I1
      obtain ⟨g', c', cur, rfl, _, gl, _, _, k1, _⟩ := I1.open
      obtain ⟨m, hm⟩ : ∃ m, m = q.length := ⟨_, rfl⟩
      rw [← hm] at a1 k1
      have hm8 : m ≤ 8 := by rw [hm]; exact hqok.1
      have HK1 := Lib.hid k1
      have HM := Lib.hid hm
      have HQ := Lib.hid hqok.2
      have HTK := Lib.hid (show R.take (k + 1) = R.take k ++ [q] by
        rw [List.take_succ_eq_append_getElem hkR, ← hq, List.getD_eq_getElem?_getD, List.getElem?_eq_getElem hkR]
        rfl)
      have HLK := Lib.hid (show (R.take k).length = k by rw [List.length_take]; omega)
      have C := Lib.hid (part_any w wo _ k 59 HW.out (by omega))
      clear k1 hm hqok hq I1 d1 hb
      go_wp2_with fail
      refine C.out.mono ?_
      rintro e w1 ⟨rfl, S1⟩
      obtain ⟨t0, ht0⟩ : ∃ t0, (allT (R.take k) ++ if k = 0 then [] else [59]) = t0 := ⟨_, rfl⟩
      rw [ht0] at S1
      have HT0 := Lib.hid ht0
      have hl0 : t0.length ≤ 200 * k + 1 := by
        rw [← ht0, List.length_append]
        split <;> simp <;> omega
      have HS1 := Lib.hid S1
      clear S1 ht0 C HW hlen
      go_wp2
      obtain ⟨w1', rfl⟩ : ∃ w1' : World, w1' = w1 := ⟨_, rfl⟩
      go_loopw [22] (fun i wr => ∃ j : Nat, j ≤ m ∧ i = .int .i64 j ∧ Hid (WS w wr (t0 ++ rowT (q.take j))) ∧ (t0 ++ rowT (q.take j)).length ≤ 200 * k + 1 + 22 * j) (fun i _ => m - (intOf i).toNat)
      case atStart => exact ⟨0, Nat.zero_le _, rfl, by simpa [rowT, joinT] using HS1, by simpa [rowT, joinT] using hl0⟩
      case round =>
        obtain ⟨j, hj, rfl, HW, hlen⟩ := hrel
        by_cases hlj : j < m
        · have hb := HW.out.1
          obtain ⟨x, hx⟩ : ∃ x, q.getD j 0 = x := ⟨_, rfl⟩
          have a2 : wr.cell? ⟨g', j, none⟩ = some (.int .i64 x) := by
            rw [hb.cell (p := ⟨g', j, none⟩) gl, HK1.out j hlj, hx]
          have hjq : j < q.length := by rw [← HM.out]; exact hlj
          obtain ⟨x0, x1⟩ := HQ.out x (hx ▸ getD_mem 0 hjq)
          have HTJ := Lib.hid (show q.take (j + 1) = q.take j ++ [x] by
            rw [List.take_succ_eq_append_getElem hjq, ← hx, List.getD_eq_getElem?_getD, List.getElem?_eq_getElem hjq]
            rfl)
          have HLJ := Lib.hid (show (q.take j).length = j by rw [List.length_take]; omega)
          have C := Lib.hid (part_any w wr _ j 58 HW.out (by omega))
          clear hx hb
          go_wp2_with fail
          refine C.out.mono ?_
          rintro e w2 ⟨rfl, S2⟩
          obtain ⟨t1, ht1⟩ : ∃ t1, (t0 ++ rowT (q.take j) ++ if j = 0 then [] else [58]) = t1 := ⟨_, rfl⟩
          rw [ht1] at S2
          have hl1 : t1.length ≤ 200 * k + 1 + 22 * j + 1 := by
            rw [← ht1, List.length_append]
            split <;> simp <;> simp at hlen <;> omega
          have HT1 := Lib.hid (show t0 ++ rowT (q.take (j + 1)) = t1 ++ numT x by
            rw [HTJ.out, rowT, joinT_snoc, HLJ.out, ← ht1]
            simp [rowT])
          obtain ⟨hb2, v2, hv2, ho2⟩ := S2
          have HS2 := Lib.hid (show WS w w2 t1 from ⟨hb2, v2, hv2, ho2⟩)
          obtain ⟨d1, d2⟩ := WS.cell hv2
          clear ht1 C HW hlen a2 HTJ HLJ
          by_cases hx0 : 0 ≤ x
          · have CA := Lib.hid (Tryd.strconv_AppendInt_10 (w.heap.size + 1) t1.length x (by omega) (by omega) v2 (bytesV t1) w2 ho2 (by have := (Array.getElem?_eq_some_iff.1 hv2).1; omega) (by omega) (HP.out.at hb2 _ (by omega)))
            have HV2 := Lib.hid hv2
            have HB2 := Lib.hid hb2
            clear ho2 hv2 hb2
            go_wp2_with fail
            refine CA.out.mono ?_
            rintro e w3 ⟨v3, rfl, o3, b3, _⟩
            obtain ⟨a3, m3, cap3, rfl⟩ := own_slice o3
            have hn3 : numT x = Lib.itoa x := by rw [numT, if_neg (by omega)]
            have o4 : w3.ownsRow (w.heap.size + 1) 5 1 (.slice a3 m3 cap3) (t1 ++ numT x).length (bytesV (t1 ++ numT x)) := by
              rw [hn3]
              simpa [bytesV, Lib.byteCells] using o3
            have K4 := Lib.hid (WS.put HV2.out HB2.out b3 o4)
            obtain ⟨d3, d4⟩ := WS.cell ((b3.block _ (by omega)).trans HV2.out)
            have hl4 : (t0 ++ rowT (q.take (j + 1))).length ≤ 200 * k + 1 + 22 * (j + 1) := by
              rw [HT1.out, List.length_append, hn3]
              have := Lib.itoa_length_le x (by omega) (by omega)
              omega
            have HL4 := Lib.hid hl4
            clear o3 b3 o4 hn3 hl4 CA HV2 HB2 d1 d2
            go_wp2
            go_roundw
            case rel => exact ⟨j + 1, by omega, by go_num, by rw [HT1.out]; exact K4, HL4.out⟩
            case measure => simp [intOf]; omega
          · have hn3 : numT x = [] := by rw [numT, if_pos (by omega)]
            have HN3 := Lib.hid hn3
            clear hn3 ho2 hv2 hb2
            go_wp2
            go_roundw
            case rel => exact ⟨j + 1, by omega, by go_num, by rw [HT1.out, HN3.out, List.append_nil]; exact HS2, by rw [HT1.out, HN3.out, List.append_nil]; omega⟩
            case measure => simp [intOf]; omega
        · have HE := Lib.hid (show allT (R.take (k + 1)) = t0 ++ rowT (q.take j) by
            have ej : q.take j = q := List.take_of_length_le (by rw [← HM.out]; omega)
            rw [ej, HTK.out, allT, joinT_snoc, HLK.out, ← HT0.out]
            simp [allT])
          have hl5 : (t0 ++ rowT (q.take j)).length ≤ 200 * (k + 1) := by omega
          go_wp2
          go_roundw
          case rel => exact ⟨k + 1, by omega, by go_num, by rw [HE.out]; exact HW, by rw [HE.out]; exact hl5⟩
          case measure => simp [intOf]; omega
    · obtain ⟨hb2, v2, hv2, ho2⟩ := HW.out
      obtain ⟨d1, d2⟩ := WS.cell hv2
      have e1 : R.take k = R := List.take_of_length_le (by rw [← HN.out]; omega)
      rw [e1] at ho2
      have cv := own_str ho2
      have HB2 := Lib.hid hb2
      clear ho2 hv2 hb2 e1
      go_wp2
      go_ret
      exact ⟨rfl, HB2.out⟩

set_option maxHeartbeats 4000000 in
set_option maxRecDepth 100000 in
theorem write_nil (w : World) : Calls Tryd.prog 41 #[.slice none 0 0] w fun e w' => e = .returned (.string ⟨#[]⟩) ∧ Below w.heap.size w w' := by
  have cv : ∀ w, (convert 92 9 (.slice none 0 0)).run Tryd.prog w = .ok (.string ⟨#[]⟩) w := fun _ => by kernel_rfl
  go_enter Tryd.func41, Tryd.ntmps41
  go_wp2
  refine wp_loop_rounds 1 ?_
  rw [rounds_succ]
  go_wp2
  go_ret
  exact ⟨rfl, (Below.refl _ _).alloc (Nat.le_refl _) _⟩

theorem write_any (w : World) (lo : Nat) (v : Value) (R : Rws) (h : RowsAt w lo v R) (hR : okRows R) (hP : Pow w) :
    Calls Tryd.prog 41 #[v] w fun e w' => e = .returned (.string ⟨(allT R).toArray⟩) ∧ Below w.heap.size w w' := by
  rcases h.open with ⟨rfl, e⟩ | ⟨g, c, rfl, _, hg, _, _, k1⟩
  · subst e
    exact write_nil w
  · exact write_row w g c R.length lo R rfl k1 hg hR hP
end Go.Proofs.YtlmhnebgkginkaaDoor.Lab
