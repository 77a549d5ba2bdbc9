/- Rows that are drawn, and rows of one letter: what their texts are made of. The laws' helpers: level, line, lines, seen. -/
import Derived.Test.YtnefamgjlhdffaaRgEq
import Derived.Test.YtnefamgjlhdffaaRoRow
import Derived.Test.YtnefamgjlhdffaaRpText
set_option linter.unusedVariables false
namespace Go.Proofs.Ytnefamgjlhdffaa.Lab
open Go Go.RowKit

def DrR (c : Cel) : Prop := (c.ru = 0 ∨ (97 ≤ c.ru ∧ c.ru ≤ 122)) ∧ (c.m0 = 0 ∨ c.m0 = 769) ∧ (c.m1 = 0 ∨ c.m1 = 769) ∧ (c.ru = 0 → c.m0 = 0 ∧ c.m1 = 0)
theorem DrR.txt {c : Cel} (h : DrR c) : TxtC c := by
  obtain ⟨h0, h1, h2, _⟩ := h
  refine ⟨?_, ?_, ?_⟩
  · rcases h0 with h | h
    · exact .inl h
    · exact .inr (.inl (by omega))
  · rcases h1 with h | h
    · exact .inl h
    · exact .inr (.inr (.inl h))
  · rcases h2 with h | h
    · exact .inl h
    · exact .inr (.inr (.inl h))
def AllR (R : Cls) : Prop := ∀ i, i < R.length → DrR (gc R i)
theorem drR_bare (c : Cel) : DrR c.bare := ⟨.inl rfl, .inl rfl, .inl rfl, fun _ => ⟨rfl, rfl⟩⟩
theorem drR_brkC {c : Cel} (h : DrR c) (p i : Nat) : DrR (brkC p i c) := by
  unfold brkC
  split
  · exact drR_bare c
  · exact h
theorem drR_celD (d : Dc) (l k : Int) : DrR { celD d with l := l, k := k } := by
  have hr : 97 ≤ ((97 + d.ru % 26 : Nat) : Int) ∧ ((97 + d.ru % 26 : Nat) : Int) ≤ 122 := by omega
  refine ⟨.inr hr, ?_, ?_, fun h => ?_⟩
  · show mrk d 0 = 0 ∨ mrk d 0 = 769
    unfold mrk
    split
    · exact .inr rfl
    · exact .inl rfl
  · show mrk d 1 = 0 ∨ mrk d 1 = 769
    unfold mrk
    split
    · exact .inr rfl
    · exact .inl rfl
  · replace h : ((97 + d.ru % 26 : Nat) : Int) = 0 := h
    omega
theorem drR_putD {labs : List Int} {R : Cls} (h : AllR R) (d : Dc) {i : Nat} (hl : R.length = labs.length) (hi : i < labs.length) : AllR (putD labs d R i) := by
  unfold putD
  split
  · exact h
  · intro j hj
    rw [len_put] at hj
    rw [gc_put (wideAt labs d i) rfl _ (by rw [hl]; exact wide_fit hi) hj]
    split
    · exact drR_celD d _ _
    · split
      · exact ⟨.inl rfl, .inl rfl, .inl rfl, fun _ => ⟨rfl, rfl⟩⟩
      · exact drR_brkC (drR_brkC (h j hj) _ _) _ _
theorem drR_fill (labs : List Int) (L O : List Dc) : AllR (fillM labs L O) := by
  have h0 : AllR (fill0 labs) := fun i hi => by
    have hl : (fill0 labs).length = labs.length := by simp [fill0]
    rw [gc_fill0 (by rw [← hl]; exact hi)]
    exact ⟨.inl rfl, .inl rfl, .inl rfl, fun _ => ⟨rfl, rfl⟩⟩
  unfold fillM
  split
  · exact h0
  · have key : ∀ k, k ≤ labs.length → AllR (fillK labs L O k) := by
      intro k
      induction k with
      | zero => intro _; exact h0
      | succ k ih =>
        intro hk
        rw [fillK_succ]
        exact drR_putD (ih (by omega)) _ (fillK_inv _ _ _ k (by omega)).1 (by omega)
    exact key _ (Nat.le_refl _)
theorem drR_row (cols : Nat) (L : List Dc) : AllR (rowM cols L) := drR_fill _ _ _
theorem gc_toL {x : Int} {R : Cls} {i : Nat} (h : i < R.length) : gc (toL x R) i = { gc R i with l := x } := by
  unfold toL gc
  rw [List.getD_eq_getElem?_getD, List.getD_eq_getElem?_getD, List.getElem?_map, List.getElem?_eq_getElem h]
  rfl
theorem AllR.toL {R : Cls} (h : AllR R) (x : Int) : AllR (Lab.toL x R) := fun i hi => by
  rw [List.length_map] at hi
  rw [gc_toL hi]
  exact h i hi
theorem AllR.txt {R : Cls} (h : AllR R) : TxtOk R := fun i hi => (h i hi).txt
theorem AllR.blank {R : Cls} (h : AllR R) : ∀ i, i < R.length → (gc R i).ru = 0 → (gc R i).m0 = 0 ∧ (gc R i).m1 = 0 := fun i hi => (h i hi).2.2.2
/-- A row of one letter. -/
def leC (r : Int) : Cel := ⟨r, 0, 0, 0, ⟨Cl.zero, Cl.zero, 0⟩, 0⟩
abbrev leR (r : Int) : Cls := [leC r]
theorem gc_leR (r : Int) (i : Nat) (hi : i < (leR r).length) : gc (leR r) i = leC r := by
  have : i = 0 := by simpa using hi
  subst this
  rfl
theorem leR_all {r : Int} (h : 97 ≤ r ∧ r ≤ 122) : AllR (leR r) := fun i hi => by
  rw [gc_leR r i hi]
  refine ⟨.inr h, .inl rfl, .inl rfl, fun e => ?_⟩
  replace e : r = 0 := e
  omega
theorem line_any (w : World) (r : Int) : Calls Try.prog 34 #[.int .i32 r] w fun e w' => ∃ g, e = .returned (.slice (some ⟨g, 0, none⟩) 1 1) ∧ CRow w' w.heap.size (.slice (some ⟨g, 0, none⟩) 1 1) (leR r) ∧ Below w.heap.size w w' := by
  obtain ⟨w1, hw1⟩ : ∃ w1, w1 = w.alloc (.cells #[.int .i32 r, .int .i32 0, .int .i32 0, .int .u8 0, .int .u8 0, .int .u8 0, .int .u8 0, .int .u8 0, .int .u8 0, .int .u8 0, .int .u8 0, .int .u8 0, .int .u16 0, .int .u8 0] 47) := ⟨_, rfl⟩
  have HB := Lib.hid (show Below w.heap.size w w1 by rw [hw1]; exact (Below.refl _ _).alloc (Nat.le_refl _) _)
  have HO := Lib.hid (show CRow w1 w.heap.size (.slice (some ⟨w.heap.size, 0, none⟩) 1 1) (leR r) by
    rw [hw1]
    exact World.ownsRow_lit (e := 47) (base := w.heap.size) (size := 14) w #[.int .i32 r, .int .i32 0, .int .i32 0, .int .u8 0, .int .u8 0, .int .u8 0, .int .u8 0, .int .u8 0, .int .u8 0, .int .u8 0, .int .u8 0, .int .u8 0, .int .u16 0, .int .u8 0] 1 (Nat.le_refl _) (by decide) rfl)
  go_enter Try.func34, Try.ntmps34
  go_wp2
  go_ret
  rw [← hw1]
  exact ⟨_, rfl, HO.out, HB.out⟩
/-- An act, as a value. -/
abbrev actV (what : Nat) (lv : Value) (lev : Bool) : Value := .agg #[.int .u8 (what : Nat), lv, .bool lev]
theorem rlevel_any (w : World) (what : Nat) (lv : Value) (lev : Bool) : Calls Try.prog 11 #[actV what lv lev] w fun e w' => e = .returned (.int .u8 (if lev then 1 else 0)) ∧ Below w.heap.size w w' := by
  obtain ⟨w1, hw1⟩ : ∃ w1, w1 = w.alloc (.cells #[.int .u8 (what : Nat), lv, .bool lev] 32) := ⟨_, rfl⟩
  obtain ⟨q, hq⟩ : ∃ q, q = w.heap.size := ⟨_, rfl⟩
  have HB := Lib.hid (show Below w.heap.size w w1 by rw [hw1]; exact (Below.refl _ _).alloc (Nat.le_refl _) _)
  have d2 : w1.cell? ⟨q, 2, none⟩ = some (.bool lev) := by rw [hw1, hq]; simp
  cases lev with
  | true =>
    go_enter Try.func11, Try.ntmps11
    go_upto_region 1 with (fail)
    rw [← hw1, ← hq]
    clear hw1 hq
    go_wp2
    go_ret
    exact ⟨rfl, HB.out⟩
  | false =>
    go_enter Try.func11, Try.ntmps11
    go_upto_region 1 with (fail)
    rw [← hw1, ← hq]
    clear hw1 hq
    go_wp2
    go_ret
    exact ⟨rfl, HB.out⟩
/-! ### lines as they come in -/
/-- A line: its columns, its drafts. -/
structure Lj where
  cols : Nat
  ds : List Dc
abbrev Lj.row (x : Lj) : Cls := rowM x.cols x.ds
def LjsIn (w : World) (v : Value) (LL : List Lj) : Prop :=
  ∃ a c, v = .slice a LL.length c ∧ LL.length ≤ maxLen ∧ (0 < LL.length → ∃ g o, a = some ⟨g, o, none⟩ ∧ g < w.heap.size ∧ ∀ i, (hi : i < LL.length) → w.cell? ⟨g, o + i * 2, none⟩ = some (.int .u8 (LL[i].cols : Nat)) ∧ LL[i].cols < 256 ∧ ∃ u, w.cell? ⟨g, o + i * 2 + 1, none⟩ = some u ∧ DsIn w u LL[i].ds)
theorem LjsIn.below {w w' : World} {v : Value} {LL : List Lj} (h : LjsIn w v LL) (k : Below w.heap.size w w') : LjsIn w' v LL := by
  obtain ⟨a, c, e, hm, h⟩ := h
  refine ⟨a, c, e, hm, fun h0 => ?_⟩
  obtain ⟨g, o, ea, hg, hC⟩ := h h0
  refine ⟨g, o, ea, Nat.lt_of_lt_of_le hg k.size, fun i hi => ?_⟩
  obtain ⟨h1, h2, u, h3, h4⟩ := hC i hi
  exact ⟨(k.cell (p := ⟨g, o + i * 2, none⟩) hg).trans h1, h2, u, (k.cell (p := ⟨g, o + i * 2 + 1, none⟩) hg).trans h3, h4.below k⟩
theorem LjsIn.shape {w : World} {v : Value} {LL : List Lj} (h : LjsIn w v LL) : ∃ a c, v = .slice a LL.length c := by
  obtain ⟨a, c, e, _⟩ := h
  exact ⟨a, c, e⟩
def LjK (LL : List Lj) (i : Nat) : Lj := LL.getD i ⟨0, []⟩
theorem LjK_eq {LL : List Lj} {i : Nat} (h : i < LL.length) : LjK LL i = LL[i] := by
  unfold LjK
  rw [List.getD_eq_getElem?_getD, List.getElem?_eq_getElem h]
  rfl
theorem LjsIn.at {w : World} {a : Option Addr} {n c : Nat} {LL : List Lj} (h : LjsIn w (.slice a n c) LL) {i : Nat} (hi : i < LL.length) : ∃ g o u, a = some ⟨g, o, none⟩ ∧ g < w.heap.size ∧ w.cell? ⟨g, o + i * 2, none⟩ = some (.int .u8 ((LjK LL i).cols : Nat)) ∧ (LjK LL i).cols < 256 ∧ w.cell? ⟨g, o + i * 2 + 1, none⟩ = some u ∧ DsIn w u (LjK LL i).ds := by
  obtain ⟨a', c', e, _, h⟩ := h
  injection e with e1 _ _
  subst e1
  obtain ⟨g, o, ea, hg, hC⟩ := h (by omega)
  obtain ⟨h1, h2, u, h3, h4⟩ := hC i hi
  rw [LjK_eq hi]
  exact ⟨g, o, u, ea, hg, h1, h2, h3, h4⟩
/-- The rows of the first six lines. -/
def rows6 (LL : List Lj) : List Cls := (LL.take 6).map Lj.row
theorem rows6_len (LL : List Lj) : (rows6 LL).length = min 6 LL.length := by unfold rows6; rw [List.length_map, List.length_take]
theorem rows6_ok (LL : List Lj) : ∀ R ∈ rows6 LL, R.length ≤ 30 ∧ Wh R ∧ Lv R ∧ AllR R := fun R hR => by
  obtain ⟨x, _, rfl⟩ := List.mem_map.1 hR
  obtain ⟨h1, h2, h3⟩ := rowM_whole x.cols x.ds
  exact ⟨by rw [h3]; omega, h1, h2, drR_row _ _⟩
/-- A header, appended to headers of the call's own. -/
theorem wpList_append_lnb {ops : Array Oper} {rest : List Oper} {o : Oper} {a : Act} {w : World} {Q : Exit → Act → World → Prop} (hgd : o.guard = none) (s x : Operand)
    (hop : o.op = Op.call { callee := Callee.builtin Builtin.append, args := #[s, x], argTypes := #[27, 27] })
    (base : Nat) (v : Value) (n : Nat) (us : List Value) (hs : a.eval s = v) (hown : w.ownsRow base 38 1 v n us) (q : Nat) (u : Value) (hx : a.eval x = .slice (some ⟨q, 0, none⟩) 1 1) (hq : w.cell? ⟨q, 0, none⟩ = some u) (hu : u.oneCell' = true)
    (hn : n ≤ 100000) (hb : base ≤ w.heap.size)
    (hK : ∀ v' w', w'.ownsRow base 38 1 v' (n + 1) (us ++ [u]) → w.grownBy w' v.ownBlock → wpList Try.prog ops Q rest (a.put o.dst v') w') :
    wpList Try.prog ops Q (o :: rest) a w := by
  obtain ⟨ib, hi, hz0, hz1, hz2⟩ := info_parts infoRow
  refine wpList_append_own w hgd s x 27 hop base 38 ib (.slice none 0 0) 1 24 Try.underlying27 hi hz0 hz1 hz2 rfl (by decide) v n us hs hown ⟨q, 0, none⟩ 1 1 [u] hx rfl (fun j y hj => ?_) (fun y hy => by rw [List.mem_singleton.1 hy]; exact hu) (by unfold maxLen; omega) (by omega) hb (fun v' w' k1 k2 _ => hK v' w' k1 k2)
  have : j < 1 := (List.getElem?_eq_some_iff.1 hj).1
  obtain rfl : j = 0 := by omega
  obtain rfl : u = y := by simpa using hj
  exact hq
/-- Rows made one by one. -/
def MkAt (w wr : World) (v : Value) (K : List Ln) : Prop := wr.ownsRow w.heap.size 38 1 v K.length (vls K) ∧ LsOk wr K ∧ Apart K ∧ Foot K (w.heap.size ≤ ·) ∧ Below w.heap.size w wr
theorem MkAt.rows {w wr : World} {v : Value} {K : List Ln} (h : MkAt w wr v K) : Rows1 (fun j => w.heap.size ≤ j ∧ j < wr.heap.size) wr v K :=
  ⟨own_lower h.1 (Nat.zero_le _), h.2.1, h.2.2.1, fun x hx b hb => ⟨h.2.2.2.1 x hx b hb, h.2.1.lt x hx b hb⟩, fun b hb => h.1.lt b hb⟩
set_option maxHeartbeats 4000000 in
set_option maxRecDepth 100000 in
theorem lines_any (w : World) (what : Nat) (lv : Value) (lev : Bool) (LL : List Lj) (h : LjsIn w lv LL) :
    Calls Try.prog 18 #[actV what lv lev] w fun e w' => ∃ v K, e = .returned v ∧ rws K = rows6 LL ∧ Rows1 (fun j => w.heap.size ≤ j ∧ j < w'.heap.size) w' v K ∧ Below w.heap.size w w' := by
  obtain ⟨la, lc, rfl⟩ := h.shape
  obtain ⟨n, hn⟩ : ∃ n, n = LL.length := ⟨_, rfl⟩
  have HN := Lib.hid hn
  obtain ⟨w1, hw1⟩ : ∃ w1, w1 = w.alloc (.cells #[.int .u8 (what : Nat), .slice la LL.length lc, .bool lev] 32) := ⟨_, rfl⟩
  obtain ⟨q, hq⟩ : ∃ q, q = w.heap.size := ⟨_, rfl⟩
  have HB := Lib.hid (show Below w.heap.size w w1 by rw [hw1]; exact (Below.refl _ _).alloc (Nat.le_refl _) _)
  have HC := Lib.hid (show w1.heap[q]? = some (.cells #[.int .u8 (what : Nat), .slice la n lc, .bool lev] 32 (0, 0)) by rw [hw1, hq, hn]; exact heap_alloc_new w _)
  have HL := Lib.hid h
  rw [← hn] at HL hw1 ⊢
  have HP0 := Lib.hid (show MkAt w w1 (.slice none 0 0) [] from ⟨World.ownsRow_nil _ _ _ 1, LsOk.nil _, Apart.nil, Foot.nil _, HB.out⟩)
  clear h hn
  go_enter Try.func18, Try.ntmps18
  go_upto_region 2 with (fail)
  rw [← hw1, ← hq]
  clear hw1 hq
  go_wp2
  go_loopg [3, 4] 6 (fun gl b3 b4 wr => ∃ (k : Nat) (v : Value) (K : List Ln), b3 = v ∧ b4 = .int .i64 k ∧ k ≤ 6 ∧ k ≤ n ∧ 6 - k ≤ gl ∧ Hid (rws K = (LL.take k).map Lj.row) ∧ Hid (MkAt w wr v K) ∧ Hid (wr.heap[q]? = some (.cells #[.int .u8 (what : Nat), .slice la n lc, .bool lev] 32 (0, 0))))
  case atStart => exact ⟨0, _, [], rfl, rfl, by omega, by omega, by omega, Lib.hid rfl, HP0, HC⟩
  case round =>
    obtain ⟨k, v, K, rfl, rfl, hk6, hkn, hgk, HK, HP, HW⟩ := hrel
    clear HP0
    obtain ⟨va, vc, hv⟩ := own_shape HP.out.1
    have hkl : K.length = k := by
      have := congrArg List.length HK.out
      rw [List.length_map, List.length_map, List.length_take, ← HN.out] at this
      omega
    have HKL := Lib.hid hkl
    rw [hkl] at hv
    subst hv
    have hc1 : wr.cell? ⟨q, 1, none⟩ = some (.slice la n lc) := by rw [cell_of_row wr q 1 _ _ _ HW.out]; simp
    clear hkl
    by_cases hlt : k < n
    · by_cases h6 : k < 6
      · obtain ⟨g, o, u, ea, hg, c0, c256, cu, hd⟩ := (HL.out.below HP.out.2.2.2.2).at (i := k) (by rw [← HN.out]; exact hlt)
        subst ea
        obtain ⟨ua, uc, hu⟩ := hd.shape
        subst hu
        obtain ⟨x, hx⟩ : ∃ x, x = LjK LL k := ⟨_, rfl⟩
        rw [← hx] at c0 c256 cu hd
        obtain ⟨nd, hnd⟩ : ∃ m, m = x.ds.length := ⟨_, rfl⟩
        rw [← hnd] at cu
        have HND := Lib.hid hnd
        have HD := Lib.hid (And.intro hd c256)
        have HLT := Lib.hid (And.intro hlt h6)
        have HTK := Lib.hid (show (LL.take (k + 1)).map Lj.row = (LL.take k).map Lj.row ++ [x.row] by
          have hk : k < LL.length := by rw [← HN.out]; exact hlt
          rw [List.take_succ_eq_append_getElem hk, hx, LjK_eq hk, List.map_append]
          rfl)
        have h6' : (k : Int) < 6 := by omega
        clear hd c256 hx hnd hg
        go_wp2_with fail
        rw [HND.out]
        refine (rrow_any wr x.cols (.slice ua x.ds.length uc) x.ds HD.out.2 HD.out.1).mono ?_
        rintro e w2 ⟨r, rfl, ow, b2⟩
        obtain ⟨ra, rc, hr⟩ := ow.shape
        subst hr
        have HO := Lib.hid ow
        have HB2 := Lib.hid b2
        clear ow b2 c0 cu hc1
        obtain ⟨q8, hq8⟩ : ∃ q, q = w2.heap.size := ⟨_, rfl⟩
        obtain ⟨w8, hw8⟩ : ∃ X, X = w2.alloc (.cells #[.slice ra (x.row).length rc] 38) := ⟨_, rfl⟩
        have HB8 := Lib.hid (show Below w2.heap.size w2 w8 by rw [hw8]; exact (Below.refl _ _).alloc (Nat.le_refl _) _)
        have HI8 := Lib.hid (show w8.cell? ⟨q8, 0, none⟩ = some (.slice ra (x.row).length rc) by rw [hw8, hq8]; simp)
        have HX := Lib.hid (show Below wr.heap.size wr w8 from HB2.out.trans (HB8.out.mono HB2.out.size))
        have HSW := Lib.hid (show w.heap.size ≤ wr.heap.size from HP.out.2.2.2.2.size)
        go_wp2_with (at_builtin; rw [← hw8, ← hq8]; clear hw8 hq8; refine wpList_append_lnb rfl (.tmp 16) (.tmp 23) rfl w.heap.size (.slice va k vc) k (vls K) rfl (by have := own_below HP.out.1 HX.out; rw [HKL.out] at this; exact this) q8 (.slice ra (x.row).length rc) rfl HI8.out rfl (by omega) (Nat.le_trans HSW.out HX.out.size) ?_)
        intro v9 w9 ow9 gr9
        obtain ⟨a9, c9, e9⟩ := own_shape ow9
        subst e9
        have HP9 := Lib.hid (show MkAt w w9 (.slice a9 (k + 1) c9) (K ++ [⟨.slice ra (x.row).length rc, x.row⟩]) from by
          have hown := own_below HP.out.1 HX.out
          rw [HKL.out] at hown
          have hO8 := HO.out.below HB8.out
          refine ⟨?_, ?_, HP.out.2.2.1.add (X := fun j => j < wr.heap.size) HP.out.2.1.lt (fun b hb hlt => by have := (hO8.lt b hb).1; omega), HP.out.2.2.2.1.append (Foot.one fun b hb => Nat.le_trans HSW.out (hO8.lt b hb).1), ?_⟩
          · rw [List.length_append, HKL.out, List.length_singleton, show vls (K ++ [⟨.slice ra (x.row).length rc, x.row⟩]) = vls K ++ [.slice ra (x.row).length rc] by simp [vls]]
            exact ow9
          · refine ((HP.out.2.1.below HX.out).append (LsOk.one (hO8.lower (Nat.zero_le _)))).past gr9 (fun g' hg' => ?_)
            obtain ⟨cu, hcu⟩ := own_type hown hg'
            exact ⟨cu, _, _, hcu, by decide⟩
          · exact (HP.out.2.2.2.2.trans (HX.out.mono HP.out.2.2.2.2.size)).grown gr9 (Nat.le_trans HSW.out HX.out.size) (fun j hj => (hown.lt j hj).1))
        have HW9 := Lib.hid (show w9.heap[q]? = some (.cells #[.int .u8 (what : Nat), .slice (some ⟨g, o, none⟩) n lc, .bool lev] 32 (0, 0)) from by
          have h0 := (HX.out.block q (Array.getElem?_eq_some_iff.1 HW.out).1).trans HW.out
          have hown := own_below HP.out.1 HX.out
          refine (gr9.block q (Array.getElem?_eq_some_iff.1 h0).1 (fun e => ?_)).trans h0
          rw [HKL.out] at hown
          obtain ⟨cu, hcu⟩ := own_type hown e.symm
          exact type_ne h0 hcu (by decide) rfl)
        clear ow9 gr9
        go_wp2
        go_roundg (6 - (k + 1))
        case rel =>
          have hlt := HLT.out
          refine ⟨k + 1, _, _, rfl, by (first | go_num | (refine congrArg _ ?_; unfold wrap64; omega)), by omega, by omega, Nat.le_refl _, Lib.hid ?_, HP9, HW9⟩
          rw [rws_append, HK.out, HTK.out]
          rfl
        case measure => have := HLT.out; omega
      · have h6' : ¬ (k : Int) < 6 := by omega
        go_wp2
        go_ret
        refine ⟨_, rfl, K, ?_, HP.out.rows, HP.out.2.2.2.2⟩
        rw [HK.out, show k = 6 by omega]
        rfl
    · go_wp2
      go_ret
      refine ⟨_, K, rfl, ?_, HP.out.rows, HP.out.2.2.2.2⟩
      rw [HK.out]
      unfold rows6
      rw [List.take_of_length_le (by rw [← HN.out]; omega), List.take_of_length_le (by rw [← HN.out]; omega)]
end Go.Proofs.Ytnefamgjlhdffaa.Lab
