/- The chapter's examples hold: example, texts, works. The chapter's examples hold: works; RectKnown. -/
import Derived.Test.YtlaafmjiiiaceaaDoorRcFill
import Derived.Test.YtlaafmjiiiaceaaDoorRcLevel
import Derived.Test.YtlaafmjiiiaceaaDoorRcCopy
import Derived.Test.YtlaafmjiiiaceaaDoorRcOf
import Derived.Test.YtlaafmjiiiaceaaDoorRpText
import Derived.Test.YtlaafmjiiiaceaaDoorRoSame
import Derived.Test.YtlaafmjiiiaceaaDoorWiTab
set_option linter.unusedVariables false
namespace Go.Proofs.YtlaafmjiiiaceaaDoor.Lab
open Go Go.RowKit

instance (R : Cls) (i : Nat) : Decidable (UnitAt R i) := by unfold UnitAt; infer_instance
def whB (R : Cls) : Bool := (List.range R.length).all fun i => decide (UnitAt R i)
theorem wh_of {R : Cls} (h : whB R = true) : Wh R := fun i hi => of_decide_eq_true (List.all_eq_true.1 h i (List.mem_range.2 hi))
def lvB (R : Cls) : Bool := (List.range R.length).all fun i => decide ((gc R i).l = 0 ∨ (gc R i).l = 1)
theorem lv_of {R : Cls} (h : lvB R = true) : Lv R := fun i hi => of_decide_eq_true (p := (gc R i).l = 0 ∨ (gc R i).l = 1) (List.all_eq_true.1 h i (List.mem_range.2 hi))
instance (r : Int) : Decidable (Shows r) := by unfold Shows; infer_instance
instance (c : Cel) : Decidable (TxtC c) := by unfold TxtC; infer_instance
def txB (R : Cls) : Bool := (List.range R.length).all fun i => decide (TxtC (gc R i))
theorem tx_of {R : Cls} (h : txB R = true) : TxtOk R := fun i hi => of_decide_eq_true (List.all_eq_true.1 h i (List.mem_range.2 hi))
def ggB (G : List Cls) (m : Nat) : Bool := G.all (fun R => whB R && (decide (R.length = m) && lvB R)) && (decide (G.length ≤ 600) && decide (m ≤ 600))
theorem gg_of {G : List Cls} {m : Nat} (h : ggB G m = true) : GG G m := by
  unfold ggB at h
  rw [Bool.and_eq_true, Bool.and_eq_true, decide_eq_true_eq, decide_eq_true_eq] at h
  refine ⟨fun R hR => ?_, h.2.1, h.2.2⟩
  have := List.all_eq_true.1 h.1 R hR
  rw [Bool.and_eq_true, Bool.and_eq_true, decide_eq_true_eq] at this
  exact ⟨wh_of this.1, this.2.1, lv_of this.2.2⟩
def cA (r : Int) : Cel := ⟨r, 0, 0, 0, At.zero, 0⟩
def A3 (k : Nat) : Cls := (List.range k).foldl (fun (R : Cls) (i : Nat) => putP R (i : Int) (cA (97 + (i : Int))) false) (newM 3 Cel.z)
def B1 : Cls := putP (newM 3 Cel.z) 0 (cA 100) true
def EX2 : List Cls := [[cA 97, cA 98, cA 99], [⟨100, 0, 0, 1, At.zero, 0⟩, ⟨0, 0, 0, 2, At.zero, 0⟩, cA 101]]
theorem exa_is : A3 3 = [cA 97, cA 98, cA 99] := by decide +kernel
theorem exb_is : putP B1 2 (cA 101) false = [⟨100, 0, 0, 1, At.zero, 0⟩, ⟨0, 0, 0, 2, At.zero, 0⟩, cA 101] := by decide +kernel
def HasRow (R : Cls) (w : World) (e : Ending) (w' : World) : Prop := ∃ v, e = .returned v ∧ RowIn w' v R ∧ Below w.heap.size w w'
theorem OwnRes.has {w : World} {R : Cls} {e : Ending} {w' : World} (h : OwnRes w R e w') : HasRow R w e w' := by
  obtain ⟨v, e, h1, h2⟩ := h
  exact ⟨v, e, h1.row, h2⟩
abbrev cV (r : Int) : Value := .agg #[.int .i32 r, .int .i32 0, .int .i32 0, .int .u8 0, .int .u8 0, .int .u8 0, .int .u8 0, .int .u8 0, .int .u8 0, .int .u8 0, .int .u8 0, .int .u8 0, .int .u16 0, .int .u8 0]
theorem put_c (W : World) (v : Value) (R S : Cls) (i r : Int) (wide : Bool) (h : RowIn W v R) (hw : whB R = true) (hl : R.length ≤ 1000) (hs : putP R i (cA r) wide = S) : Calls Tryd.prog 49 #[v, .int .i64 i, cV r, .bool wide] W (HasRow S W) := by
  subst hs
  exact (put_any W v R i (cA r) wide h (wh_of hw) hl).mono fun _ _ => OwnRes.has
theorem a3_step (k : Nat) : A3 (k + 1) = putP (A3 k) (k : Int) (cA (97 + (k : Int))) false := by unfold A3; rw [List.range_succ, List.foldl_append]; rfl
theorem GSee.two {w w1 : World} {x y : Value} {R S : Cls} (hx : RowIn w x R) (hy : RowIn w y S) (g : Nat) (hg : g = w.heap.size) (h1 : w1 = w.alloc (.cells #[x, y] 49)) : ∃ U, GSee w1 (.slice (some ⟨g, 0, none⟩) 2 2) [R, S] U := by
  have hb : Below w.heap.size w w1 := by rw [h1]; exact (Below.refl _ _).alloc (Nat.le_refl _) _
  have hL : Lie w1 g [x, y] := by rw [h1]; exact Lie.new w _ _ g hg
  refine ⟨fun i => if i = 0 then x else y, _, 2, rfl, Nat.le_refl _, fun _ => ⟨g, 0, rfl, hL.1, fun i hi => ?_⟩, fun i hi => ?_⟩
  · match i, hi with
    | 0, _ => exact hL.at 0 rfl
    | 1, _ => exact hL.at 1 rfl
  · match i, hi with
    | 0, _ => exact hx.below hb
    | 1, _ => exact hy.below hb
set_option maxHeartbeats 8000000 in
set_option maxRecDepth 100000 in
theorem example_any (w : World) : Calls Tryd.prog 25 #[] w (Makes12 w EX2) := by
  have N1 := Lib.hid (show ∀ W, Calls Tryd.prog 48 #[.int .i64 3, cV 0] W (HasRow (newM 3 Cel.z) W) from fun W => (new_any W 3 (cA 0) (by decide) (by decide)).mono fun e w' ⟨v, e1, h1, h2⟩ => ⟨v, e1, h1.row, h2⟩)
  go_enter Tryd.func25, Tryd.ntmps25
  go_wp2_with fail
  refine (N1.out _).mono ?_
  rintro e w1 ⟨v1, rfl, r1, b1⟩
  have HA1 := Lib.hid r1
  have HB1 := Lib.hid b1
  clear r1 b1
  go_wp2_with fail
  refine (N1.out _).mono ?_
  rintro e w2 ⟨v2, rfl, r1, b1⟩
  have HA2 := Lib.hid (show RowIn w2 v1 (A3 0) from HA1.out.below b1)
  have HC2 := Lib.hid r1
  have HB2 := Lib.hid (HB1.out.trans (b1.mono HB1.out.size))
  clear r1 b1 N1 HA1 HB1
  go_wp2
  go_loopg [1, 3] 3 (fun gl vv vi wr => ∃ (k : Nat), vi = .int .i64 k ∧ k ≤ 3 ∧ 3 - k ≤ gl ∧ Hid (RowIn wr vv (A3 k)) ∧ Hid (Below w2.heap.size w2 wr))
  case atStart => exact ⟨0, rfl, Nat.zero_le _, Nat.sub_le _ _, HA2, Lib.hid (Below.refl _ _)⟩
  case round =>
    obtain ⟨k, rfl, hkn, hgk, HA, HB⟩ := hrel
    clear HA2
    match k, hkn with
    | 0, _ =>
      go_wp2_with fail
      refine (put_c wr _ (A3 0) (A3 1) 0 97 false HA.out (by decide +kernel) (by decide +kernel) (a3_step 0).symm).mono ?_
      rintro e w3 ⟨v3, rfl, r1, b1⟩
      have HA3 := Lib.hid r1
      have HB3 := Lib.hid (HB.out.trans (b1.mono HB.out.size))
      clear r1 b1 HA HB
      go_wp2
      go_roundg 2
      case rel => exact ⟨1, by go_num, by omega, Nat.le_refl _, HA3, HB3⟩
      case measure => omega
    | 1, _ =>
      go_wp2_with fail
      refine (put_c wr _ (A3 1) (A3 2) 1 98 false HA.out (by decide +kernel) (by decide +kernel) (a3_step 1).symm).mono ?_
      rintro e w3 ⟨v3, rfl, r1, b1⟩
      have HA3 := Lib.hid r1
      have HB3 := Lib.hid (HB.out.trans (b1.mono HB.out.size))
      clear r1 b1 HA HB
      go_wp2
      go_roundg 1
      case rel => exact ⟨2, by go_num, by omega, Nat.le_refl _, HA3, HB3⟩
      case measure => omega
    | 2, _ =>
      go_wp2_with fail
      refine (put_c wr _ (A3 2) (A3 3) 2 99 false HA.out (by decide +kernel) (by decide +kernel) (a3_step 2).symm).mono ?_
      rintro e w3 ⟨v3, rfl, r1, b1⟩
      have HA3 := Lib.hid r1
      have HB3 := Lib.hid (HB.out.trans (b1.mono HB.out.size))
      clear r1 b1 HA HB
      go_wp2
      go_roundg 0
      case rel => exact ⟨3, by go_num, by omega, Nat.le_refl _, HA3, HB3⟩
      case measure => omega
    | 3, _ =>
      have HCR := Lib.hid (HC2.out.below HB.out)
      have HBR := Lib.hid (HB2.out.trans (HB.out.mono HB2.out.size))
      have HAE := Lib.hid (show RowIn wr u1 [cA 97, cA 98, cA 99] by rw [← exa_is]; exact HA.out)
      clear HA HC2
      go_wp2_with fail
      refine (put_c wr v2 (newM 3 Cel.z) B1 0 100 true HCR.out (by decide +kernel) (by decide +kernel) rfl).mono ?_
      rintro e w3 ⟨v3, rfl, r1, b1⟩
      have HP3 := Lib.hid r1
      have HA3 := Lib.hid (HAE.out.below b1)
      have HB3 := Lib.hid (HBR.out.trans (b1.mono HBR.out.size))
      clear r1 b1 HCR HBR HAE
      go_wp2_with fail
      refine (put_c w3 v3 B1 _ 2 101 false HP3.out (by decide +kernel) (by decide +kernel) exb_is).mono ?_
      rintro e w4 ⟨v4, rfl, r1, b1⟩
      have HP4 := Lib.hid r1
      have HA4 := Lib.hid (HA3.out.below b1)
      have HB4 := Lib.hid (HB3.out.trans (b1.mono HB3.out.size))
      clear r1 b1 HP3 HA3 HB3
      obtain ⟨xa, xc, ex⟩ := HA4.out.shape
      obtain ⟨ya, yc, ey⟩ := HP4.out.shape
      simp only [List.length_cons, List.length_nil, Nat.zero_add, Nat.reduceAdd] at ex ey
      subst ex ey
      obtain ⟨g, hg⟩ : ∃ g, g = w4.heap.size := ⟨_, rfl⟩
      obtain ⟨w5, hw5⟩ : ∃ X, X = w4.alloc (.cells #[.slice xa 3 xc, .slice ya 3 yc] 49) := ⟨_, rfl⟩
      have HG := Lib.hid (GSee.two HA4.out HP4.out g hg hw5)
      have HB5 := Lib.hid (show Below w.heap.size w w5 by rw [hw5]; exact HB4.out.alloc HB4.out.size _)
      clear HA4 HP4
      go_wp2
      rw [← hw5, ← hg]
      clear hw5 hg
      go_ret
      obtain ⟨U, hU⟩ := HG.out
      exact ⟨_, U, rfl, hU, HB5.out⟩
theorem text_c (W : World) (v : Value) (R : Cls) (l : Array UInt8) (h : RowIn W v R) (ht : txB R = true) (hl : R.length ≤ 1000) (hs : textM R = l.toList) : Calls Tryd.prog 50 #[v] W fun e w' => e = .returned (.string ⟨l⟩) ∧ Below W.heap.size W w' := by
  have := text_any W v R h (tx_of ht) hl
  rw [hs] at this
  exact this
set_option maxHeartbeats 4000000 in
theorem texts_any (W : World) (v : Value) (R S : Cls) (U : Nat → Value) (a b : Array UInt8) (h : GSee W v [R, S] U) (hr : txB R = true) (hs : txB S = true) (lr : R.length ≤ 1000) (ls : S.length ≤ 1000) (ea : textM R = a.toList) (eb : textM S = b.toList) :
    Calls Tryd.prog 26 #[v, .string ⟨a⟩, .string ⟨b⟩] W fun e w' => e = .returned (.bool true) ∧ Below W.heap.size W w' := by
  obtain ⟨g, o, c, rfl, hc, hg, hC⟩ := h.open (by simp)
  have HA := Lib.hid (h.row (i := 0) (by simp))
  have HB := Lib.hid (h.row (i := 1) (by simp))
  have c0 := hC 0 (by simp)
  rw [Nat.add_zero] at c0
  have HC1 := Lib.hid (show ∀ W', Below W.heap.size W W' → W'.cell? ⟨g, o + 1, none⟩ = some (U 1) from fun W' k => (k.cell (p := ⟨g, o + 1, none⟩) hg).trans (hC 1 (by simp)))
  obtain ⟨u0, hu0⟩ : ∃ u, u = U 0 := ⟨_, rfl⟩
  obtain ⟨u1, hu1⟩ : ∃ u, u = U 1 := ⟨_, rfl⟩
  rw [← hu0] at HA c0
  rw [← hu1] at HB HC1
  obtain ⟨xa, xc, ex⟩ := HA.out.shape
  obtain ⟨ya, yc, ey⟩ := HB.out.shape
  obtain ⟨xn, hxn⟩ : ∃ n, n = (rowG [R, S] 0).length := ⟨_, rfl⟩
  obtain ⟨yn, hyn⟩ : ∃ n, n = (rowG [R, S] 1).length := ⟨_, rfl⟩
  rw [← hxn] at ex
  rw [← hyn] at ey
  rw [ex] at HA c0
  rw [ey] at HB HC1
  clear hxn hyn ex ey
  simp only [List.length_cons, List.length_nil, Nat.zero_add, Nat.reduceAdd] at hc ⊢
  clear hC hu0 hu1 h hg
  go_enter Tryd.func26, Tryd.ntmps26
  go_wp2_with fail
  refine (text_c W _ R a HA.out hr lr ea).mono ?_
  rintro e w1 ⟨rfl, b1⟩
  have c1 := HC1.out w1 b1
  have HB1 := Lib.hid (HB.out.below b1)
  have HW1 := Lib.hid b1
  clear b1 HA HB HC1 c0
  go_wp2_with fail
  refine (text_c w1 _ S b HB1.out hs ls eb).mono ?_
  rintro e w2 ⟨rfl, b1⟩
  have HW2 := Lib.hid (HW1.out.trans (b1.mono HW1.out.size))
  clear b1
  go_wp2
  go_ret
  exact ⟨rfl, HW2.out⟩

theorem fieldsR : (Tryd.prog.fieldsOf 30).toList = [{ name := "Top", type := 3, offset := 0, embedded := false, tag := "", pkgPath := "", byteOffset := 0 }, { name := "Left", type := 3, offset := 1, embedded := false, tag := "", pkgPath := "", byteOffset := 8 }, { name := "Rows", type := 3, offset := 2, embedded := false, tag := "", pkgPath := "", byteOffset := 16 }, { name := "Cols", type := 3, offset := 3, embedded := false, tag := "", pkgPath := "", byteOffset := 24 }] := by kernel_rfl
theorem eqR4 (w : World) (a b c d a' b' c' d' : Int) : (Op.equalIn 10000 30 (.agg #[.int .i64 a, .int .i64 b, .int .i64 c, .int .i64 d]) (.agg #[.int .i64 a', .int .i64 b', .int .i64 c', .int .i64 d'])).run Tryd.prog w = .ok (decide (a = a' ∧ b = b' ∧ c = c' ∧ d = d')) w := by
  rw [show (10000 : Nat) = 9999 + 1 from rfl, run_equalIn_struct w 9999 _ _ _ (by kernel_rfl) Tryd.stoodInHeld30, fieldsR]
  simp only [Op.eqFields]
  go_simp
  by_cases h1 : a = a' <;> by_cases h2 : b = b' <;> by_cases h3 : c = c' <;> by_cases h4 : d = d' <;> simp [h1, h2, h3, h4]
theorem eqR4_self (w : World) (a b c d : Int) : (Op.equalIn 10000 30 (.agg #[.int .i64 a, .int .i64 b, .int .i64 c, .int .i64 d]) (.agg #[.int .i64 a, .int .i64 b, .int .i64 c, .int .i64 d])).run Tryd.prog w = .ok true w := by rw [eqR4]; simp
def okB (r : R4) : Bool := decide ((-9223372036854775808 ≤ r.t ∧ r.t ≤ 9223372036854775807) ∧ (-9223372036854775808 ≤ r.l ∧ r.l ≤ 9223372036854775807) ∧ (-9223372036854775808 ≤ r.n ∧ r.n ≤ 9223372036854775807) ∧ (-9223372036854775808 ≤ r.c ∧ r.c ≤ 9223372036854775807))
theorem ok_of {r : R4} (h : okB r = true) : r.Ok := by
  have := of_decide_eq_true h
  exact ⟨this.1, this.2.1, this.2.2.1, this.2.2.2⟩
def txG (G : List Cls) (a b : Array UInt8) : Bool := decide (G.length = 2) && (txB (rowG G 0) && (txB (rowG G 1) && (decide ((rowG G 0).length ≤ 1000) && (decide ((rowG G 1).length ≤ 1000) && (decide (textM (rowG G 0) = a.toList) && decide (textM (rowG G 1) = b.toList))))))
theorem texts_c (W : World) (v : Value) (G : List Cls) (U : Nat → Value) (a b : Array UInt8) (h : GSee W v G U) (ht : txG G a b = true) : Calls Tryd.prog 26 #[v, .string ⟨a⟩, .string ⟨b⟩] W fun e w' => e = .returned (.bool true) ∧ Below W.heap.size W w' := by
  unfold txG at ht
  simp only [Bool.and_eq_true, decide_eq_true_eq] at ht
  obtain ⟨h0, h1, h2, h3, h4, h5, h6⟩ := ht
  match G, h0 with
  | [R, S], _ => exact texts_any W v R S U a b h h1 h2 h3 h4 h5 h6
theorem fill_c (W : World) (v : Value) (G : List Cls) (U : Nat → Value) (m : Nat) (r : R4) (b : Cel) (hT : Tabs W) (h : GSee W v G U) (hg : ggB G m = true) (hr : okB r = true) : Calls Tryd.prog 23 #[v, r4V r, celV b] W (Makes12 W (if ofI b.ru = 1 then fillG G (clipM r G.length m) b else G)) := fill12_any W v G U m r b h (gg_of hg) (ok_of hr) hT
theorem erase_c (W : World) (v : Value) (G : List Cls) (U : Nat → Value) (m : Nat) (r : R4) (b : Cel) (h : GSee W v G U) (hg : ggB G m = true) (hr : okB r = true) : Calls Tryd.prog 24 #[v, r4V r, celV b] W (Makes12 W (fillG G (clipM r G.length m) b)) := erase12_any W v G U m r b h (gg_of hg) (ok_of hr)
theorem copy_c (W : World) (v : Value) (G : List Cls) (U : Nat → Value) (m : Nat) (r : R4) (tr tc : Int) (h : GSee W v G U) (hg : ggB G m = true) (hr : okB r = true) (h1 : okB ⟨tr, tc, 0, 0⟩ = true) : Calls Tryd.prog 19 #[v, r4V r, .agg #[.int .i64 tr, .int .i64 tc]] W (Makes12 W (copyR G m r tr tc)) := copy12_any W v G U m r tr tc h (gg_of hg) (ok_of hr) (ok_of h1).t (ok_of h1).l
def prB (r : R4) : Bool := decide ((-1000 ≤ r.t ∧ r.t ≤ 1000) ∧ (-1000 ≤ r.l ∧ r.l ≤ 1000) ∧ (-1000 ≤ r.n ∧ r.n ≤ 1000) ∧ (-1000 ≤ r.c ∧ r.c ≤ 1000))
theorem of_c (W : World) (p r : R4) (rows cols : Nat) (m0 m1 : Int) (o : Bool) (hp : prB p = true) (h1 : rows ≤ 1000) (h2 : cols ≤ 1000) (h3 : 0 ≤ m0 ∧ m0 ≤ 1000) (h4 : 0 ≤ m1 ∧ m1 ≤ 1000) (hr : (clipM (ofR p rows cols m0 m1 o) rows cols).r4 = r) :
    Calls Tryd.prog 27 #[r4V p, .int .i64 (rows : Nat), .int .i64 (cols : Nat), .agg #[.int .i64 m0, .int .i64 m1], .bool o] W fun e w' => e = .returned (r4V r) ∧ Below W.heap.size W w' := by
  have hp := of_decide_eq_true hp
  subst hr
  exact of12_any W p rows cols m0 m1 o hp.1 hp.2.1 hp.2.2.1 hp.2.2.2 h1 h2 h3 h4
theorem clip_c (W : World) (p r : R4) (rows cols : Nat) (hp : okB p = true) (h1 : rows ≤ 1000) (h2 : cols ≤ 1000) (hr : (clipM p rows cols).r4 = r) :
    Calls Tryd.prog 17 #[r4V p, .int .i64 (rows : Nat), .int .i64 (cols : Nat)] W fun e w' => e = .returned (r4V r) ∧ Below W.heap.size W w' := by
  subst hr
  exact clip_any W p rows cols (ok_of hp) (by omega) (by omega)
set_option maxHeartbeats 8000000 in
set_option maxRecDepth 100000 in
theorem works_any (w : World) (hT : Tabs w) : Calls Tryd.prog 8 #[] w fun e w' => e = .returned (.bool true) ∧ Below w.heap.size w w' := by
  have C0 := Lib.hid (example_any w)
  have HT := Lib.hid hT
  clear hT
  go_enter Tryd.func8, Tryd.ntmps8
  go_wp2_with fail
  refine C0.out.mono ?_
  rintro e w1 ⟨x, U, rfl, rx, b1⟩
  obtain ⟨xa, xc, rfl⟩ := rx.shape
  have h5 : EX2.length = 2 := rfl
  rw [h5] at rx ⊢
  have HX1 := Lib.hid rx
  have HT1 := Lib.hid (HT.out.below b1)
  have HB1 := Lib.hid b1
  clear rx b1 C0 h5 HT
  go_wp2_with fail
  refine (suml_any w1 _ EX2 U 3 ⟨0, 0, 1, 3⟩ HX1.out (gg_of (by decide +kernel)) (ok_of (by decide +kernel))).mono ?_
  rw [show sumK EX2 (clipM ⟨0, 0, 1, 3⟩ EX2.length 3) = 65242 by decide +kernel, show levK EX2 (clipM ⟨0, 0, 1, 3⟩ EX2.length 3) = 0 by decide +kernel]
  rintro e w2 ⟨rfl, b1⟩
  have HX2 := Lib.hid (HX1.out.below b1)
  have HT2 := Lib.hid (HT1.out.below b1)
  have HB2 := Lib.hid (HB1.out.trans (b1.mono HB1.out.size))
  clear b1 HX1 HT1 HB1
  go_wp2_with fail
  refine (texts_c w2 _ EX2 U #[97, 98, 99] #[100, 101] HX2.out (by decide +kernel)).mono ?_
  rintro e w3 ⟨rfl, b1⟩
  have HX3 := Lib.hid (HX2.out.below b1)
  have HT3 := Lib.hid (HT2.out.below b1)
  have HB3 := Lib.hid (HB2.out.trans (b1.mono HB2.out.size))
  clear b1 HX2 HT2 HB2
  go_wp2_with fail
  refine (fill_c w3 _ EX2 U 3 ⟨0, 1, 2, 1⟩ (cA 120) HT3.out HX3.out (by decide +kernel) (by decide +kernel)).mono ?_
  rintro e w4 ⟨mv, mu, rfl, rm, b1⟩
  have HX4 := Lib.hid (HX3.out.below b1)
  have HT4 := Lib.hid (HT3.out.below b1)
  have HB4 := Lib.hid (HB3.out.trans (b1.mono HB3.out.size))
  have HM := Lib.hid rm
  clear b1 rm HX3 HT3 HB3
  go_wp2_with fail
  refine (texts_c w4 mv (if ofI (cA 120).ru = 1 then fillG EX2 (clipM ⟨0, 1, 2, 1⟩ EX2.length 3) (cA 120) else EX2) mu #[97, 120, 99] #[32, 120, 101] HM.out (by decide +kernel)).mono ?_
  rintro e w5 ⟨rfl, b1⟩
  have HX5 := Lib.hid (HX4.out.below b1)
  have HT5 := Lib.hid (HT4.out.below b1)
  have HB5 := Lib.hid (HB4.out.trans (b1.mono HB4.out.size))
  clear b1 HX4 HT4 HB4
  clear HM
  go_wp2_with fail
  refine (copy_c w5 _ EX2 U 3 ⟨1, 1, 1, 2⟩ (0) (0) HX5.out (by decide +kernel) (by decide +kernel) (by decide +kernel)).mono ?_
  rintro e w6 ⟨mv, mu, rfl, rm, b1⟩
  have HX6 := Lib.hid (HX5.out.below b1)
  have HT6 := Lib.hid (HT5.out.below b1)
  have HB6 := Lib.hid (HB5.out.trans (b1.mono HB5.out.size))
  have HM := Lib.hid rm
  clear b1 rm HX5 HT5 HB5
  go_wp2_with fail
  refine (texts_c w6 mv (copyR EX2 3 ⟨1, 1, 1, 2⟩ (0) (0)) mu #[32, 101, 99] #[100, 101] HM.out (by decide +kernel)).mono ?_
  rintro e w7 ⟨rfl, b1⟩
  have HX7 := Lib.hid (HX6.out.below b1)
  have HT7 := Lib.hid (HT6.out.below b1)
  have HB7 := Lib.hid (HB6.out.trans (b1.mono HB6.out.size))
  clear b1 HX6 HT6 HB6
  clear HM
  go_wp2_with fail
  refine (copy_c w7 _ EX2 U 3 ⟨1, 0, 1, 2⟩ (0) (1) HX7.out (by decide +kernel) (by decide +kernel) (by decide +kernel)).mono ?_
  rintro e w8 ⟨mv, mu, rfl, rm, b1⟩
  have HX8 := Lib.hid (HX7.out.below b1)
  have HT8 := Lib.hid (HT7.out.below b1)
  have HB8 := Lib.hid (HB7.out.trans (b1.mono HB7.out.size))
  have HM := Lib.hid rm
  clear b1 rm HX7 HT7 HB7
  go_wp2_with fail
  refine (texts_c w8 mv (copyR EX2 3 ⟨1, 0, 1, 2⟩ (0) (1)) mu #[97, 100] #[100, 101] HM.out (by decide +kernel)).mono ?_
  rintro e w9 ⟨rfl, b1⟩
  have HX9 := Lib.hid (HX8.out.below b1)
  have HT9 := Lib.hid (HT8.out.below b1)
  have HB9 := Lib.hid (HB8.out.trans (b1.mono HB8.out.size))
  clear b1 HX8 HT8 HB8
  clear HM
  go_wp2_with fail
  refine (of_c w9 ⟨0, 0, 0, 0⟩ ⟨0, 0, 3, 4⟩ 3 4 0 0 false (by decide +kernel) (by decide) (by decide) (by decide) (by decide) (by decide +kernel)).mono ?_
  rintro e w10 ⟨rfl, b1⟩
  have HX10 := Lib.hid (HX9.out.below b1)
  have HT10 := Lib.hid (HT9.out.below b1)
  have HB10 := Lib.hid (HB9.out.trans (b1.mono HB9.out.size))
  clear b1 HX9 HT9 HB9
  have hq := fun w => eqR4_self w (0) (0) (3) (4)
  go_wp2_with fail
  refine (of_c w10 ⟨2, 1, 9, 2⟩ ⟨1, 0, 2, 2⟩ 3 4 0 0 false (by decide +kernel) (by decide) (by decide) (by decide) (by decide) (by decide +kernel)).mono ?_
  rintro e w11 ⟨rfl, b1⟩
  have HX11 := Lib.hid (HX10.out.below b1)
  have HT11 := Lib.hid (HT10.out.below b1)
  have HB11 := Lib.hid (HB10.out.trans (b1.mono HB10.out.size))
  clear b1 HX10 HT10 HB10
  have hq := fun w => eqR4_self w (1) (0) (2) (2)
  go_wp2
  go_ret
  exact ⟨rfl, HB11.out⟩
end Go.Proofs.YtlaafmjiiiaceaaDoor.Lab
