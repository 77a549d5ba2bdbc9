/- The chapter's examples hold: works; RectKnown. -/
import Derived.Test.YtlaafmjiiiaceaaDoorRcEx
import Derived.Test.YtlaafmjiiiaceaaDoorWiTab
set_option linter.unusedVariables false
namespace Go.Proofs.YtlaafmjiiiaceaaDoor.Lab
open Go Go.RowKit

theorem fieldsR : (Tryd.prog.fieldsOf 30).toList = [{ name := "Top", type := 3, offset := 0, embedded := false, tag := "", pkgPath := "", byteOffset := 0 }, { name := "Left", type := 3, offset := 1, embedded := false, tag := "", pkgPath := "", byteOffset := 8 }, { name := "Rows", type := 3, offset := 2, embedded := false, tag := "", pkgPath := "", byteOffset := 16 }, { name := "Cols", type := 3, offset := 3, embedded := false, tag := "", pkgPath := "", byteOffset := 24 }] := by kernel_rfl
theorem eqR4 (w : World) (a b c d a' b' c' d' : Int) : (Op.equalIn 10000 30 (.agg #[.int .i64 a, .int .i64 b, .int .i64 c, .int .i64 d]) (.agg #[.int .i64 a', .int .i64 b', .int .i64 c', .int .i64 d'])).run Tryd.prog w = .ok (decide (a = a' ∧ b = b' ∧ c = c' ∧ d = d')) w := by
  rw [show (10000 : Nat) = 9999 + 1 from rfl, run_equalIn_struct w 9999 _ _ _ (by kernel_rfl) Tryd.stoodInHeld30, fieldsR]
  simp only [Op.eqFields]
  go_simp
  by_cases h1 : a = a' <;> by_cases h2 : b = b' <;> by_cases h3 : c = c' <;> by_cases h4 : d = d' <;> simp [h1, h2, h3, h4]
theorem eqR4_self (w : World) (a b c d : Int) : (Op.equalIn 10000 30 (.agg #[.int .i64 a, .int .i64 b, .int .i64 c, .int .i64 d]) (.agg #[.int .i64 a, .int .i64 b, .int .i64 c, .int .i64 d])).run Tryd.prog w = .ok true w := by rw [eqR4]; simp
def okB (r : R4) : Bool := decide ((-9223372036854775808 ≤ r.t ∧ r.t ≤ 9223372036854775807) ∧ (-9223372036854775808 ≤ r.l ∧ r.l ≤ 9223372036854775807) ∧ (-9223372036854775808 ≤ r.n ∧ r.n ≤ 9223372036854775807) ∧ (-9223372036854775808 ≤ r.c ∧ r.c ≤ 9223372036854775807))
theorem ok_of {r : R4} (h : okB r = true) : r.Ok := by
  have := of_decide_eq_true h
  exact ⟨this.1, this.2.1, this.2.2.1, this.2.2.2⟩
def txG (G : List Cls) (a b : Array UInt8) : Bool := decide (G.length = 2) && (txB (rowG G 0) && (txB (rowG G 1) && (decide ((rowG G 0).length ≤ 1000) && (decide ((rowG G 1).length ≤ 1000) && (decide (textM (rowG G 0) = a.toList) && decide (textM (rowG G 1) = b.toList))))))
theorem texts_c (W : World) (v : Value) (G : List Cls) (U : Nat → Value) (a b : Array UInt8) (h : GSee W v G U) (ht : txG G a b = true) : Calls Tryd.prog 26 #[v, .string ⟨a⟩, .string ⟨b⟩] W fun e w' => e = .returned (.bool true) ∧ Below W.heap.size W w' := by
  unfold txG at ht
  simp only [Bool.and_eq_true, decide_eq_true_eq] at ht
  obtain ⟨h0, h1, h2, h3, h4, h5, h6⟩ := ht
  match G, h0 with
  | [R, S], _ => exact texts_any W v R S U a b h h1 h2 h3 h4 h5 h6
theorem fill_c (W : World) (v : Value) (G : List Cls) (U : Nat → Value) (m : Nat) (r : R4) (b : Cel) (hT : Tabs W) (h : GSee W v G U) (hg : ggB G m = true) (hr : okB r = true) : Calls Tryd.prog 23 #[v, r4V r, celV b] W (Makes12 W (if ofI b.ru = 1 then fillG G (clipM r G.length m) b else G)) := fill12_any W v G U m r b h (gg_of hg) (ok_of hr) hT
theorem erase_c (W : World) (v : Value) (G : List Cls) (U : Nat → Value) (m : Nat) (r : R4) (b : Cel) (h : GSee W v G U) (hg : ggB G m = true) (hr : okB r = true) : Calls Tryd.prog 24 #[v, r4V r, celV b] W (Makes12 W (fillG G (clipM r G.length m) b)) := erase12_any W v G U m r b h (gg_of hg) (ok_of hr)
theorem copy_c (W : World) (v : Value) (G : List Cls) (U : Nat → Value) (m : Nat) (r : R4) (tr tc : Int) (h : GSee W v G U) (hg : ggB G m = true) (hr : okB r = true) (h1 : okB ⟨tr, tc, 0, 0⟩ = true) : Calls Tryd.prog 19 #[v, r4V r, .agg #[.int .i64 tr, .int .i64 tc]] W (Makes12 W (copyR G m r tr tc)) := copy12_any W v G U m r tr tc h (gg_of hg) (ok_of hr) (ok_of h1).t (ok_of h1).l
def prB (r : R4) : Bool := decide ((-1000 ≤ r.t ∧ r.t ≤ 1000) ∧ (-1000 ≤ r.l ∧ r.l ≤ 1000) ∧ (-1000 ≤ r.n ∧ r.n ≤ 1000) ∧ (-1000 ≤ r.c ∧ r.c ≤ 1000))
theorem of_c (W : World) (p r : R4) (rows cols : Nat) (m0 m1 : Int) (o : Bool) (hp : prB p = true) (h1 : rows ≤ 1000) (h2 : cols ≤ 1000) (h3 : 0 ≤ m0 ∧ m0 ≤ 1000) (h4 : 0 ≤ m1 ∧ m1 ≤ 1000) (hr : (clipM (ofR p rows cols m0 m1 o) rows cols).r4 = r) :
    Calls Tryd.prog 27 #[r4V p, .int .i64 (rows : Nat), .int .i64 (cols : Nat), .agg #[.int .i64 m0, .int .i64 m1], .bool o] W fun e w' => e = .returned (r4V r) ∧ Below W.heap.size W w' := by
  have hp := of_decide_eq_true hp
  subst hr
  exact of12_any W p rows cols m0 m1 o hp.1 hp.2.1 hp.2.2.1 hp.2.2.2 h1 h2 h3 h4
theorem clip_c (W : World) (p r : R4) (rows cols : Nat) (hp : okB p = true) (h1 : rows ≤ 1000) (h2 : cols ≤ 1000) (hr : (clipM p rows cols).r4 = r) :
    Calls Tryd.prog 17 #[r4V p, .int .i64 (rows : Nat), .int .i64 (cols : Nat)] W fun e w' => e = .returned (r4V r) ∧ Below W.heap.size W w' := by
  subst hr
  exact clip_any W p rows cols (ok_of hp) (by omega) (by omega)
set_option maxHeartbeats 8000000 in
set_option maxRecDepth 100000 in
theorem works_any (w : World) (hT : Tabs w) : Calls Tryd.prog 8 #[] w fun e w' => e = .returned (.bool true) ∧ Below w.heap.size w w' := by
  have C0 := Lib.hid (example_any w)
  have HT := Lib.hid hT
  clear hT
  go_enter Tryd.func8, Tryd.ntmps8
  go_wp2_with fail
  refine C0.out.mono ?_
  rintro e w1 ⟨x, U, rfl, rx, b1⟩
  obtain ⟨xa, xc, rfl⟩ := rx.shape
  have h5 : EX2.length = 2 := rfl
  rw [h5] at rx ⊢
  have HX1 := Lib.hid rx
  have HT1 := Lib.hid (HT.out.below b1)
  have HB1 := Lib.hid b1
  clear rx b1 C0 h5 HT
  go_wp2_with fail
  refine (suml_any w1 _ EX2 U 3 ⟨0, 0, 1, 3⟩ HX1.out (gg_of (by decide +kernel)) (ok_of (by decide +kernel))).mono ?_
  rw [show sumK EX2 (clipM ⟨0, 0, 1, 3⟩ EX2.length 3) = 65242 by decide +kernel, show levK EX2 (clipM ⟨0, 0, 1, 3⟩ EX2.length 3) = 0 by decide +kernel]
  rintro e w2 ⟨rfl, b1⟩
  have HX2 := Lib.hid (HX1.out.below b1)
  have HT2 := Lib.hid (HT1.out.below b1)
  have HB2 := Lib.hid (HB1.out.trans (b1.mono HB1.out.size))
  clear b1 HX1 HT1 HB1
  go_wp2_with fail
  refine (texts_c w2 _ EX2 U #[97, 98, 99] #[100, 101] HX2.out (by decide +kernel)).mono ?_
  rintro e w3 ⟨rfl, b1⟩
  have HX3 := Lib.hid (HX2.out.below b1)
  have HT3 := Lib.hid (HT2.out.below b1)
  have HB3 := Lib.hid (HB2.out.trans (b1.mono HB2.out.size))
  clear b1 HX2 HT2 HB2
  go_wp2_with fail
  refine (fill_c w3 _ EX2 U 3 ⟨0, 1, 2, 1⟩ (cA 120) HT3.out HX3.out (by decide +kernel) (by decide +kernel)).mono ?_
  rintro e w4 ⟨mv, mu, rfl, rm, b1⟩
  have HX4 := Lib.hid (HX3.out.below b1)
  have HT4 := Lib.hid (HT3.out.below b1)
  have HB4 := Lib.hid (HB3.out.trans (b1.mono HB3.out.size))
  have HM := Lib.hid rm
  clear b1 rm HX3 HT3 HB3
  go_wp2_with fail
  refine (texts_c w4 mv (if ofI (cA 120).ru = 1 then fillG EX2 (clipM ⟨0, 1, 2, 1⟩ EX2.length 3) (cA 120) else EX2) mu #[97, 120, 99] #[32, 120, 101] HM.out (by decide +kernel)).mono ?_
  rintro e w5 ⟨rfl, b1⟩
  have HX5 := Lib.hid (HX4.out.below b1)
  have HT5 := Lib.hid (HT4.out.below b1)
  have HB5 := Lib.hid (HB4.out.trans (b1.mono HB4.out.size))
  clear b1 HX4 HT4 HB4
  clear HM
  go_wp2_with fail
  refine (copy_c w5 _ EX2 U 3 ⟨1, 1, 1, 2⟩ (0) (0) HX5.out (by decide +kernel) (by decide +kernel) (by decide +kernel)).mono ?_
  rintro e w6 ⟨mv, mu, rfl, rm, b1⟩
  have HX6 := Lib.hid (HX5.out.below b1)
  have HT6 := Lib.hid (HT5.out.below b1)
  have HB6 := Lib.hid (HB5.out.trans (b1.mono HB5.out.size))
  have HM := Lib.hid rm
  clear b1 rm HX5 HT5 HB5
  go_wp2_with fail
  refine (texts_c w6 mv (copyR EX2 3 ⟨1, 1, 1, 2⟩ (0) (0)) mu #[32, 101, 99] #[100, 101] HM.out (by decide +kernel)).mono ?_
  rintro e w7 ⟨rfl, b1⟩
  have HX7 := Lib.hid (HX6.out.below b1)
  have HT7 := Lib.hid (HT6.out.below b1)
  have HB7 := Lib.hid (HB6.out.trans (b1.mono HB6.out.size))
  clear b1 HX6 HT6 HB6
  clear HM
  go_wp2_with fail
  refine (copy_c w7 _ EX2 U 3 ⟨1, 0, 1, 2⟩ (0) (1) HX7.out (by decide +kernel) (by decide +kernel) (by decide +kernel)).mono ?_
  rintro e w8 ⟨mv, mu, rfl, rm, b1⟩
  have HX8 := Lib.hid (HX7.out.below b1)
  have HT8 := Lib.hid (HT7.out.below b1)
  have HB8 := Lib.hid (HB7.out.trans (b1.mono HB7.out.size))
  have HM := Lib.hid rm
  clear b1 rm HX7 HT7 HB7
  go_wp2_with fail
  refine (texts_c w8 mv (copyR EX2 3 ⟨1, 0, 1, 2⟩ (0) (1)) mu #[97, 100] #[100, 101] HM.out (by decide +kernel)).mono ?_
  rintro e w9 ⟨rfl, b1⟩
  have HX9 := Lib.hid (HX8.out.below b1)
  have HT9 := Lib.hid (HT8.out.below b1)
  have HB9 := Lib.hid (HB8.out.trans (b1.mono HB8.out.size))
  clear b1 HX8 HT8 HB8
  clear HM
  go_wp2_with fail
  refine (of_c w9 ⟨0, 0, 0, 0⟩ ⟨0, 0, 3, 4⟩ 3 4 0 0 false (by decide +kernel) (by decide) (by decide) (by decide) (by decide) (by decide +kernel)).mono ?_
  rintro e w10 ⟨rfl, b1⟩
  have HX10 := Lib.hid (HX9.out.below b1)
  have HT10 := Lib.hid (HT9.out.below b1)
  have HB10 := Lib.hid (HB9.out.trans (b1.mono HB9.out.size))
  clear b1 HX9 HT9 HB9
  have hq := fun w => eqR4_self w (0) (0) (3) (4)
  go_wp2_with fail
  refine (of_c w10 ⟨2, 1, 9, 2⟩ ⟨1, 0, 2, 2⟩ 3 4 0 0 false (by decide +kernel) (by decide) (by decide) (by decide) (by decide) (by decide +kernel)).mono ?_
  rintro e w11 ⟨rfl, b1⟩
  have HX11 := Lib.hid (HX10.out.below b1)
  have HT11 := Lib.hid (HT10.out.below b1)
  have HB11 := Lib.hid (HB10.out.trans (b1.mono HB10.out.size))
  clear b1 HX10 HT10 HB10
  have hq := fun w => eqR4_self w (1) (0) (2) (2)
  go_wp2
  go_ret
  exact ⟨rfl, HB11.out⟩
end Go.Proofs.YtlaafmjiiiaceaaDoor.Lab
