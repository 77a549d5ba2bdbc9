/- The chapter's examples hold: example, works. -/
import Derived.Test.YthildghpgajgoaaRoDoes
import Derived.Test.YthildghpgajgoaaRpText
namespace Go.Proofs.Ythildghpgajgoaa.Lab
open Go Go.RowKit

instance (R : Cls) (i : Nat) : Decidable (UnitAt R i) := by unfold UnitAt; infer_instance
def whB (R : Cls) : Bool := (List.range R.length).all fun i => decide (UnitAt R i)
theorem wh_of {R : Cls} (h : whB R = true) : Wh R := fun i hi => of_decide_eq_true (List.all_eq_true.1 h i (List.mem_range.2 hi))
def lvB (R : Cls) : Bool := (List.range R.length).all fun i => decide ((gc R i).l = 0 ∨ (gc R i).l = 1)
theorem lv_of {R : Cls} (h : lvB R = true) : Lv R := fun i hi => of_decide_eq_true (p := (gc R i).l = 0 ∨ (gc R i).l = 1) (List.all_eq_true.1 h i (List.mem_range.2 hi))
instance (r : Int) : Decidable (Shows r) := by unfold Shows; infer_instance
instance (c : Cel) : Decidable (TxtC c) := by unfold TxtC; infer_instance
def txB (R : Cls) : Bool := (List.range R.length).all fun i => decide (TxtC (gc R i))
theorem tx_of {R : Cls} (h : txB R = true) : TxtOk R := fun i hi => of_decide_eq_true (List.all_eq_true.1 h i (List.mem_range.2 hi))
def cA (r : Int) : Cel := ⟨r, 0, 0, 0, At.zero, 0⟩
def EX : Cls := [cA 97, cA 98, ⟨99, 0, 0, 1, At.zero, 0⟩, ⟨0, 0, 0, 2, At.zero, 0⟩, cA 100]
def E1 : Cls := putP (newM 5 Cel.z) 0 (cA 97) false
def E2 : Cls := putP E1 1 (cA 98) false
def E3 : Cls := putP E2 2 (cA 99) true
theorem ex_is : putP E3 4 (cA 100) false = EX := by decide +kernel
def HasRow (R : Cls) (w : World) (e : Ending) (w' : World) : Prop := ∃ v, e = .returned v ∧ RowIn w' v R ∧ Below w.heap.size w w'
theorem OwnRes.has {w : World} {R : Cls} {e : Ending} {w' : World} (h : OwnRes w R e w') : HasRow R w e w' := by
  obtain ⟨v, e, h1, h2⟩ := h
  exact ⟨v, e, h1.row, h2⟩
abbrev cV (r : Int) : Value := .agg #[.int .i32 r, .int .i32 0, .int .i32 0, .int .u8 0, .int .u8 0, .int .u8 0, .int .u8 0, .int .u8 0, .int .u8 0, .int .u8 0, .int .u8 0, .int .u8 0, .int .u16 0, .int .u8 0]
theorem put_c (W : World) (v : Value) (R S : Cls) (i r : Int) (wide : Bool) (h : RowIn W v R) (hw : whB R = true) (hl : R.length ≤ 1000) (hs : putP R i (cA r) wide = S) : Calls Try.prog 26 #[v, .int .i64 i, cV r, .bool wide] W (HasRow S W) := by
  subst hs
  exact (put_any W v R i (cA r) wide h (wh_of hw) hl).mono fun _ _ => OwnRes.has
theorem ins_c (W : World) (v : Value) (R S : Cls) (i n : Int) (h : RowIn W v R) (hw : whB R = true) (hl : R.length ≤ 1000) (hs : insertM R i n (cA 0) = S) : Calls Try.prog 15 #[v, .int .i64 i, .int .i64 n, cV 0] W (HasRow S W) := by
  subst hs
  exact (insert_any W v R i n (cA 0) h (wh_of hw) hl).mono fun _ _ => OwnRes.has
theorem del_c (W : World) (v : Value) (R S : Cls) (i n : Int) (h : RowIn W v R) (hw : whB R = true) (hl : R.length ≤ 1000) (hs : deleteM R i n (cA 0) = S) : Calls Try.prog 14 #[v, .int .i64 i, .int .i64 n, cV 0] W (HasRow S W) := by
  subst hs
  exact (delete_any W v R i n (cA 0) h (wh_of hw) hl).mono fun _ _ => OwnRes.has
theorem mark_c (W : World) (v : Value) (R S : Cls) (i m l : Int) (h : RowIn W v R) (hw : whB R = true) (hv : lvB R = true) (hl : R.length ≤ 1000) (h01 : l = 0 ∨ l = 1) (hs : markM R i m l = S) : Calls Try.prog 25 #[v, .int .i64 i, .int .i32 m, .int .u8 l] W (HasRow S W) := by
  subst hs
  exact (mark_any W v R i m l h (wh_of hw) (lv_of hv) hl h01).mono fun _ _ => OwnRes.has
theorem text_c (W : World) (v : Value) (R : Cls) (l : List UInt8) (h : RowIn W v R) (ht : txB R = true) (hl : R.length ≤ 1000) (hs : textM R = l) : Calls Try.prog 18 #[v] W fun e w' => e = .returned (.string ⟨l.toArray⟩) ∧ Below W.heap.size W w' := by
  subst hs
  exact text_any W v R h (tx_of ht) hl
set_option maxHeartbeats 4000000 in
theorem example_any (w : World) : Calls Try.prog 24 #[] w (HasRow EX w) := by
  have N1 := Lib.hid (show Calls Try.prog 35 #[.int .i64 5, cV 0] w (HasRow (newM 5 Cel.z) w) from (new_any w 5 (cA 0) (by decide) (by decide)).mono fun e w' ⟨v, e1, h1, h2⟩ => ⟨v, e1, h1.row, h2⟩)
  go_enter Try.func24, Try.ntmps24
  go_wp2_with fail
  refine N1.out.mono ?_
  rintro e w1 ⟨v1, rfl, r1, b1⟩
  have HR1 := Lib.hid r1
  have HB1 := Lib.hid b1
  clear r1 b1 N1
  go_wp2_with fail
  refine (put_c w1 v1 (newM 5 Cel.z) E1 0 97 false HR1.out (by decide +kernel) (by decide +kernel) rfl).mono ?_
  rintro e w2 ⟨v2, rfl, r1, b1⟩
  have HR2 := Lib.hid r1
  have HB2 := Lib.hid (HB1.out.trans (b1.mono HB1.out.size))
  clear r1 b1 HR1 HB1
  go_wp2_with fail
  refine (put_c w2 v2 (E1) E2 1 98 false HR2.out (by decide +kernel) (by decide +kernel) rfl).mono ?_
  rintro e w3 ⟨v3, rfl, r1, b1⟩
  have HR3 := Lib.hid r1
  have HB3 := Lib.hid (HB2.out.trans (b1.mono HB2.out.size))
  clear r1 b1 HR2 HB2
  go_wp2_with fail
  refine (put_c w3 v3 (E2) E3 2 99 true HR3.out (by decide +kernel) (by decide +kernel) rfl).mono ?_
  rintro e w4 ⟨v4, rfl, r1, b1⟩
  have HR4 := Lib.hid r1
  have HB4 := Lib.hid (HB3.out.trans (b1.mono HB3.out.size))
  clear r1 b1 HR3 HB3
  go_wp2_with fail
  refine (put_c w4 v4 (E3) EX 4 100 false HR4.out (by decide +kernel) (by decide +kernel) ex_is).mono ?_
  rintro e w5 ⟨v5, rfl, r1, b1⟩
  have HR5 := Lib.hid r1
  have HB5 := Lib.hid (HB4.out.trans (b1.mono HB4.out.size))
  clear r1 b1 HR4 HB4
  go_wp2
  go_ret
  exact ⟨v5, rfl, HR5.out, HB5.out⟩
def MX : Cls := [cA 97, cA 98, ⟨99, 769, 0, 1, At.zero, 0⟩, ⟨0, 0, 0, 2, At.zero, 0⟩, cA 100]
theorem mx_is : markM EX 3 769 0 = MX := by decide +kernel
set_option maxHeartbeats 8000000 in
set_option maxRecDepth 100000 in
theorem works_any (w : World) : Calls Try.prog 7 #[] w fun e w' => e = .returned (.bool true) ∧ Below w.heap.size w w' := by
  have C0 := Lib.hid (example_any w)
  go_enter Try.func7, Try.ntmps7
  go_wp2_with fail
  refine C0.out.mono ?_
  rintro e w1 ⟨x, rfl, rx, b1⟩
  obtain ⟨xa, xc, rfl⟩ := rx.shape
  have h5 : EX.length = 5 := rfl
  rw [h5] at rx ⊢
  have HX := Lib.hid rx
  have HB := Lib.hid b1
  clear rx b1 C0 h5
  go_wp2_with fail
  refine (mark_c w1 _ EX MX 3 769 0 HX.out (by decide +kernel) (by decide +kernel) (by decide) (.inl rfl) mx_is).mono ?_
  rintro e w2 ⟨y, rfl, ry, b2⟩
  obtain ⟨ya, yc, rfl⟩ := ry.shape
  have h5 : MX.length = 5 := rfl
  rw [h5] at ry ⊢
  have HY2 := Lib.hid ry
  have HX2 := Lib.hid (HX.out.below b2)
  have HB2 := Lib.hid (HB.out.trans (b2.mono HB.out.size))
  clear ry b2 HX HB h5
  go_wp2_with fail
  refine (text_c w2 _ (EX) [97, 98, 99, 100] HX2.out (by decide +kernel) (by decide +kernel) (by decide +kernel)).mono ?_
  rintro e w3 ⟨rfl, b1⟩
  have HY3 := Lib.hid (HY2.out.below b1)
  have HX3 := Lib.hid (HX2.out.below b1)
  have HB3 := Lib.hid (HB2.out.trans (b1.mono HB2.out.size))
  clear b1 HY2 HX2 HB2
  go_wp2_with fail
  refine (put_c w3 _ EX _ 3 120 false HX3.out (by decide +kernel) (by decide +kernel) rfl).mono ?_
  rintro e w4 ⟨t4, rfl, rt, b1⟩
  have HT := Lib.hid rt
  have HY4 := Lib.hid (HY3.out.below b1)
  have HX4 := Lib.hid (HX3.out.below b1)
  have HB4 := Lib.hid (HB3.out.trans (b1.mono HB3.out.size))
  clear rt b1 HY3 HX3 HB3
  go_wp2_with fail
  refine (text_c w4 _ (putP EX 3 (cA 120) false) [97, 98, 32, 120, 100] HT.out (by decide +kernel) (by decide +kernel) (by decide +kernel)).mono ?_
  rintro e w5 ⟨rfl, b1⟩
  have HY5 := Lib.hid (HY4.out.below b1)
  have HX5 := Lib.hid (HX4.out.below b1)
  have HB5 := Lib.hid (HB4.out.trans (b1.mono HB4.out.size))
  clear b1 HY4 HX4 HB4
  clear HT
  go_wp2_with fail
  refine (ins_c w5 _ EX _ 1 1 HX5.out (by decide +kernel) (by decide +kernel) rfl).mono ?_
  rintro e w6 ⟨t6, rfl, rt, b1⟩
  have HT := Lib.hid rt
  have HY6 := Lib.hid (HY5.out.below b1)
  have HX6 := Lib.hid (HX5.out.below b1)
  have HB6 := Lib.hid (HB5.out.trans (b1.mono HB5.out.size))
  clear rt b1 HY5 HX5 HB5
  go_wp2_with fail
  refine (text_c w6 _ (insertM EX 1 1 (cA 0)) [97, 32, 98, 99] HT.out (by decide +kernel) (by decide +kernel) (by decide +kernel)).mono ?_
  rintro e w7 ⟨rfl, b1⟩
  have HY7 := Lib.hid (HY6.out.below b1)
  have HX7 := Lib.hid (HX6.out.below b1)
  have HB7 := Lib.hid (HB6.out.trans (b1.mono HB6.out.size))
  clear b1 HY6 HX6 HB6
  clear HT
  go_wp2_with fail
  refine (ins_c w7 _ EX _ 1 2 HX7.out (by decide +kernel) (by decide +kernel) rfl).mono ?_
  rintro e w8 ⟨t8, rfl, rt, b1⟩
  have HT := Lib.hid rt
  have HY8 := Lib.hid (HY7.out.below b1)
  have HX8 := Lib.hid (HX7.out.below b1)
  have HB8 := Lib.hid (HB7.out.trans (b1.mono HB7.out.size))
  clear rt b1 HY7 HX7 HB7
  go_wp2_with fail
  refine (text_c w8 _ (insertM EX 1 2 (cA 0)) [97, 32, 32, 98, 32] HT.out (by decide +kernel) (by decide +kernel) (by decide +kernel)).mono ?_
  rintro e w9 ⟨rfl, b1⟩
  have HY9 := Lib.hid (HY8.out.below b1)
  have HX9 := Lib.hid (HX8.out.below b1)
  have HB9 := Lib.hid (HB8.out.trans (b1.mono HB8.out.size))
  clear b1 HY8 HX8 HB8
  clear HT
  go_wp2_with fail
  refine (del_c w9 _ EX _ 3 1 HX9.out (by decide +kernel) (by decide +kernel) rfl).mono ?_
  rintro e w10 ⟨t10, rfl, rt, b1⟩
  have HT := Lib.hid rt
  have HY10 := Lib.hid (HY9.out.below b1)
  have HX10 := Lib.hid (HX9.out.below b1)
  have HB10 := Lib.hid (HB9.out.trans (b1.mono HB9.out.size))
  clear rt b1 HY9 HX9 HB9
  go_wp2_with fail
  refine (text_c w10 _ (deleteM EX 3 1 (cA 0)) [97, 98, 32, 100, 32] HT.out (by decide +kernel) (by decide +kernel) (by decide +kernel)).mono ?_
  rintro e w11 ⟨rfl, b1⟩
  have HY11 := Lib.hid (HY10.out.below b1)
  have HX11 := Lib.hid (HX10.out.below b1)
  have HB11 := Lib.hid (HB10.out.trans (b1.mono HB10.out.size))
  clear b1 HY10 HX10 HB10
  clear HT
  obtain ⟨g, o, c', e, _, _, hC⟩ := HY11.out.open (by decide)
  injection e with e1 e2 e3
  subst e1
  have m2 := (hC 2 (by decide)).2.1
  have m3 := (hC 3 (by decide)).2.1
  have e4 : (gc MX 2).m0 = 769 := rfl
  have e5 : (gc MX 3).m0 = 0 := rfl
  rw [e4] at m2
  rw [e5] at m3
  clear e2 e3 hC e4 e5
  go_wp2
  go_ret
  exact ⟨rfl, HB11.out⟩
end Go.Proofs.Ythildghpgajgoaa.Lab
