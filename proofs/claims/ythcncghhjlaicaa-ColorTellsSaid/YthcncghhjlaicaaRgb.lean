/- What the spec's long form, and the row of all forms, answer to any text. -/
import Derived.Test.YthcncghhjlaicaaForms
namespace Go.Proofs.Ythcncghhjlaicaa.Lab
open Go.RowKit

abbrev rgbP : List UInt8 := [114, 103, 98, 58]
def rgbA (l : List UInt8) : List UInt8 := (cutL (l.drop 4)).1
def rgbR (l : List UInt8) : List UInt8 := (cutL (l.drop 4)).2.1
def rgbB (l : List UInt8) : Bool := Lib.hasPrefix l rgbP && ((cutL (l.drop 4)).2.2 && ((cutL (rgbR l)).2.2 && rowsB (rgbA l) (cutL (rgbR l)).1 (cutL (rgbR l)).2.1))
def rgbV (l : List UInt8) : Nat × Nat × Nat := if rgbB l = true then rowsV (rgbA l) (cutL (rgbR l)).1 (cutL (rgbR l)).2.1 else (0, 0, 0)

theorem rgb_none {l : List UInt8} (h : rgbB l = false) {e : Ending} {w w' : World} (he : e = .returned (.tuple #[val 0 0 0, .bool false])) (hb : Below w.heap.size w w') : FormPost (rgbV l) (rgbB l) w e w' := by
  refine ⟨?_, hb⟩
  rw [he, h]
  unfold rgbV
  rw [h]
  rfl

theorem rgb_some {l : List UInt8} (h1 : Lib.hasPrefix l rgbP = true) (h2 : (cutL (l.drop 4)).2.2 = true) (h3 : (cutL (rgbR l)).2.2 = true) {a b c : List UInt8} (ha : rgbA l = a) (hbb : (cutL (rgbR l)).1 = b) (hc : (cutL (rgbR l)).2.1 = c) {e : Ending} {w w' : World} (he : e = .returned (.tuple #[valT (rowsV a b c), .bool (rowsB a b c)])) (hb : Below w.heap.size w w') : FormPost (rgbV l) (rgbB l) w e w' := by
  have e1 : rgbB l = rowsB a b c := by unfold rgbB; rw [h1, h2, h3, ha, hbb, hc]; simp
  refine ⟨?_, hb⟩
  rw [he]
  unfold rgbV
  rw [e1, ha, hbb, hc]
  cases h : rowsB a b c
  · rw [rowsV_none h]; rfl
  · rfl

/-- strings.Cut at a slash, of a text whose bytes are known by name. -/
theorem cut_of {s : ByteArray} {l a b : List UInt8} {q : Bool} (hs : s.size ≤ maxLen) (e1 : Hid (s.data.toList = l)) (e2 : Hid (cutL l = (a, b, q))) (w : World) :
    Calls Try.prog 36 #[.string s, .string ⟨#[47]⟩] w fun e w' => e = .returned (.tuple #[.string (bs a), .string (bs b), .bool q]) ∧ ∃ n, w' = w.drewN n := by
  have h := cut_any s hs w
  rw [e1.out] at h
  refine h.mono fun e w' ⟨he, hw⟩ => ⟨?_, hw⟩
  rw [he, e2.out]

theorem cut_le {l a b : List UInt8} {q : Bool} (e2 : cutL l = (a, b, q)) : a.length + b.length ≤ l.length := by
  have := cutL_length l
  rw [e2] at this
  exact this

theorem belowN {B : Nat} {a w : World} (h : Below B a w) (n : Nat) : Below B a (w.drewN n) := ⟨h.os, h.tape, h.output, h.size, h.block⟩

theorem bs_le {s : ByteArray} {l : List UInt8} (hs : s.size ≤ maxLen) (h : l.length ≤ s.data.toList.length) : (bs l).size ≤ maxLen := by
  rw [Lib.size_eq] at hs
  have : (bs l).size = l.length := by rw [Lib.size_eq]
  omega

set_option maxHeartbeats 4000000 in
theorem rgb_any (s : ByteArray) (hs : s.size ≤ maxLen) (w : World) :
    Calls Try.prog 35 #[.string s] w (FormPost (rgbV s.data.toList) (rgbB s.data.toList) w) := by
  cases hp : Lib.hasPrefix s.data.toList rgbP
  · have HP := Lib.hid hp
    have HT := Lib.hid (trim_miss hp)
    clear hp
    obtain ⟨a, b, q, h1⟩ : ∃ a b q, cutL s.data.toList = (a, b, q) := ⟨_, _, _, rfl⟩
    obtain ⟨c, d, q2, h2⟩ : ∃ c d q2, cutL b = (c, d, q2) := ⟨_, _, _, rfl⟩
    have k1 := cut_le h1
    have z1 : (bs b).size ≤ maxLen := bs_le hs (by omega)
    have HZ := hs
    have H1 := Lib.hid h1
    have H2 := Lib.hid h2
    clear h1 h2 k1
    go_enter Try.func35, Try.ntmps35
    go_wp2_with fail
    refine (Try.strings_CutPrefix _ _ _).mono ?_
    rintro e w' ⟨rfl, rfl⟩
    rw [HP.out, HT.out, Lib.mk_data]
    go_wp2_with fail
    refine (cut_of HZ (Lib.hid rfl) H1 _).mono ?_
    rintro e w' ⟨rfl, n1, rfl⟩
    go_wp2_with fail
    refine (cut_of z1 (Lib.hid rfl) H2 _).mono ?_
    rintro e w' ⟨rfl, n2, rfl⟩
    go_wp2
    refine bodyPost_ret (v := .tuple #[val 0 0 0, .bool false]) (by simp [results, Try.results35, go_sem]) rfl (rgb_none (by unfold rgbB; rw [HP.out]; rfl) rfl ?_)
    exact (((belowN ((Below.refl _ _).alloc (Nat.le_refl _) _) _).setCell (by simp) _).setCell (by simp) _).setCell (by simp) _
  · have HP := Lib.hid hp
    have ht := trim_hit hp
    clear hp
    obtain ⟨r, hr⟩ : ∃ r, s.data.toList.drop rgbP.length = r := ⟨_, rfl⟩
    rw [hr] at ht
    have kr : r.length ≤ s.data.toList.length := by rw [← hr]; simp
    have HT := Lib.hid ht
    have HR := Lib.hid hr
    clear ht hr
    obtain ⟨a, b, q, h1⟩ : ∃ a b q, cutL r = (a, b, q) := ⟨_, _, _, rfl⟩
    obtain ⟨c, d, q2, h2⟩ : ∃ c d q2, cutL b = (c, d, q2) := ⟨_, _, _, rfl⟩
    have k1 := cut_le h1
    have k2 := cut_le h2
    have HZ : (bs r).size ≤ maxLen := bs_le hs (by omega)
    have z1 : (bs b).size ≤ maxLen := bs_le hs (by omega)
    have za : (bs a).size ≤ maxLen := bs_le hs (by omega)
    have zc : (bs c).size ≤ maxLen := bs_le hs (by omega)
    have zd : (bs d).size ≤ maxLen := bs_le hs (by omega)
    have H1 := Lib.hid h1
    have H2 := Lib.hid h2
    clear h1 h2 k1 k2 kr
    cases q
    · go_enter Try.func35, Try.ntmps35
      go_wp2_with fail
      refine (Try.strings_CutPrefix _ _ _).mono ?_
      rintro e w' ⟨rfl, rfl⟩
      rw [HP.out, HT.out]
      go_wp2_with fail
      refine (cut_of HZ (Lib.hid rfl) H1 _).mono ?_
      rintro e w' ⟨rfl, n1, rfl⟩
      go_wp2_with fail
      refine (cut_of z1 (Lib.hid rfl) H2 _).mono ?_
      rintro e w' ⟨rfl, n2, rfl⟩
      go_wp2
      refine bodyPost_ret (v := .tuple #[val 0 0 0, .bool false]) (by simp [results, Try.results35, go_sem]) rfl (rgb_none (by unfold rgbB; rw [show s.data.toList.drop 4 = r from HR.out, H1.out]; simp) rfl ?_)
      exact (((belowN ((Below.refl _ _).alloc (Nat.le_refl _) _) _).setCell (by simp) _).setCell (by simp) _).setCell (by simp) _
    · cases q2
      · go_enter Try.func35, Try.ntmps35
        go_wp2_with fail
        refine (Try.strings_CutPrefix _ _ _).mono ?_
        rintro e w' ⟨rfl, rfl⟩
        rw [HP.out, HT.out]
        go_wp2_with fail
        refine (cut_of HZ (Lib.hid rfl) H1 _).mono ?_
        rintro e w' ⟨rfl, n1, rfl⟩
        go_wp2_with fail
        refine (cut_of z1 (Lib.hid rfl) H2 _).mono ?_
        rintro e w' ⟨rfl, n2, rfl⟩
        go_wp2
        refine bodyPost_ret (v := .tuple #[val 0 0 0, .bool false]) (by simp [results, Try.results35, go_sem]) rfl (rgb_none (by unfold rgbB rgbR; rw [show s.data.toList.drop 4 = r from HR.out, H1.out, H2.out]; simp) rfl ?_)
        exact (((belowN ((Below.refl _ _).alloc (Nat.le_refl _) _) _).setCell (by simp) _).setCell (by simp) _).setCell (by simp) _
      · go_enter Try.func35, Try.ntmps35
        go_wp2_with fail
        refine (Try.strings_CutPrefix _ _ _).mono ?_
        rintro e w' ⟨rfl, rfl⟩
        rw [HP.out, HT.out]
        go_wp2_with fail
        refine (cut_of HZ (Lib.hid rfl) H1 _).mono ?_
        rintro e w' ⟨rfl, n1, rfl⟩
        go_wp2_with fail
        refine (cut_of z1 (Lib.hid rfl) H2 _).mono ?_
        rintro e w' ⟨rfl, n2, rfl⟩
        go_wp2_with fail
        refine (rows_of za zc zd (Lib.hid rfl) (Lib.hid rfl) (Lib.hid rfl) _).mono ?_
        rintro e w6 ⟨rfl, hb6⟩
        have hv : V3 w6 w.heap.size 0 0 0 := V3.below (w := (w.alloc (.cells #[.int .u16 0, .int .u16 0, .int .u16 0] 35)).drewN (n1 + n2)) (V3.newAt w w.heap.size rfl 0 0 0 35) hb6
        obtain ⟨⟨s2, s3, s4⟩, s5, s6, s7⟩ := hv.s
        go_wp2
        refine bodyPost_ret (v := .tuple #[valT (rowsV a c d), .bool (rowsB a c d)]) (by simp [results, Try.results35, go_sem, s2, s3, s4]) rfl (rgb_some HP.out (by rw [show s.data.toList.drop 4 = r from HR.out, H1.out]) (by rw [show rgbR s.data.toList = b from by unfold rgbR; rw [show s.data.toList.drop 4 = r from HR.out, H1.out], H2.out]) (a := a) (b := c) (c := d) (by unfold rgbA; rw [show s.data.toList.drop 4 = r from HR.out, H1.out]) (by rw [show rgbR s.data.toList = b from by unfold rgbR; rw [show s.data.toList.drop 4 = r from HR.out, H1.out], H2.out]) (by rw [show rgbR s.data.toList = b from by unfold rgbR; rw [show s.data.toList.drop 4 = r from HR.out, H1.out], H2.out]) rfl ?_)
        exact (((bstep (belowN ((Below.refl _ _).alloc (Nat.le_refl _) _) _) hb6).setCell (by simp) _).setCell (by simp) _).setCell (by simp) _
end Go.Proofs.Ythcncghhjlaicaa.Lab
