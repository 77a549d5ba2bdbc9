/- The chapter's examples: the helper works answers true. -/
import Derived.Test.YtclaopidjfekmaaDoorToRows
namespace Go.Proofs.YtclaopidjfekmaaDoor.Lab
open Go Go.RowKit

theorem toks_one (w : World) (b : Nat) (hb : b = w.heap.size) (t : Tok) (va : Option Addr) (vn vc : Nat) (hM : MatAt w (.slice va vn vc) t.P) (T : TypeId) :
    ToksAt (w.alloc (.cells #[.int .i64 t.kind, .int .i32 t.rune, .int .u8 t.priv, .slice va vn vc, .string t.inter, .int .u8 t.fin, .string t.data] T)) (.slice (some ⟨b, 0, none⟩) 1 1) [t] := by
  refine ⟨_, 1, rfl, by simp [maxLen], fun _ => ⟨_, _, rfl, fun j hj => ?_⟩⟩
  have hj' : j < 1 := hj
  obtain rfl : j = 0 := by omega
  obtain ⟨_, hc, _⟩ := T7.newAt w b hb (.int .i64 t.kind) (.int .i32 t.rune) (.int .u8 t.priv) (.slice va vn vc) (.string t.inter) (.int .u8 t.fin) (.string t.data) T
  exact ⟨va, vn, vc, hc, hM.below ((Below.refl _ _).alloc (Nat.le_refl _) _)⟩
theorem putS_one {t : Tok} (h : rightB t = true) : putS [t] = tokS t := by
  apply bl_inj
  simp [putS, tokS, putL, h, bl]
theorem putE_one {t : Tok} (h : rightB t = true) : putE [t] = 0 := by simp [putE, h]
theorem putS_bad {t : Tok} (h : rightB t = false) : putS [t] = ⟨#[]⟩ := by simp [putS, h]
theorem putE_bad {t : Tok} (h : rightB t = false) : putE [t] = 3 := by simp [putE, h]

theorem put_tok (w : World) (b : Nat) (hb : b = w.heap.size) (k r p f : Int) (va : Option Addr) (vn vc : Nat) (P : Rws) (i d : ByteArray) (hM : MatAt w (.slice va vn vc) P) (hok : TokOk ⟨k, r, p, P, i, f, d⟩) (hP : Pow w) :
    Calls Tryd.prog 9 #[.slice (some ⟨b, 0, none⟩) 1 1] (w.alloc (.cells #[.int .i64 k, .int .i32 r, .int .u8 p, .slice va vn vc, .string i, .int .u8 f, .string d] 27)) fun e w' =>
      e = .returned (.tuple #[.string (putS [⟨k, r, p, P, i, f, d⟩]), .int .i64 (putE [⟨k, r, p, P, i, f, d⟩])]) ∧ Below w.heap.size w w' := by
  have b1 : Below w.heap.size w (w.alloc (.cells #[.int .i64 k, .int .i32 r, .int .u8 p, .slice va vn vc, .string i, .int .u8 f, .string d] 27)) := (Below.refl _ _).alloc (Nat.le_refl _) _
  refine (put_any _ [⟨k, r, p, P, i, f, d⟩] _ (toks_one w b hb ⟨k, r, p, P, i, f, d⟩ va vn vc hM _) (by intro t ht; rw [List.mem_singleton.1 ht]; exact hok) (by simp) (hP.on b1)).mono ?_
  rintro e w' ⟨rfl, b2⟩
  exact ⟨rfl, b1.trans (b2.mono b1.size)⟩

set_option maxHeartbeats 2000000 in
set_option maxRecDepth 100000 in
theorem laid_yes (k r p f : Int) (va : Option Addr) (vn vc : Nat) (P : Rws) (i d s : ByteArray) (w : World) (hM : MatAt w (.slice va vn vc) P) (hok : TokOk ⟨k, r, p, P, i, f, d⟩) (hR : rightB ⟨k, r, p, P, i, f, d⟩ = true) (hs : bl s = tokL ⟨k, r, p, P, i, f, d⟩) (hP : Pow w) :
    Calls Tryd.prog 34 #[tok7 k r p (.slice va vn vc) i f d, .string s] w fun e w' => e = .returned (.bool true) ∧ Below w.heap.size w w' := by
  have b1 : Below w.heap.size w (w.alloc (.cells #[.int .i64 k, .int .i32 r, .int .u8 p, .slice va vn vc, .string i, .int .u8 f, .string d] 27)) := (Below.refl _ _).alloc (Nat.le_refl _) _
  have HB1 := Lib.hid b1
  have HT := Lib.hid (T7.newAt w w.heap.size rfl (.int .i64 k) (.int .i32 r) (.int .u8 p) (.slice va vn vc) (.string i) (.int .u8 f) (.string d) 27)
  have HS := Lib.hid (show putS [⟨k, r, p, P, i, f, d⟩] = s from (putS_one hR).trans (bl_inj (by rw [hs]; rfl)))
  have HE := Lib.hid (putE_one hR)
  have HM1 := Lib.hid (hM.below b1)
  have HC := Lib.hid (put_tok (w.alloc (.cells #[.int .i64 k, .int .i32 r, .int .u8 p, .slice va vn vc, .string i, .int .u8 f, .string d] 27)) (w.heap.size + 1) (by simp) k r p f va vn vc P i d HM1.out hok (hP.on b1))
  have HO := Lib.hid hok
  have HR := Lib.hid hR
  clear hM hok hR hs hP b1
  go_enter Tryd.func34, Tryd.ntmps34
  go_wp2_with fail
  refine HC.out.mono ?_
  rintro e w2 ⟨rfl, b2⟩
  rw [HS.out, HE.out]
  obtain ⟨_, ⟨c0, c1, c2, c3, c4, c5, c6⟩, _⟩ := HT.out.below b2
  have HB2 := Lib.hid (HB1.out.trans (b2.mono HB1.out.size))
  have HM2 := Lib.hid (HM1.out.below b2)
  clear b2
  go_wp2_with fail
  refine (right_any k r p f va vn vc P i d _ HO.out.2.1 HM2.out HO.out.2.2.1 HO.out.2.2.2).mono ?_
  rintro e w3 ⟨rfl, b3⟩
  rw [HR.out]
  have HB3 := Lib.hid (HB2.out.trans (b3.mono HB2.out.size))
  clear b3
  go_wp2
  go_ret
  exact ⟨rfl, HB3.out⟩
set_option maxHeartbeats 2000000 in
set_option maxRecDepth 100000 in
theorem bad_yes (k r p f : Int) (va : Option Addr) (vn vc : Nat) (P : Rws) (i d : ByteArray) (w : World) (hM : MatAt w (.slice va vn vc) P) (hok : TokOk ⟨k, r, p, P, i, f, d⟩) (hR : rightB ⟨k, r, p, P, i, f, d⟩ = false) (hP : Pow w) :
    Calls Tryd.prog 20 #[tok7 k r p (.slice va vn vc) i f d] w fun e w' => e = .returned (.bool true) ∧ Below w.heap.size w w' := by
  have b1 : Below w.heap.size w (w.alloc (.cells #[.int .i64 k, .int .i32 r, .int .u8 p, .slice va vn vc, .string i, .int .u8 f, .string d] 27)) := (Below.refl _ _).alloc (Nat.le_refl _) _
  have HB1 := Lib.hid b1
  have HT := Lib.hid (T7.newAt w w.heap.size rfl (.int .i64 k) (.int .i32 r) (.int .u8 p) (.slice va vn vc) (.string i) (.int .u8 f) (.string d) 27)
  have HS := Lib.hid (putS_bad hR)
  have HE := Lib.hid (putE_bad hR)
  have HM1 := Lib.hid (hM.below b1)
  have HC := Lib.hid (put_tok (w.alloc (.cells #[.int .i64 k, .int .i32 r, .int .u8 p, .slice va vn vc, .string i, .int .u8 f, .string d] 27)) (w.heap.size + 1) (by simp) k r p f va vn vc P i d HM1.out hok (hP.on b1))
  have HO := Lib.hid hok
  have HR := Lib.hid hR
  clear hM hok hR hP b1
  go_enter Tryd.func20, Tryd.ntmps20
  go_wp2_with fail
  refine HC.out.mono ?_
  rintro e w2 ⟨rfl, b2⟩
  rw [HS.out, HE.out]
  obtain ⟨_, ⟨c0, c1, c2, c3, c4, c5, c6⟩, _⟩ := HT.out.below b2
  have HB2 := Lib.hid (HB1.out.trans (b2.mono HB1.out.size))
  have HM2 := Lib.hid (HM1.out.below b2)
  clear b2
  go_wp2_with fail
  refine (right_any k r p f va vn vc P i d _ HO.out.2.1 HM2.out HO.out.2.2.1 HO.out.2.2.2).mono ?_
  rintro e w3 ⟨rfl, b3⟩
  rw [HR.out]
  have HB3 := Lib.hid (HB2.out.trans (b3.mono HB2.out.size))
  clear b3
  go_wp2
  go_ret
  exact ⟨rfl, HB3.out⟩

theorem nums_lit (w : World) (n b : Nat) (r : List Int) (hn : n = r.length) (hb : b = w.heap.size) (hm : r.length ≤ maxLen) : NumsAt (w.alloc (.cells (intsV r).toArray 3)) (.slice (some ⟨b, 0, none⟩) n n) r := (nrow_lit w w.heap.size n b r hn hb (Nat.le_refl _) hm).nums
theorem it4 : Lib.itoa 4 = [52] := (Lib.itoa_nonneg 4).trans (Lib.decDigits_one (by decide))
theorem it1 : Lib.itoa 1 = [49] := (Lib.itoa_nonneg 1).trans (Lib.decDigits_one (by decide))
theorem it2 : Lib.itoa 2 = [50] := (Lib.itoa_nonneg 2).trans (Lib.decDigits_one (by decide))
theorem it3 : Lib.itoa 3 = [51] := (Lib.itoa_nonneg 3).trans (Lib.decDigits_one (by decide))
theorem it38 : Lib.itoa 38 = [51, 56] := by
  refine (Lib.itoa_nonneg 38).trans ?_
  rw [Lib.decDigits, dif_neg (by decide), Lib.decDigits_one (by decide)]
  rfl
theorem right_of {t : Tok} (hw : t.wf) (h : Right t) : rightB t = true := (right_iff hw).2 h
def P1 : Rws := [[3], [-1]]
def P2 : Rws := [[4, 3], [38, 2, -1, 1, 2, 3]]
theorem ok_row {r : List Int} (h : rowB r = true) : okRow r := row_iff.1 h
theorem par1 : parB P1 = true := by decide +kernel
theorem par2 : parB P2 = true := by decide +kernel
theorem hd1 : hdB 0 P1 none0 72 = true := by decide +kernel
theorem hd2 : hdB 0 P2 none0 109 = true := by decide +kernel
theorem hd3 : hdB 0 [] ⟨#[36]⟩ 113 = true := by decide +kernel
theorem yes1 : rightB ⟨3, 0, 0, P1, none0, 72, none0⟩ = true := by decide +kernel
theorem yes2 : rightB ⟨3, 0, 0, P2, none0, 109, none0⟩ = true := by decide +kernel
theorem yes3 : rightB ⟨2, 0, 0, [], ⟨#[35]⟩, 56, none0⟩ = true := by decide +kernel
theorem yes4 : rightB ⟨2, 0, 0, [], ⟨#[]⟩, 91, none0⟩ = false := by decide +kernel
theorem yes5 : rightB ⟨4, 0, 0, [], none0, 0, ⟨#[48, 59, 116]⟩⟩ = true := by decide +kernel
theorem yes6 : rightB ⟨5, 0, 0, [], ⟨#[36]⟩, 113, ⟨#[109]⟩⟩ = true := by decide +kernel
theorem l1 : bl ⟨#[27, 91, 51, 59, 72]⟩ = tokL ⟨3, 0, 0, P1, none0, 72, none0⟩ := by simp [tokL, headL, P1, allT, rowT, joinT, numT, it3, oneL, bl]
theorem l2 : bl ⟨#[27, 91, 52, 58, 51, 59, 51, 56, 58, 50, 58, 58, 49, 58, 50, 58, 51, 109]⟩ = tokL ⟨3, 0, 0, P2, none0, 109, none0⟩ := by simp [tokL, headL, P2, allT, rowT, joinT, numT, it1, it2, it3, it4, it38, oneL, bl]
theorem l3 : bl ⟨#[27, 35, 56]⟩ = tokL ⟨2, 0, 0, [], ⟨#[35]⟩, 56, none0⟩ := by decide +kernel
theorem l5 : bl ⟨#[27, 93, 48, 59, 116, 7]⟩ = tokL ⟨4, 0, 0, [], none0, 0, ⟨#[48, 59, 116]⟩⟩ := by decide +kernel
theorem l6 : bl ⟨#[27, 80, 36, 113, 109, 27, 92]⟩ = tokL ⟨5, 0, 0, [], ⟨#[36]⟩, 113, ⟨#[109]⟩⟩ := by decide +kernel
theorem okl {t : Tok} (h : decide (0 ≤ t.priv ∧ t.priv ≤ 255 ∧ 0 ≤ t.fin ∧ t.fin ≤ 255 ∧ -9223372036854775808 ≤ t.kind ∧ t.kind ≤ 9223372036854775807 ∧ t.inter.size ≤ 100 ∧ t.data.size ≤ 100) = true) : TokOk t := by
  have := of_decide_eq_true h
  unfold TokOk Tok.wf i64 maxLen
  omega

theorem mat2 (w : World) : MatAt (((w.alloc (.cells #[.int .i64 4, .int .i64 3] 3)).alloc (.cells #[.int .i64 38, .int .i64 2, .int .i64 (-1), .int .i64 1, .int .i64 2, .int .i64 3] 3)).alloc (.cells #[.slice (some ⟨w.heap.size, 0, none⟩) 2 2, .slice (some ⟨w.heap.size + 1, 0, none⟩) 6 6] 47)) (.slice (some ⟨w.heap.size + 1 + 1, 0, none⟩) 2 2) P2 := by
  refine ⟨_, 2, rfl, by simp [P2, maxLen], fun _ => ⟨_, _, rfl, fun j hj => ?_⟩⟩
  have hj' : j < 2 := hj
  have b2 : Below (w.heap.size + 1) (w.alloc (.cells #[.int .i64 4, .int .i64 3] 3)) (((w.alloc (.cells #[.int .i64 4, .int .i64 3] 3)).alloc (.cells #[.int .i64 38, .int .i64 2, .int .i64 (-1), .int .i64 1, .int .i64 2, .int .i64 3] 3)).alloc (.cells #[.slice (some ⟨w.heap.size, 0, none⟩) 2 2, .slice (some ⟨w.heap.size + 1, 0, none⟩) 6 6] 47)) := ((Below.refl _ _).alloc (by simp) _).alloc (by simp) _
  have n1 := (nums_lit w 2 w.heap.size [4, 3] rfl rfl (by simp [maxLen])).below (w' := ((w.alloc (.cells #[.int .i64 4, .int .i64 3] 3)).alloc (.cells #[.int .i64 38, .int .i64 2, .int .i64 (-1), .int .i64 1, .int .i64 2, .int .i64 3] 3)).alloc (.cells #[.slice (some ⟨w.heap.size, 0, none⟩) 2 2, .slice (some ⟨w.heap.size + 1, 0, none⟩) 6 6] 47)) (by simpa using b2)
  have n2 := (nums_lit (w.alloc (.cells #[.int .i64 4, .int .i64 3] 3)) 6 (w.heap.size + 1) [38, 2, -1, 1, 2, 3] rfl (by simp) (by simp [maxLen])).below (w' := ((w.alloc (.cells #[.int .i64 4, .int .i64 3] 3)).alloc (.cells #[.int .i64 38, .int .i64 2, .int .i64 (-1), .int .i64 1, .int .i64 2, .int .i64 3] 3)).alloc (.cells #[.slice (some ⟨w.heap.size, 0, none⟩) 2 2, .slice (some ⟨w.heap.size + 1, 0, none⟩) 6 6] 47)) ((Below.refl _ _).alloc (by simp) _)
  obtain rfl | rfl : j = 0 ∨ j = 1 := by omega
  · exact ⟨.slice (some ⟨w.heap.size, 0, none⟩) 2 2, by simp [World.cell?_alloc_at], n1⟩
  · exact ⟨.slice (some ⟨w.heap.size + 1, 0, none⟩) 6 6, by simp [World.cell?_alloc_at], n2⟩

set_option maxHeartbeats 8000000 in
set_option maxRecDepth 100000 in
theorem works_any (w : World) (hP : Pow w) : Calls Tryd.prog 16 #[] w fun e w' => e = .returned (.bool true) ∧ Below w.heap.size w w' := by
  have HP := Lib.hid hP
  clear hP
  go_enter Tryd.func16, Tryd.ntmps16
  go_wp2_with fail
  obtain ⟨wa, hwa⟩ : ∃ wa, wa = (((w.alloc (.cells #[.int .i64 4, .int .i64 3] 3)).alloc (.cells #[.int .i64 38, .int .i64 2, .int .i64 (-1), .int .i64 1, .int .i64 2, .int .i64 3] 3)).alloc (.cells #[.slice (some ⟨w.heap.size, 0, none⟩) 2 2, .slice (some ⟨w.heap.size + 1, 0, none⟩) 6 6] 47)).alloc (.cells #[.int .i64 3, .int .i32 0, .int .u8 0, .slice (some ⟨w.heap.size + 1 + 1, 0, none⟩) 2 2, .string ⟨#[]⟩, .int .u8 109, .string ⟨#[]⟩] 27) := ⟨_, rfl⟩
  have HSZ := Lib.hid (show w.heap.size + 1 + 1 + 1 + 1 = wa.heap.size by rw [hwa]; simp)
  have HB := Lib.hid (show Below w.heap.size w wa by rw [hwa]; exact ((((Below.refl _ _).alloc (by simp) _).alloc (by simp) _).alloc (by simp; try omega) _).alloc (by simp; try omega) _)
  have HM := Lib.hid (show MatAt wa (.slice (some ⟨w.heap.size + 1 + 1, 0, none⟩) 2 2) P2 by rw [hwa]; exact (mat2 w).below ((Below.refl _ _).alloc (Nat.le_refl _) _))
  have HT := Lib.hid (show T7 wa (w.heap.size + 1 + 1 + 1) (.int .i64 3) (.int .i32 0) (.int .u8 0) (.slice (some ⟨w.heap.size + 1 + 1, 0, none⟩) 2 2) (.string ⟨#[]⟩) (.int .u8 109) (.string ⟨#[]⟩) by rw [hwa]; exact T7.newAt _ _ (by simp) _ _ _ _ _ _ _ _)
  rw [HSZ.out, ← hwa]
  clear hwa
  have HN := Lib.hid (nums_lit wa 2 wa.heap.size [3, -1] rfl rfl (by simp [maxLen]))
  have HB1 := Lib.hid (HB.out.alloc HB.out.size (.cells #[.int .i64 3, .int .i64 (-1)] 3))
  refine (csi_any 72 _ [3, -1] _ HN.out (by simp)).mono ?_
  rintro e w1 ⟨va, vn, vc, rfl, hm1, b1⟩
  have HB2 := Lib.hid (HB1.out.trans (b1.mono HB1.out.size))
  have b1' : Below wa.heap.size wa w1 := ((Below.refl _ _).alloc (Nat.le_refl _) _).trans (b1.mono (by simp))
  have HT2 := Lib.hid (HT.out.below b1')
  have HM2 := Lib.hid (HM.out.below b1')
  have HM1 := Lib.hid (show MatAt w1 (.slice va vn vc) P1 from hm1)
  clear hm1 b1 b1' HT HM HB HN HB1
  go_wp2_with fail
  refine (laid_yes 3 0 0 72 va vn vc P1 none0 none0 ⟨#[27, 91, 51, 59, 72]⟩ _ HM1.out (okl (by decide +kernel)) yes1 l1 (HP.out.on HB2.out)).mono ?_
  rintro e w2 ⟨rfl, b2⟩
  have HB3 := Lib.hid (HB2.out.trans (b2.mono HB2.out.size))
  have HM3 := Lib.hid (HM2.out.below b2)
  obtain ⟨_, ⟨c0, c1, c2, c3, c4, c5, c6⟩, _⟩ := HT2.out.below b2
  clear b2 HT2 HM2 HM1 HB2
  go_wp2_with fail
  refine (laid_yes 3 0 0 109 (some ⟨w.heap.size + 1 + 1, 0, none⟩) 2 2 P2 none0 none0 ⟨#[27, 91, 52, 58, 51, 59, 51, 56, 58, 50, 58, 58, 49, 58, 50, 58, 51, 109]⟩ _ HM3.out (okl (by decide +kernel)) yes2 l2 (HP.out.on HB3.out)).mono ?_
  rintro e w3 ⟨rfl, b3⟩
  have HB4 := Lib.hid (HB3.out.trans (b3.mono HB3.out.size))
  clear b3 HB3 HM3 c0 c1 c2 c3 c4 c5 c6
  go_wp2_with fail
  refine (esc_any ⟨#[35]⟩ 56 _).mono ?_
  rintro e w4 ⟨rfl, b4⟩
  have HB5 := Lib.hid (HB4.out.trans (b4.mono HB4.out.size))
  clear b4 HB4
  go_wp2_with fail
  refine (laid_yes 2 0 0 56 none 0 0 [] ⟨#[35]⟩ none0 ⟨#[27, 35, 56]⟩ _ (MatAt.nil _) (okl (by decide +kernel)) yes3 l3 (HP.out.on HB5.out)).mono ?_
  rintro e w5 ⟨rfl, b5⟩
  have HB6 := Lib.hid (HB5.out.trans (b5.mono HB5.out.size))
  clear b5 HB5
  go_wp2_with fail
  refine (esc_any ⟨#[]⟩ 91 _).mono ?_
  rintro e w6 ⟨rfl, b6⟩
  have HB7 := Lib.hid (HB6.out.trans (b6.mono HB6.out.size))
  clear b6 HB6
  go_wp2_with fail
  refine (bad_yes 2 0 0 91 none 0 0 [] ⟨#[]⟩ none0 _ (MatAt.nil _) (okl (by decide +kernel)) yes4 (HP.out.on HB7.out)).mono ?_
  rintro e w7 ⟨rfl, b7⟩
  have HB8 := Lib.hid (HB7.out.trans (b7.mono HB7.out.size))
  clear b7 HB7
  go_wp2_with fail
  refine (laid_yes 4 0 0 0 none 0 0 [] none0 ⟨#[48, 59, 116]⟩ ⟨#[27, 93, 48, 59, 116, 7]⟩ _ (MatAt.nil _) (okl (by decide +kernel)) yes5 l5 (HP.out.on HB8.out)).mono ?_
  rintro e w8 ⟨rfl, b8⟩
  have HB9 := Lib.hid (HB8.out.trans (b8.mono HB8.out.size))
  clear b8 HB8
  go_wp2_with fail
  refine (laid_yes 5 0 0 113 none 0 0 [] ⟨#[36]⟩ ⟨#[109]⟩ ⟨#[27, 80, 36, 113, 109, 27, 92]⟩ _ (MatAt.nil _) (okl (by decide +kernel)) yes6 l6 (HP.out.on HB9.out)).mono ?_
  rintro e w9 ⟨rfl, b9⟩
  have HB10 := Lib.hid (HB9.out.trans (b9.mono HB9.out.size))
  clear b9 HB9
  go_wp2
  go_ret
  exact ⟨rfl, HB10.out⟩
end Go.Proofs.YtclaopidjfekmaaDoor.Lab
