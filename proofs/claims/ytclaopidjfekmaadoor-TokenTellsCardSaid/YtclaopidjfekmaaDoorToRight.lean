/- holds, Right: whether a token is right. -/
import Derived.Test.YtclaopidjfekmaaDoorToHolds
namespace Go.Proofs.YtclaopidjfekmaaDoor.Lab
open Go Go.RowKit

abbrev none0 : ByteArray := ⟨#[]⟩
def rightB (t : Tok) : Bool :=
  if t.kind = 0 then prnB t.rune && sameB t ⟨0, t.rune, 0, [], none0, 0, none0⟩
  else if t.kind = 1 then ctlB t.fin && sameB t ⟨1, 0, 0, [], none0, t.fin, none0⟩
  else if t.kind = 2 then escB t.inter t.fin && sameB t ⟨2, 0, 0, [], t.inter, t.fin, none0⟩
  else if t.kind = 3 then hdB t.priv t.P t.inter t.fin && sameB t ⟨3, 0, t.priv, t.P, t.inter, t.fin, none0⟩
  else if t.kind = 4 then datB t.data && sameB t ⟨4, 0, 0, [], none0, 0, t.data⟩
  else if t.kind = 5 then (hdB t.priv t.P t.inter t.fin && datB t.data) && sameB t ⟨5, 0, t.priv, t.P, t.inter, t.fin, t.data⟩
  else false
theorem bl_nil {s : ByteArray} : bl s = [] ↔ s = none0 := ⟨fun h => bl_inj (by rw [h]), fun h => by rw [h]⟩
theorem tok_eq {s t : Tok} : s = t ↔ s.kind = t.kind ∧ s.rune = t.rune ∧ s.priv = t.priv ∧ s.P = t.P ∧ s.inter = t.inter ∧ s.fin = t.fin ∧ s.data = t.data :=
  ⟨fun h => by subst h; exact ⟨rfl, rfl, rfl, rfl, rfl, rfl, rfl⟩, fun ⟨h1, h2, h3, h4, h5, h6, h7⟩ => Tok.ext' h1 h2 h3 h4 h5 h6 h7⟩
theorem esc_iff {i : ByteArray} {f : Int} (h0 : 0 ≤ f) (h1 : f ≤ 255) : escB i f = true ↔ intOk i ∧ 48 ≤ f ∧ f ≤ 126 ∧ (bl i = [] → ¬ opener f) := by
  unfold escB
  rw [toL, Bool.and_eq_true, Bool.and_eq_true, int_iff, btw_iff, Bool.not_eq_true', ← Bool.not_eq_true, Bool.and_eq_true, List.isEmpty_iff, opn_iff h0 h1]
  constructor
  · rintro ⟨⟨a, b, c⟩, d⟩
    exact ⟨a, b, c, fun x y => d ⟨x, y⟩⟩
  · rintro ⟨a, b, c, d⟩
    exact ⟨⟨a, b, c⟩, fun ⟨x, y⟩ => d x y⟩
theorem right_iff {t : Tok} (hw : t.wf) : rightB t = true ↔ Right t := by
  obtain ⟨_, _, f0, f1⟩ := hw
  unfold rightB Right
  by_cases h0 : t.kind = 0
  · rw [if_pos h0, Bool.and_eq_true, prn_iff, same_iff, tok_eq]
    simp only [bl_nil, h0]
    constructor
    · rintro ⟨a, _, _, b, c, d, e, f⟩
      exact .inl ⟨trivial, b, c, d, e, f, a⟩
    · rintro (⟨_, b, c, d, e, f, a⟩ | ⟨h, _⟩ | ⟨h, _⟩ | ⟨h, _⟩ | ⟨h, _⟩ | ⟨h, _⟩)
      · exact ⟨a, trivial, trivial, b, c, d, e, f⟩
      all_goals omega
  rw [if_neg h0]
  by_cases h1 : t.kind = 1
  · rw [if_pos h1, Bool.and_eq_true, ctl_iff, same_iff, tok_eq]
    simp only [bl_nil, h1]
    constructor
    · rintro ⟨a, _, b, c, d, e, _, f⟩
      exact .inr (.inl ⟨trivial, b, c, d, e, f, a⟩)
    · rintro (⟨h, _⟩ | ⟨_, b, c, d, e, f, a⟩ | ⟨h, _⟩ | ⟨h, _⟩ | ⟨h, _⟩ | ⟨h, _⟩)
      · omega
      · exact ⟨a, trivial, b, c, d, e, trivial, f⟩
      all_goals omega
  rw [if_neg h1]
  by_cases h2 : t.kind = 2
  · rw [if_pos h2, Bool.and_eq_true, esc_iff f0 f1, same_iff, tok_eq]
    simp only [bl_nil, h2]
    constructor
    · rintro ⟨⟨a1, a2, a3, a4⟩, _, b, c, d, _, _, e⟩
      exact .inr (.inr (.inl ⟨trivial, b, c, d, e, a1, a2, a3, a4⟩))
    · rintro (⟨h, _⟩ | ⟨h, _⟩ | ⟨_, b, c, d, e, a1, a2, a3, a4⟩ | ⟨h, _⟩ | ⟨h, _⟩ | ⟨h, _⟩)
      · omega
      · omega
      · exact ⟨⟨a1, a2, a3, a4⟩, trivial, b, c, d, trivial, trivial, e⟩
      all_goals omega
  rw [if_neg h2]
  by_cases h3 : t.kind = 3
  · rw [if_pos h3, Bool.and_eq_true, hd_iff, same_iff, tok_eq]
    simp only [bl_nil, h3]
    constructor
    · rintro ⟨a, _, b, _, _, _, _, e⟩
      exact .inr (.inr (.inr (.inl ⟨trivial, b, e, a⟩)))
    · rintro (⟨h, _⟩ | ⟨h, _⟩ | ⟨h, _⟩ | ⟨_, b, e, a⟩ | ⟨h, _⟩ | ⟨h, _⟩)
      · omega
      · omega
      · omega
      · exact ⟨a, trivial, b, trivial, trivial, trivial, trivial, e⟩
      all_goals omega
  rw [if_neg h3]
  by_cases h4 : t.kind = 4
  · rw [if_pos h4, Bool.and_eq_true, dat_iff, same_iff, tok_eq]
    simp only [bl_nil, h4]
    constructor
    · rintro ⟨a, _, b, c, d, e, f, _⟩
      exact .inr (.inr (.inr (.inr (.inl ⟨trivial, b, c, d, e, f, a⟩))))
    · rintro (⟨h, _⟩ | ⟨h, _⟩ | ⟨h, _⟩ | ⟨h, _⟩ | ⟨_, b, c, d, e, f, a⟩ | ⟨h, _⟩)
      · omega
      · omega
      · omega
      · omega
      · exact ⟨a, trivial, b, c, d, e, f, trivial⟩
      · omega
  rw [if_neg h4]
  by_cases h5 : t.kind = 5
  · rw [if_pos h5, Bool.and_eq_true, Bool.and_eq_true, hd_iff, dat_iff, same_iff, tok_eq]
    simp only [h5]
    constructor
    · rintro ⟨⟨a, a'⟩, _, b, _⟩
      exact .inr (.inr (.inr (.inr (.inr ⟨trivial, b, a, a'⟩))))
    · rintro (⟨h, _⟩ | ⟨h, _⟩ | ⟨h, _⟩ | ⟨h, _⟩ | ⟨h, _⟩ | ⟨_, b, a, a'⟩)
      · omega
      · omega
      · omega
      · omega
      · omega
      · exact ⟨⟨a, a'⟩, trivial, b, trivial, trivial, trivial, trivial, trivial⟩
  rw [if_neg h5]
  constructor
  · intro h
    cases h
  · rintro (⟨h, _⟩ | ⟨h, _⟩ | ⟨h, _⟩ | ⟨h, _⟩ | ⟨h, _⟩ | ⟨h, _⟩)
    all_goals omega

set_option maxHeartbeats 4000000 in
set_option maxRecDepth 100000 in
theorem holds0_any (r p f : Int) (va : Option Addr) (vn vc : Nat) (P : Rws) (i d : ByteArray) (w : World) (B : Nat) (hm : w.heap[B]? = some (.map M6 6)) (hM : MatAt w (.slice va vn vc) P) (hi : i.size ≤ maxLen) (hd : d.size ≤ maxLen) :
    Calls Tryd.prog 22 #[.map (some B), tok7 0 r p (.slice va vn vc) i f d] w fun e w' => e = .returned (.bool (prnB r && sameB ⟨0, r, p, P, i, f, d⟩ ⟨0, r, 0, [], none0, 0, none0⟩)) ∧ Below w.heap.size w w' := by
  have HI := Lib.hid hi
  have HD := Lib.hid hd
  have HM := Lib.hid hM
  have b0 : Below w.heap.size w (w.alloc (.cells #[.int .i64 0, .int .i32 r, .int .u8 p, .slice va vn vc, .string i, .int .u8 f, .string d] 27)) := (Below.refl _ _).alloc (Nat.le_refl _) _
  have hk := look (w.alloc (.cells #[.int .i64 0, .int .i32 r, .int .u8 p, .slice va vn vc, .string i, .int .u8 f, .string d] 27)) B 0 ⟨by decide, by decide⟩ ((b0.block B (Array.getElem?_eq_some_iff.1 hm).1).trans hm) (r := some (0, FV 39)) rfl
  simp only [gotF, Option.isSome] at hk
  have HT := Lib.hid (T7.newAt w w.heap.size rfl (.int .i64 0) (.int .i32 r) (.int .u8 p) (.slice va vn vc) (.string i) (.int .u8 f) (.string d) 27)
  obtain ⟨q, hq⟩ : ∃ q, prnB r = q := ⟨_, rfl⟩
  have HQ := Lib.hid hq
  have HC := Lib.hid (kind1_any 0 r p f va vn vc i d _ : Calls Tryd.prog 39 _ (w.alloc (.cells #[.int .i64 0, .int .i32 r, .int .u8 p, .slice va vn vc, .string i, .int .u8 f, .string d] 27)) _)
  have HB0 := Lib.hid b0
  clear hi hd hM hm hq b0
  go_enter Tryd.func22, Tryd.ntmps22
  go_wp2_with fail
  refine HC.out.mono ?_
  rintro e w2 ⟨rfl, b2⟩
  have HB2 := Lib.hid (HB0.out.trans (b2.mono HB0.out.size))
  have HM2 := Lib.hid (HM.out.below HB2.out)
  obtain ⟨hlt, ⟨c0, c1, c2, c3, c4, c5, c6⟩, _⟩ := HT.out.below b2
  clear b2 hk HC HB0 HT
  cases q
  · rw [HQ.out]
    go_wp2
    go_ret
    exact ⟨by rw [HQ.out]; rfl, HB2.out.alloc HB2.out.size _⟩
  · rw [HQ.out]
    have b3 := HB2.out.alloc HB2.out.size (.cells #[.int .i64 0, .int .i32 r, .int .u8 0, .slice none 0 0, .string none0, .int .u8 0, .string none0] 27)
    have HB3 := Lib.hid b3
    have HM3 := Lib.hid (HM.out.below b3)
    have hne : ¬ w.heap.size = w2.heap.size := by omega
    clear b3
    go_wp2_with fail
    refine (same_any 0 r p f 0 r 0 0 va (none) vn vc 0 0 P [] i d none0 none0 _ HM3.out (MatAt.nil _)).mono ?_
    rintro e w4 ⟨rfl, b4⟩
    have HB4 := Lib.hid (HB3.out.trans (b4.mono HB3.out.size))
    clear b4
    go_wp2
    go_ret
    exact ⟨by rw [HQ.out, Bool.true_and]; rfl, HB4.out⟩

set_option maxHeartbeats 4000000 in
set_option maxRecDepth 100000 in
theorem holds1_any (r p f : Int) (va : Option Addr) (vn vc : Nat) (P : Rws) (i d : ByteArray) (w : World) (B : Nat) (hm : w.heap[B]? = some (.map M6 6)) (hM : MatAt w (.slice va vn vc) P) (hi : i.size ≤ maxLen) (hd : d.size ≤ maxLen) :
    Calls Tryd.prog 22 #[.map (some B), tok7 1 r p (.slice va vn vc) i f d] w fun e w' => e = .returned (.bool (ctlB f && sameB ⟨1, r, p, P, i, f, d⟩ ⟨1, 0, 0, [], none0, f, none0⟩)) ∧ Below w.heap.size w w' := by
  have HI := Lib.hid hi
  have HD := Lib.hid hd
  have HM := Lib.hid hM
  have b0 : Below w.heap.size w (w.alloc (.cells #[.int .i64 1, .int .i32 r, .int .u8 p, .slice va vn vc, .string i, .int .u8 f, .string d] 27)) := (Below.refl _ _).alloc (Nat.le_refl _) _
  have hk := look (w.alloc (.cells #[.int .i64 1, .int .i32 r, .int .u8 p, .slice va vn vc, .string i, .int .u8 f, .string d] 27)) B 1 ⟨by decide, by decide⟩ ((b0.block B (Array.getElem?_eq_some_iff.1 hm).1).trans hm) (r := some (1, FV 41)) rfl
  simp only [gotF, Option.isSome] at hk
  have HT := Lib.hid (T7.newAt w w.heap.size rfl (.int .i64 1) (.int .i32 r) (.int .u8 p) (.slice va vn vc) (.string i) (.int .u8 f) (.string d) 27)
  obtain ⟨q, hq⟩ : ∃ q, ctlB f = q := ⟨_, rfl⟩
  have HQ := Lib.hid hq
  have HC := Lib.hid (kind2_any 1 r p f va vn vc i d _ : Calls Tryd.prog 41 _ (w.alloc (.cells #[.int .i64 1, .int .i32 r, .int .u8 p, .slice va vn vc, .string i, .int .u8 f, .string d] 27)) _)
  have HB0 := Lib.hid b0
  clear hi hd hM hm hq b0
  go_enter Tryd.func22, Tryd.ntmps22
  go_wp2_with fail
  refine HC.out.mono ?_
  rintro e w2 ⟨rfl, b2⟩
  have HB2 := Lib.hid (HB0.out.trans (b2.mono HB0.out.size))
  have HM2 := Lib.hid (HM.out.below HB2.out)
  obtain ⟨hlt, ⟨c0, c1, c2, c3, c4, c5, c6⟩, _⟩ := HT.out.below b2
  clear b2 hk HC HB0 HT
  cases q
  · rw [HQ.out]
    go_wp2
    go_ret
    exact ⟨by rw [HQ.out]; rfl, HB2.out.alloc HB2.out.size _⟩
  · rw [HQ.out]
    have b3 := HB2.out.alloc HB2.out.size (.cells #[.int .i64 1, .int .i32 0, .int .u8 0, .slice none 0 0, .string none0, .int .u8 f, .string none0] 27)
    have HB3 := Lib.hid b3
    have HM3 := Lib.hid (HM.out.below b3)
    have hne : ¬ w.heap.size = w2.heap.size := by omega
    clear b3
    go_wp2_with fail
    refine (same_any 1 r p f 1 0 0 f va (none) vn vc 0 0 P [] i d none0 none0 _ HM3.out (MatAt.nil _)).mono ?_
    rintro e w4 ⟨rfl, b4⟩
    have HB4 := Lib.hid (HB3.out.trans (b4.mono HB3.out.size))
    clear b4
    go_wp2
    go_ret
    exact ⟨by rw [HQ.out, Bool.true_and]; rfl, HB4.out⟩

set_option maxHeartbeats 4000000 in
set_option maxRecDepth 100000 in
theorem holds2_any (r p f : Int) (va : Option Addr) (vn vc : Nat) (P : Rws) (i d : ByteArray) (w : World) (B : Nat) (hm : w.heap[B]? = some (.map M6 6)) (hM : MatAt w (.slice va vn vc) P) (hi : i.size ≤ maxLen) (hd : d.size ≤ maxLen) :
    Calls Tryd.prog 22 #[.map (some B), tok7 2 r p (.slice va vn vc) i f d] w fun e w' => e = .returned (.bool (escB i f && sameB ⟨2, r, p, P, i, f, d⟩ ⟨2, 0, 0, [], i, f, none0⟩)) ∧ Below w.heap.size w w' := by
  have HI := Lib.hid hi
  have HD := Lib.hid hd
  have HM := Lib.hid hM
  have b0 : Below w.heap.size w (w.alloc (.cells #[.int .i64 2, .int .i32 r, .int .u8 p, .slice va vn vc, .string i, .int .u8 f, .string d] 27)) := (Below.refl _ _).alloc (Nat.le_refl _) _
  have hk := look (w.alloc (.cells #[.int .i64 2, .int .i32 r, .int .u8 p, .slice va vn vc, .string i, .int .u8 f, .string d] 27)) B 2 ⟨by decide, by decide⟩ ((b0.block B (Array.getElem?_eq_some_iff.1 hm).1).trans hm) (r := some (2, FV 43)) rfl
  simp only [gotF, Option.isSome] at hk
  have HT := Lib.hid (T7.newAt w w.heap.size rfl (.int .i64 2) (.int .i32 r) (.int .u8 p) (.slice va vn vc) (.string i) (.int .u8 f) (.string d) 27)
  obtain ⟨q, hq⟩ : ∃ q, escB i f = q := ⟨_, rfl⟩
  have HQ := Lib.hid hq
  have HC := Lib.hid (kind3_any 2 r p f va vn vc i d _ HI.out : Calls Tryd.prog 43 _ (w.alloc (.cells #[.int .i64 2, .int .i32 r, .int .u8 p, .slice va vn vc, .string i, .int .u8 f, .string d] 27)) _)
  have HB0 := Lib.hid b0
  clear hi hd hM hm hq b0
  go_enter Tryd.func22, Tryd.ntmps22
  go_wp2_with fail
  refine HC.out.mono ?_
  rintro e w2 ⟨rfl, b2⟩
  have HB2 := Lib.hid (HB0.out.trans (b2.mono HB0.out.size))
  have HM2 := Lib.hid (HM.out.below HB2.out)
  obtain ⟨hlt, ⟨c0, c1, c2, c3, c4, c5, c6⟩, _⟩ := HT.out.below b2
  clear b2 hk HC HB0 HT
  cases q
  · rw [HQ.out]
    go_wp2
    go_ret
    exact ⟨by rw [HQ.out]; rfl, HB2.out.alloc HB2.out.size _⟩
  · rw [HQ.out]
    have b3 := HB2.out.alloc HB2.out.size (.cells #[.int .i64 2, .int .i32 0, .int .u8 0, .slice none 0 0, .string i, .int .u8 f, .string none0] 27)
    have HB3 := Lib.hid b3
    have HM3 := Lib.hid (HM.out.below b3)
    have hne : ¬ w.heap.size = w2.heap.size := by omega
    clear b3
    go_wp2_with fail
    refine (same_any 2 r p f 2 0 0 f va (none) vn vc 0 0 P [] i d i none0 _ HM3.out (MatAt.nil _)).mono ?_
    rintro e w4 ⟨rfl, b4⟩
    have HB4 := Lib.hid (HB3.out.trans (b4.mono HB3.out.size))
    clear b4
    go_wp2
    go_ret
    exact ⟨by rw [HQ.out, Bool.true_and]; rfl, HB4.out⟩

set_option maxHeartbeats 4000000 in
set_option maxRecDepth 100000 in
theorem holds3_any (r p f : Int) (va : Option Addr) (vn vc : Nat) (P : Rws) (i d : ByteArray) (w : World) (B : Nat) (hm : w.heap[B]? = some (.map M6 6)) (hM : MatAt w (.slice va vn vc) P) (hi : i.size ≤ maxLen) (hd : d.size ≤ maxLen) :
    Calls Tryd.prog 22 #[.map (some B), tok7 3 r p (.slice va vn vc) i f d] w fun e w' => e = .returned (.bool (hdB p P i f && sameB ⟨3, r, p, P, i, f, d⟩ ⟨3, 0, p, P, i, f, none0⟩)) ∧ Below w.heap.size w w' := by
  have HI := Lib.hid hi
  have HD := Lib.hid hd
  have HM := Lib.hid hM
  have b0 : Below w.heap.size w (w.alloc (.cells #[.int .i64 3, .int .i32 r, .int .u8 p, .slice va vn vc, .string i, .int .u8 f, .string d] 27)) := (Below.refl _ _).alloc (Nat.le_refl _) _
  have hk := look (w.alloc (.cells #[.int .i64 3, .int .i32 r, .int .u8 p, .slice va vn vc, .string i, .int .u8 f, .string d] 27)) B 3 ⟨by decide, by decide⟩ ((b0.block B (Array.getElem?_eq_some_iff.1 hm).1).trans hm) (r := some (3, FV 47)) rfl
  simp only [gotF, Option.isSome] at hk
  have HT := Lib.hid (T7.newAt w w.heap.size rfl (.int .i64 3) (.int .i32 r) (.int .u8 p) (.slice va vn vc) (.string i) (.int .u8 f) (.string d) 27)
  obtain ⟨q, hq⟩ : ∃ q, hdB p P i f = q := ⟨_, rfl⟩
  have HQ := Lib.hid hq
  have HC := Lib.hid (kind4_any 3 r p f va vn vc P i d _ (HM.out.below b0) HI.out : Calls Tryd.prog 47 _ (w.alloc (.cells #[.int .i64 3, .int .i32 r, .int .u8 p, .slice va vn vc, .string i, .int .u8 f, .string d] 27)) _)
  have HB0 := Lib.hid b0
  clear hi hd hM hm hq b0
  go_enter Tryd.func22, Tryd.ntmps22
  go_wp2_with fail
  refine HC.out.mono ?_
  rintro e w2 ⟨rfl, b2⟩
  have HB2 := Lib.hid (HB0.out.trans (b2.mono HB0.out.size))
  have HM2 := Lib.hid (HM.out.below HB2.out)
  obtain ⟨hlt, ⟨c0, c1, c2, c3, c4, c5, c6⟩, _⟩ := HT.out.below b2
  clear b2 hk HC HB0 HT
  cases q
  · rw [HQ.out]
    go_wp2
    go_ret
    exact ⟨by rw [HQ.out]; rfl, HB2.out.alloc HB2.out.size _⟩
  · rw [HQ.out]
    have b3 := HB2.out.alloc HB2.out.size (.cells #[.int .i64 3, .int .i32 0, .int .u8 p, .slice va vn vc, .string i, .int .u8 f, .string none0] 27)
    have HB3 := Lib.hid b3
    have HM3 := Lib.hid (HM.out.below b3)
    have hne : ¬ w.heap.size = w2.heap.size := by omega
    clear b3
    go_wp2_with fail
    refine (same_any 3 r p f 3 0 p f va (va) vn vc vn vc P P i d i none0 _ HM3.out HM3.out).mono ?_
    rintro e w4 ⟨rfl, b4⟩
    have HB4 := Lib.hid (HB3.out.trans (b4.mono HB3.out.size))
    clear b4
    go_wp2
    go_ret
    exact ⟨by rw [HQ.out, Bool.true_and]; rfl, HB4.out⟩

set_option maxHeartbeats 4000000 in
set_option maxRecDepth 100000 in
theorem holds4_any (r p f : Int) (va : Option Addr) (vn vc : Nat) (P : Rws) (i d : ByteArray) (w : World) (B : Nat) (hm : w.heap[B]? = some (.map M6 6)) (hM : MatAt w (.slice va vn vc) P) (hi : i.size ≤ maxLen) (hd : d.size ≤ maxLen) :
    Calls Tryd.prog 22 #[.map (some B), tok7 4 r p (.slice va vn vc) i f d] w fun e w' => e = .returned (.bool (datB d && sameB ⟨4, r, p, P, i, f, d⟩ ⟨4, 0, 0, [], none0, 0, d⟩)) ∧ Below w.heap.size w w' := by
  have HI := Lib.hid hi
  have HD := Lib.hid hd
  have HM := Lib.hid hM
  have b0 : Below w.heap.size w (w.alloc (.cells #[.int .i64 4, .int .i32 r, .int .u8 p, .slice va vn vc, .string i, .int .u8 f, .string d] 27)) := (Below.refl _ _).alloc (Nat.le_refl _) _
  have hk := look (w.alloc (.cells #[.int .i64 4, .int .i32 r, .int .u8 p, .slice va vn vc, .string i, .int .u8 f, .string d] 27)) B 4 ⟨by decide, by decide⟩ ((b0.block B (Array.getElem?_eq_some_iff.1 hm).1).trans hm) (r := some (4, FV 49)) rfl
  simp only [gotF, Option.isSome] at hk
  have HT := Lib.hid (T7.newAt w w.heap.size rfl (.int .i64 4) (.int .i32 r) (.int .u8 p) (.slice va vn vc) (.string i) (.int .u8 f) (.string d) 27)
  obtain ⟨q, hq⟩ : ∃ q, datB d = q := ⟨_, rfl⟩
  have HQ := Lib.hid hq
  have HC := Lib.hid (kind5_any 4 r p f va vn vc i d HD.out _ : Calls Tryd.prog 49 _ (w.alloc (.cells #[.int .i64 4, .int .i32 r, .int .u8 p, .slice va vn vc, .string i, .int .u8 f, .string d] 27)) _)
  have HB0 := Lib.hid b0
  clear hi hd hM hm hq b0
  go_enter Tryd.func22, Tryd.ntmps22
  go_wp2_with fail
  refine HC.out.mono ?_
  rintro e w2 ⟨rfl, b2⟩
  have HB2 := Lib.hid (HB0.out.trans (b2.mono HB0.out.size))
  have HM2 := Lib.hid (HM.out.below HB2.out)
  obtain ⟨hlt, ⟨c0, c1, c2, c3, c4, c5, c6⟩, _⟩ := HT.out.below b2
  clear b2 hk HC HB0 HT
  cases q
  · rw [HQ.out]
    go_wp2
    go_ret
    exact ⟨by rw [HQ.out]; rfl, HB2.out.alloc HB2.out.size _⟩
  · rw [HQ.out]
    have b3 := HB2.out.alloc HB2.out.size (.cells #[.int .i64 4, .int .i32 0, .int .u8 0, .slice none 0 0, .string none0, .int .u8 0, .string d] 27)
    have HB3 := Lib.hid b3
    have HM3 := Lib.hid (HM.out.below b3)
    have hne : ¬ w.heap.size = w2.heap.size := by omega
    clear b3
    go_wp2_with fail
    refine (same_any 4 r p f 4 0 0 0 va (none) vn vc 0 0 P [] i d none0 d _ HM3.out (MatAt.nil _)).mono ?_
    rintro e w4 ⟨rfl, b4⟩
    have HB4 := Lib.hid (HB3.out.trans (b4.mono HB3.out.size))
    clear b4
    go_wp2
    go_ret
    exact ⟨by rw [HQ.out, Bool.true_and]; rfl, HB4.out⟩

set_option maxHeartbeats 4000000 in
set_option maxRecDepth 100000 in
theorem holds5_any (r p f : Int) (va : Option Addr) (vn vc : Nat) (P : Rws) (i d : ByteArray) (w : World) (B : Nat) (hm : w.heap[B]? = some (.map M6 6)) (hM : MatAt w (.slice va vn vc) P) (hi : i.size ≤ maxLen) (hd : d.size ≤ maxLen) :
    Calls Tryd.prog 22 #[.map (some B), tok7 5 r p (.slice va vn vc) i f d] w fun e w' => e = .returned (.bool ((hdB p P i f && datB d) && sameB ⟨5, r, p, P, i, f, d⟩ ⟨5, 0, p, P, i, f, d⟩)) ∧ Below w.heap.size w w' := by
  have HI := Lib.hid hi
  have HD := Lib.hid hd
  have HM := Lib.hid hM
  have b0 : Below w.heap.size w (w.alloc (.cells #[.int .i64 5, .int .i32 r, .int .u8 p, .slice va vn vc, .string i, .int .u8 f, .string d] 27)) := (Below.refl _ _).alloc (Nat.le_refl _) _
  have hk := look (w.alloc (.cells #[.int .i64 5, .int .i32 r, .int .u8 p, .slice va vn vc, .string i, .int .u8 f, .string d] 27)) B 5 ⟨by decide, by decide⟩ ((b0.block B (Array.getElem?_eq_some_iff.1 hm).1).trans hm) (r := some (5, FV 51)) rfl
  simp only [gotF, Option.isSome] at hk
  have HT := Lib.hid (T7.newAt w w.heap.size rfl (.int .i64 5) (.int .i32 r) (.int .u8 p) (.slice va vn vc) (.string i) (.int .u8 f) (.string d) 27)
  obtain ⟨q, hq⟩ : ∃ q, (hdB p P i f && datB d) = q := ⟨_, rfl⟩
  have HQ := Lib.hid hq
  have HC := Lib.hid (kind6_any 5 r p f va vn vc P i d _ (HM.out.below b0) HI.out HD.out : Calls Tryd.prog 51 _ (w.alloc (.cells #[.int .i64 5, .int .i32 r, .int .u8 p, .slice va vn vc, .string i, .int .u8 f, .string d] 27)) _)
  have HB0 := Lib.hid b0
  clear hi hd hM hm hq b0
  go_enter Tryd.func22, Tryd.ntmps22
  go_wp2_with fail
  refine HC.out.mono ?_
  rintro e w2 ⟨rfl, b2⟩
  have HB2 := Lib.hid (HB0.out.trans (b2.mono HB0.out.size))
  have HM2 := Lib.hid (HM.out.below HB2.out)
  obtain ⟨hlt, ⟨c0, c1, c2, c3, c4, c5, c6⟩, _⟩ := HT.out.below b2
  clear b2 hk HC HB0 HT
  cases q
  · rw [HQ.out]
    go_wp2
    go_ret
    exact ⟨by rw [HQ.out]; rfl, HB2.out.alloc HB2.out.size _⟩
  · rw [HQ.out]
    have b3 := HB2.out.alloc HB2.out.size (.cells #[.int .i64 5, .int .i32 0, .int .u8 p, .slice va vn vc, .string i, .int .u8 f, .string d] 27)
    have HB3 := Lib.hid b3
    have HM3 := Lib.hid (HM.out.below b3)
    have hne : ¬ w.heap.size = w2.heap.size := by omega
    clear b3
    go_wp2_with fail
    refine (same_any 5 r p f 5 0 p f va (va) vn vc vn vc P P i d i d _ HM3.out HM3.out).mono ?_
    rintro e w4 ⟨rfl, b4⟩
    have HB4 := Lib.hid (HB3.out.trans (b4.mono HB3.out.size))
    clear b4
    go_wp2
    go_ret
    exact ⟨by rw [HQ.out, Bool.true_and]; rfl, HB4.out⟩

set_option maxHeartbeats 4000000 in
set_option maxRecDepth 100000 in
theorem holds_no (k r p f : Int) (va : Option Addr) (vn vc : Nat) (i d : ByteArray) (w : World) (B : Nat) (hm : w.heap[B]? = some (.map M6 6)) (hk : i64 k) (h : k < 0 ∨ 5 < k) :
    Calls Tryd.prog 22 #[.map (some B), tok7 k r p (.slice va vn vc) i f d] w fun e w' => e = .returned (.bool false) ∧ Below w.heap.size w w' := by
  have b0 : Below w.heap.size w (w.alloc (.cells #[.int .i64 k, .int .i32 r, .int .u8 p, .slice va vn vc, .string i, .int .u8 f, .string d] 27)) := (Below.refl _ _).alloc (Nat.le_refl _) _
  have hf : Instr.findNow (.int .i64) (.int .i64 k) M6.toList 0 = some none := by
    have e0 : (k == 0) = false := by simp; omega
    have e1 : (k == 1) = false := by simp; omega
    have e2 : (k == 2) = false := by simp; omega
    have e3 : (k == 3) = false := by simp; omega
    have e4 : (k == 4) = false := by simp; omega
    have e5 : (k == 5) = false := by simp; omega
    simp [Instr.findNow, Instr.sameNow, e0, e1, e2, e3, e4, e5]
  have hk := look (w.alloc (.cells #[.int .i64 k, .int .i32 r, .int .u8 p, .slice va vn vc, .string i, .int .u8 f, .string d] 27)) B k hk ((b0.block B (Array.getElem?_eq_some_iff.1 hm).1).trans hm) hf
  simp only [gotF, Option.isSome] at hk
  clear hf hm h
  go_enter Tryd.func22, Tryd.ntmps22
  go_wp2
  go_ret
  exact ⟨rfl, b0⟩

theorem holds_any (t : Tok) (va : Option Addr) (vn vc : Nat) (w : World) (B : Nat) (hm : w.heap[B]? = some (.map M6 6)) (hk : i64 t.kind) (hM : MatAt w (.slice va vn vc) t.P) (hi : t.inter.size ≤ maxLen) (hd : t.data.size ≤ maxLen) :
    Calls Tryd.prog 22 #[.map (some B), tokV t (.slice va vn vc)] w fun e w' => e = .returned (.bool (rightB t)) ∧ Below w.heap.size w w' := by
  obtain ⟨k, r, p, P, i, f, d⟩ := t
  simp only at hk hM hi hd
  unfold rightB
  simp only
  by_cases h0 : k = 0
  · subst h0
    exact holds0_any r p f va vn vc P i d w B hm hM hi hd
  rw [if_neg h0]
  by_cases h1 : k = 1
  · subst h1
    exact holds1_any r p f va vn vc P i d w B hm hM hi hd
  rw [if_neg h1]
  by_cases h2 : k = 2
  · subst h2
    exact holds2_any r p f va vn vc P i d w B hm hM hi hd
  rw [if_neg h2]
  by_cases h3 : k = 3
  · subst h3
    exact holds3_any r p f va vn vc P i d w B hm hM hi hd
  rw [if_neg h3]
  by_cases h4 : k = 4
  · subst h4
    exact holds4_any r p f va vn vc P i d w B hm hM hi hd
  rw [if_neg h4]
  by_cases h5 : k = 5
  · subst h5
    exact holds5_any r p f va vn vc P i d w B hm hM hi hd
  rw [if_neg h5]
  exact holds_no k r p f va vn vc i d w B hm hk (by omega)
end Go.Proofs.YtclaopidjfekmaaDoor.Lab
