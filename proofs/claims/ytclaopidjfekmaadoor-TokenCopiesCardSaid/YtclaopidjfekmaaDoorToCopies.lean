/- The Go law TokenCopies. -/
import Derived.Test.YtclaopidjfekmaaDoorToThree
namespace Go.Proofs.YtclaopidjfekmaaDoor.Lab
open Go Go.RowKit

theorem right_rows {t : Tok} (h : Right t) : t.P.length ≤ 32 ∧ ∀ q ∈ t.P, okRow q := by
  rcases h with ⟨_, _, e, _⟩ | ⟨_, _, _, e, _⟩ | ⟨_, _, _, e, _⟩ | ⟨_, _, _, _, h, _⟩ | ⟨_, _, _, e, _⟩ | ⟨_, _, ⟨_, h, _⟩, _⟩
  · rw [e]; simp
  · rw [e]; simp
  · rw [e]; simp
  · exact ⟨h.1, h.2.1⟩
  · rw [e]; simp
  · exact ⟨h.1, h.2.1⟩
theorem str_same {s t : Tok} (hs : Right s) (ht : Right t) (ws : s.wf) (wt : t.wf) : ((tokS s).toList == (tokS t).toList) = sameB s t := by
  rw [Bool.eq_iff_iff, beq_iff_eq, same_iff, ByteArray.toList_eq, ByteArray.toList_eq]
  exact ⟨fun h => tok_inj hs ht ws wt h, fun h => by rw [h]⟩
theorem sameB_comm (s t : Tok) : sameB s t = sameB t s := by
  rw [Bool.eq_iff_iff, same_iff, same_iff]
  exact ⟨fun h => h.symm, fun h => h.symm⟩

/-- A matrix of the same lengths; once anything is written, its first number is 77777. -/
def Fill (P Pz : Rws) (b : Prop) : Prop := Pz.length = P.length ∧ (∀ k, (Pz.getD k []).length = (P.getD k []).length) ∧ (b → (Pz.getD 0 []).getD 0 0 = 77777)

theorem rsame_self (t : Tok) (va xa : Option Addr) (vn vc xn xc : Nat) (w : World) (hM : MatAt w (.slice va vn vc) t.P) (hM' : MatAt w (.slice xa xn xc) t.P) :
    Calls Tryd.prog 14 #[tokV t (.slice va vn vc), tokV t (.slice xa xn xc)] w fun e w' => e = .returned (.bool true) ∧ Below w.heap.size w w' := by
  rw [← (same_iff (s := t) (t := t)).2 rfl]
  exact rsame_any _ _ _ _ _ _ _ _ _ _ _ _ _ _ t.P t.P _ _ _ _ w hM hM'
theorem same_other (t : Tok) (Pz : Rws) (va xa : Option Addr) (vn vc xn xc : Nat) (w : World) (hM : MatAt w (.slice va vn vc) t.P) (hM' : MatAt w (.slice xa xn xc) Pz) (hne : t.P ≠ Pz) :
    Calls Tryd.prog 13 #[tokV t (.slice va vn vc), tokV t (.slice xa xn xc)] w fun e w' => e = .returned (.bool false) ∧ Below w.heap.size w w' := by
  have h : sameB t ⟨t.kind, t.rune, t.priv, Pz, t.inter, t.fin, t.data⟩ = false := by
    rw [← Bool.not_eq_true, same_iff]
    intro e
    exact hne (congrArg Tok.P e)
  rw [← h]
  exact same_any _ _ _ _ _ _ _ _ _ _ _ _ _ _ t.P Pz _ _ _ _ w hM hM'
theorem fill_no {t : Tok} {Pz : Rws} (hw : t.wf) (hp : 0 < Pz.length) (h0 : 0 < (Pz.getD 0 []).length) (h : (Pz.getD 0 []).getD 0 0 = 77777) : rightB ⟨t.kind, t.rune, t.priv, Pz, t.inter, t.fin, t.data⟩ = false := by
  rw [← Bool.not_eq_true, right_iff (t := ⟨t.kind, t.rune, t.priv, Pz, t.inter, t.fin, t.data⟩) hw]
  intro hr
  have h1 := (right_rows hr).2 _ (getD_mem' (l := Pz) [] (k := 0) hp)
  have h2 := (h1.2.2 _ (getD_mem' (l := Pz.getD 0 []) 0 (k := 0) h0)).2
  rw [h] at h2
  omega

/-- Two tokens in memory, their blocks apart. -/
def Two (w2 : World) (t t' : Tok) (x y : Value) (w : World) : Prop :=
  ∃ b5 b6 va vn vc va' vn' vc', ∃ S S' : Nat → Prop, x = .pointer (some ⟨b5, 0, none⟩) ∧ y = .pointer (some ⟨b6, 0, none⟩) ∧
    T7 w b5 (.int .i64 t.kind) (.int .i32 t.rune) (.int .u8 t.priv) (.slice va vn vc) (.string t.inter) (.int .u8 t.fin) (.string t.data) ∧
    T7 w b6 (.int .i64 t'.kind) (.int .i32 t'.rune) (.int .u8 t'.priv) (.slice va' vn' vc') (.string t'.inter) (.int .u8 t'.fin) (.string t'.data) ∧
    MatIn w S (.slice va vn vc) t.P ∧ MatIn w S' (.slice va' vn' vc') t'.P ∧ (∀ g, S g → g < w.heap.size ∧ g ≠ b5 ∧ g ≠ b6) ∧ (∀ g, S' g → g < w.heap.size ∧ g ≠ b5 ∧ g ≠ b6) ∧ w2.heap.size ≤ b5 ∧ w2.heap.size ≤ b6 ∧ b5 ≠ b6 ∧ Below w2.heap.size w2 w

set_option maxHeartbeats 16000000 in
set_option maxRecDepth 100000 in
theorem copies_law (v v' : Value) (K p r f K' p' r' f' : Int) (PP PP' : Rws) (I I' : List Int) (d d' : ByteArray) (w : World) (hD : DraftAt w v K p r f PP I d) (hD' : DraftAt w v' K' p' r' f' PP' I' d') (hP : Pow w) :
    Calls Tryd.prog 6 #[v, v'] w fun e w' => e = .returned (.bool true) ∧ Below w.heap.size w w' := by
  obtain ⟨pv, iv, rfl, ⟨hK0, hK1⟩, ⟨hp0, hp1⟩, ⟨hf0, hf1⟩, hd, hS, hI, hB⟩ := hD
  obtain ⟨pv', iv', rfl, ⟨hK0', hK1'⟩, ⟨hp0', hp1'⟩, ⟨hf0', hf1'⟩, hd', hS', hI', hB'⟩ := hD'
  obtain ⟨hw, hR⟩ := tokD_right K p r PP I f d hB
  obtain ⟨hw', hR'⟩ := tokD_right K' p' r' PP' I' f' d' hB'
  have HW := Lib.hid hw
  have HRR := Lib.hid hR
  have HW' := Lib.hid hw'
  have HRR' := Lib.hid hR'
  have HP := Lib.hid hP
  obtain ⟨w1, hw1⟩ : ∃ w1, w1 = (w.alloc (.cells #[.int .u8 K, .int .u8 p, .int .i32 r, pv, iv, .int .u8 f, .string d] 41)).alloc (.cells #[.int .u8 K', .int .u8 p', .int .i32 r', pv', iv', .int .u8 f', .string d'] 41) := ⟨_, rfl⟩
  have b1 : Below w.heap.size w w1 := by rw [hw1]; exact ((Below.refl _ _).alloc (Nat.le_refl _) _).alloc (by simp) _
  have HB1 := Lib.hid b1
  have HS := Lib.hid (hS.on (Keeps.of b1))
  have HI := Lib.hid (hI.on (Keeps.of b1))
  have HS' := Lib.hid (hS'.on (Keeps.of b1))
  have HI' := Lib.hid (hI'.on (Keeps.of b1))
  have HT := Lib.hid (show T7 w1 w.heap.size (.int .u8 K) (.int .u8 p) (.int .i32 r) pv iv (.int .u8 f) (.string d) by rw [hw1]; exact (T7.newAt w w.heap.size rfl _ _ _ _ _ _ _ _).past _)
  have HT' := Lib.hid (show T7 w1 (w.heap.size + 1) (.int .u8 K') (.int .u8 p') (.int .i32 r') pv' iv' (.int .u8 f') (.string d') by rw [hw1]; exact T7.newAt _ (w.heap.size + 1) (by simp) _ _ _ _ _ _ _ _)
  clear hS hI hB hd hw hR hP b1 hS' hI' hB' hd' hw' hR'
  go_enter Tryd.func6, Tryd.ntmps6
  go_wp2_with fail
  rw [← hw1]
  clear hw1
  refine (works_any _ (HP.out.on HB1.out)).mono ?_
  rintro e w2 ⟨rfl, b2⟩
  have HT2 := Lib.hid (HT.out.below b2)
  have HT2' := Lib.hid (HT'.out.below b2)
  have HB2 := Lib.hid (HB1.out.trans (b2.mono HB1.out.size))
  have HS2 := Lib.hid (HS.out.on (Keeps.of b2))
  have HI2 := Lib.hid (HI.out.on (Keeps.of b2))
  have HS2' := Lib.hid (HS'.out.on (Keeps.of b2))
  have HI2' := Lib.hid (HI'.out.on (Keeps.of b2))
  clear b2 HB1 HS HI HT HS' HI' HT'
  go_upto_region 3 with (fail)
  obtain ⟨t, ht⟩ : ∃ t, tokD K p r PP I f d = t := ⟨_, rfl⟩
  obtain ⟨t', ht'⟩ : ∃ t, tokD K' p' r' PP' I' f' d' = t := ⟨_, rfl⟩
  have C1 := Lib.hid (show ∀ W, Below w2.heap.size w2 W → Calls Tryd.prog 17 #[drf K p r pv iv f d] W fun e w' => ∃ va vn vc S, e = .returned (tokV t (.slice va vn vc)) ∧ Made W w' S ∧ MatIn w' S (.slice va vn vc) t.P ∧ Below W.heap.size W w' from fun W hb => by
    subst ht
    exact draft_in K p r pv iv PP I f d W hK0 hK1 hp0 hf0 hf1 (HI2.out.on (Keeps.of hb)) (HS2.out.on (Keeps.of hb)))
  have C2 := Lib.hid (show ∀ W, Below w2.heap.size w2 W → Calls Tryd.prog 17 #[drf K' p' r' pv' iv' f' d'] W fun e w' => ∃ va vn vc S, e = .returned (tokV t' (.slice va vn vc)) ∧ Made W w' S ∧ MatIn w' S (.slice va vn vc) t'.P ∧ Below W.heap.size W w' from fun W hb => by
    subst ht'
    exact draft_in K' p' r' pv' iv' PP' I' f' d' W hK0' hK1' hp0' hf0' hf1' (HI2'.out.on (Keeps.of hb)) (HS2'.out.on (Keeps.of hb)))
  rw [ht] at HW HRR
  rw [ht'] at HW' HRR'
  clear ht ht' HI2 HS2 HI2' HS2'
  go_cut [5, 6] (fun x y wc => Hid (Two w2 t t' x y wc))
  case first =>
    have BB : Below w2.heap.size w2 w2 := Below.refl _ _
    refine wp_region_held_drew (S := fun w' => (w'.cell? ⟨w.heap.size, 0, none⟩ = some (.int .u8 K) ∧ w'.cell? ⟨w.heap.size, 1, none⟩ = some (.int .u8 p) ∧ w'.cell? ⟨w.heap.size, 2, none⟩ = some (.int .i32 r) ∧ w'.cell? ⟨w.heap.size, 3, none⟩ = some (pv) ∧ w'.cell? ⟨w.heap.size, 4, none⟩ = some (iv) ∧ w'.cell? ⟨w.heap.size, 5, none⟩ = some (.int .u8 f) ∧ w'.cell? ⟨w.heap.size, 6, none⟩ = some (.string d)) ∧ (w'.cell? ⟨w.heap.size + 1, 0, none⟩ = some (.int .u8 K') ∧ w'.cell? ⟨w.heap.size + 1, 1, none⟩ = some (.int .u8 p') ∧ w'.cell? ⟨w.heap.size + 1, 2, none⟩ = some (.int .i32 r') ∧ w'.cell? ⟨w.heap.size + 1, 3, none⟩ = some (pv') ∧ w'.cell? ⟨w.heap.size + 1, 4, none⟩ = some (iv') ∧ w'.cell? ⟨w.heap.size + 1, 5, none⟩ = some (.int .u8 f') ∧ w'.cell? ⟨w.heap.size + 1, 6, none⟩ = some (.string d'))) (by kernel_rfl) ?_ (fun hHeld => ?_)
    · exact ⟨(HT2.out.below (Below.refl _ _)).2.1, (HT2'.out.below (Below.refl _ _)).2.1⟩
    replace BB := (show Below w2.heap.size w2 w2.drew from ⟨rfl, rfl, rfl, Nat.le_refl _, fun _ _ => rfl⟩)
    obtain ⟨u0, hu0⟩ : ∃ u0, u0 = w2.drew := ⟨_, rfl⟩
    rw [← hu0] at BB hHeld ⊢
    clear hu0
    refine take_at (i := 0) (v := ?_) rfl (by kernel_rfl) (by kernel_rfl) (by kernel_rfl) (fun _ _ _ h => h) (by kernel_rfl) (by assumption) ?_ ?_
    rotate_left
    · (intro w hSw; (try dsimp only at hSw); go_simp; try with_reducible rfl)
    simp only [Act.put, List.setIfInBounds_toArray, List.set_cons_zero, List.set_cons_succ]
    refine take_at (i := 2) (v := ?_) rfl (by kernel_rfl) (by kernel_rfl) (by kernel_rfl) (fun _ _ _ h => h) (by kernel_rfl) (by assumption) ?_ ?_
    rotate_left
    · (intro w hSw; (try dsimp only at hSw); go_simp; try with_reducible rfl)
    simp only [Act.put, List.setIfInBounds_toArray, List.set_cons_zero, List.set_cons_succ]
    refine three_at (i := 1) (j := 4) (k := 5) rfl rfl rfl (by kernel_rfl) (by kernel_rfl) (by kernel_rfl) (by kernel_rfl) (fun K hK => ?_) (fun K hK => ?_) (fun K hK => ?_)
    · go_simp
      refine (C1.out _ BB).mono ?_
      rintro e u1 ⟨va, vn, vc, S1, rfl, mm, M1, bb⟩
      go_wp2_with fail
      have hz := bb.size
      have m1 : ∀ g, S1 g → g < u1.heap.size := fun g hg => by have := mm g hg; omega
      clear mm
      replace BB := BB.trans (bb.mono BB.size)
      clear bb hz hHeld
      refine hK.out _ _ ?_ (fun hHeld => ?_)
      · exact ⟨(HT2.out.below BB).2.1, (HT2'.out.below BB).2.1⟩
      clear hK K
      try simp only [Act.put, List.setIfInBounds_toArray, List.set_cons_zero, List.set_cons_succ]
      refine three_at (i := 3) (j := 4) (k := 5) rfl rfl rfl (by kernel_rfl) (by kernel_rfl) (by kernel_rfl) (by kernel_rfl) (fun K hK => ?_) (fun K hK => ?_) (fun K hK => ?_)
      · go_simp
        refine (C2.out _ BB).mono ?_
        rintro e u2 ⟨va', vn', vc', S2, rfl, mm, M2, bb⟩
        go_wp2_with fail
        have hz := bb.size
        replace M1 := M1.below bb (fun g hg => by have := m1 g hg; omega)
        have m2 : ∀ g, S2 g → g < u2.heap.size := fun g hg => by have := mm g hg; omega
        clear mm
        replace m1 : ∀ g, S1 g → g < u2.heap.size := fun g hg => by have := m1 g hg; omega
        replace BB := BB.trans (bb.mono BB.size)
        clear bb hz hHeld
        refine hK.out _ _ ?_ (fun hHeld => ?_)
        · exact ⟨(HT2.out.below BB).2.1, (HT2'.out.below BB).2.1⟩
        clear hK K
        try simp only [Act.put, List.setIfInBounds_toArray, List.set_cons_zero, List.set_cons_succ]
        refine two_at (i := 4) (j := 5) rfl rfl (by kernel_rfl) (by kernel_rfl) (by kernel_rfl) (fun K hK => ?_) (fun K hK => ?_)
        · go_simp
          obtain ⟨u3, hu3⟩ : ∃ wx, wx = u2.alloc (.cells #[.int .i64 0, .int .i32 0, .int .u8 0, .slice none 0 0, .string ⟨#[]⟩, .int .u8 0, .string ⟨#[]⟩] 27) := ⟨_, rfl⟩
          have bb : Below u2.heap.size u2 u3 := by rw [hu3]; exact (Below.refl _ _).alloc (Nat.le_refl _) _
          have T5 : T7 u3 u2.heap.size (.int .i64 0) (.int .i32 0) (.int .u8 0) (.slice none 0 0) (.string ⟨#[]⟩) (.int .u8 0) (.string ⟨#[]⟩) := by rw [hu3]; exact T7.newAt _ _ rfl _ _ _ _ _ _ _ _
          rw [← hu3]
          clear hu3
          have h5 : w2.heap.size ≤ u2.heap.size := BB.size
          have hz := bb.size
          replace M1 := M1.below bb (fun g hg => by have := m1 g hg; omega)
          replace M2 := M2.below bb (fun g hg => by have := m2 g hg; omega)
          obtain ⟨b5, eb5⟩ : ∃ b, u2.heap.size = b := ⟨_, rfl⟩
          rw [eb5] at T5 h5 ⊢
          replace m1 : ∀ g, S1 g → g < u3.heap.size ∧ g ≠ b5 := fun g hg => by have := m1 g hg; omega
          replace m2 : ∀ g, S2 g → g < u3.heap.size ∧ g ≠ b5 := fun g hg => by have := m2 g hg; omega
          have hlt := T5.1
          replace BB := BB.trans (bb.mono BB.size)
          clear bb hz eb5 hlt hHeld
          refine hK.out _ _ ?_ (fun hHeld => ?_)
          · exact ⟨(HT2.out.below BB).2.1, (HT2'.out.below BB).2.1⟩
          clear hK K
          try simp only [Act.put, List.setIfInBounds_toArray, List.set_cons_zero, List.set_cons_succ]
          refine do_at (i := 5) rfl (by kernel_rfl) (by kernel_rfl) (fun K hK => ?_)
          go_simp
          obtain ⟨u4, hu4⟩ : ∃ wx, wx = u3.alloc (.cells #[.int .i64 0, .int .i32 0, .int .u8 0, .slice none 0 0, .string ⟨#[]⟩, .int .u8 0, .string ⟨#[]⟩] 27) := ⟨_, rfl⟩
          have bb : Below u3.heap.size u3 u4 := by rw [hu4]; exact (Below.refl _ _).alloc (Nat.le_refl _) _
          have T6 : T7 u4 u3.heap.size (.int .i64 0) (.int .i32 0) (.int .u8 0) (.slice none 0 0) (.string ⟨#[]⟩) (.int .u8 0) (.string ⟨#[]⟩) := by rw [hu4]; exact T7.newAt _ _ rfl _ _ _ _ _ _ _ _
          rw [← hu4]
          clear hu4
          have h6 : w2.heap.size ≤ u3.heap.size := BB.size
          have hz := bb.size
          have l5 := T5.1
          replace T5 := T5.below bb
          replace M1 := M1.below bb (fun g hg => by have := m1 g hg; omega)
          replace M2 := M2.below bb (fun g hg => by have := m2 g hg; omega)
          obtain ⟨b6, eb6⟩ : ∃ b, u3.heap.size = b := ⟨_, rfl⟩
          rw [eb6] at T6 h6 ⊢
          replace m1 : ∀ g, S1 g → g < u4.heap.size ∧ g ≠ b5 ∧ g ≠ b6 := fun g hg => by have := m1 g hg; omega
          replace m2 : ∀ g, S2 g → g < u4.heap.size ∧ g ≠ b5 ∧ g ≠ b6 := fun g hg => by have := m2 g hg; omega
          have ne : b5 ≠ b6 := by omega
          have hlt := T6.1
          replace BB := BB.trans (bb.mono BB.size)
          clear bb hz l5 eb6 hlt hHeld
          refine hK.out _ _ ?_ (fun hHeld => ?_)
          · exact ⟨(HT2.out.below BB).2.1, (HT2'.out.below BB).2.1⟩
          clear hK K
          try simp only [Act.put, List.setIfInBounds_toArray, List.set_cons_zero, List.set_cons_succ]
          refine do_at (i := 6) rfl (by kernel_rfl) (by kernel_rfl) (fun K hK => ?_)
          obtain ⟨_, ⟨z0, z1, z2, z3, z4, z5, z6⟩, zf⟩ := T5
          have x0 := zf 0
          have x1 := zf 1
          have x2 := zf 2
          have x3 := zf 3
          have x4 := zf 4
          have x5 := zf 5
          have x6 := zf 6
          go_simp
          replace T5 := (show T7 u4 b5 (.int .i64 0) (.int .i32 0) (.int .u8 0) (.slice none 0 0) (.string ⟨#[]⟩) (.int .u8 0) (.string ⟨#[]⟩) from ⟨by assumption, ⟨z0, z1, z2, z3, z4, z5, z6⟩, zf⟩).put (.int .i64 t.kind) (.int .i32 t.rune) (.int .u8 t.priv) (.slice va vn vc) (.string t.inter) (.int .u8 t.fin) (.string t.data)
          replace T6 := T6.put_other (b' := b5) (c0 := .int .i64 t.kind) (c1 := .int .i32 t.rune) (c2 := .int .u8 t.priv) (c3 := .slice va vn vc) (c4 := .string t.inter) (c5 := .int .u8 t.fin) (c6 := .string t.data) ne.symm
          replace M1 := M1.put (b := b5) (a0 := .int .i64 t.kind) (a1 := .int .i32 t.rune) (a2 := .int .u8 t.priv) (a3 := .slice va vn vc) (a4 := .string t.inter) (a5 := .int .u8 t.fin) (a6 := .string t.data) (fun g hg => (m1 g hg).2.1)
          replace M2 := M2.put (b := b5) (a0 := .int .i64 t.kind) (a1 := .int .i32 t.rune) (a2 := .int .u8 t.priv) (a3 := .slice va vn vc) (a4 := .string t.inter) (a5 := .int .u8 t.fin) (a6 := .string t.data) (fun g hg => (m2 g hg).2.1)
          replace BB := put7_below BB h5 (.int .i64 t.kind) (.int .i32 t.rune) (.int .u8 t.priv) (.slice va vn vc) (.string t.inter) (.int .u8 t.fin) (.string t.data)
          have hsz := put7_size u4 b5 (.int .i64 t.kind) (.int .i32 t.rune) (.int .u8 t.priv) (.slice va vn vc) (.string t.inter) (.int .u8 t.fin) (.string t.data)
          change K _ (put7 u4 b5 (.int .i64 t.kind) (.int .i32 t.rune) (.int .u8 t.priv) (.slice va vn vc) (.string t.inter) (.int .u8 t.fin) (.string t.data))
          generalize put7 u4 b5 (.int .i64 t.kind) (.int .i32 t.rune) (.int .u8 t.priv) (.slice va vn vc) (.string t.inter) (.int .u8 t.fin) (.string t.data) = u5 at T5 T6 M1 M2 BB hsz ⊢
          rw [← hsz] at m1 m2
          clear z0 z1 z2 z3 z4 z5 z6 zf x0 x1 x2 x3 x4 x5 x6 hsz hHeld
          refine hK.out _ _ ?_ (fun hHeld => ?_)
          · exact ⟨(HT2.out.below BB).2.1, (HT2'.out.below BB).2.1⟩
          clear hK K
          try simp only [Act.put, List.setIfInBounds_toArray, List.set_cons_zero, List.set_cons_succ]
          refine do_at (i := 7) rfl (by kernel_rfl) (by kernel_rfl) (fun K hK => ?_)
          obtain ⟨_, ⟨z0, z1, z2, z3, z4, z5, z6⟩, zf⟩ := T6
          have x0 := zf 0
          have x1 := zf 1
          have x2 := zf 2
          have x3 := zf 3
          have x4 := zf 4
          have x5 := zf 5
          have x6 := zf 6
          go_simp
          replace T6 := (show T7 u5 b6 (.int .i64 0) (.int .i32 0) (.int .u8 0) (.slice none 0 0) (.string ⟨#[]⟩) (.int .u8 0) (.string ⟨#[]⟩) from ⟨by assumption, ⟨z0, z1, z2, z3, z4, z5, z6⟩, zf⟩).put (.int .i64 t'.kind) (.int .i32 t'.rune) (.int .u8 t'.priv) (.slice va' vn' vc') (.string t'.inter) (.int .u8 t'.fin) (.string t'.data)
          replace T5 := T5.put_other (b' := b6) (c0 := .int .i64 t'.kind) (c1 := .int .i32 t'.rune) (c2 := .int .u8 t'.priv) (c3 := .slice va' vn' vc') (c4 := .string t'.inter) (c5 := .int .u8 t'.fin) (c6 := .string t'.data) ne
          replace M1 := M1.put (b := b6) (a0 := .int .i64 t'.kind) (a1 := .int .i32 t'.rune) (a2 := .int .u8 t'.priv) (a3 := .slice va' vn' vc') (a4 := .string t'.inter) (a5 := .int .u8 t'.fin) (a6 := .string t'.data) (fun g hg => (m1 g hg).2.2)
          replace M2 := M2.put (b := b6) (a0 := .int .i64 t'.kind) (a1 := .int .i32 t'.rune) (a2 := .int .u8 t'.priv) (a3 := .slice va' vn' vc') (a4 := .string t'.inter) (a5 := .int .u8 t'.fin) (a6 := .string t'.data) (fun g hg => (m2 g hg).2.2)
          replace BB := put7_below BB h6 (.int .i64 t'.kind) (.int .i32 t'.rune) (.int .u8 t'.priv) (.slice va' vn' vc') (.string t'.inter) (.int .u8 t'.fin) (.string t'.data)
          have hsz := put7_size u5 b6 (.int .i64 t'.kind) (.int .i32 t'.rune) (.int .u8 t'.priv) (.slice va' vn' vc') (.string t'.inter) (.int .u8 t'.fin) (.string t'.data)
          change K _ (put7 u5 b6 (.int .i64 t'.kind) (.int .i32 t'.rune) (.int .u8 t'.priv) (.slice va' vn' vc') (.string t'.inter) (.int .u8 t'.fin) (.string t'.data))
          generalize put7 u5 b6 (.int .i64 t'.kind) (.int .i32 t'.rune) (.int .u8 t'.priv) (.slice va' vn' vc') (.string t'.inter) (.int .u8 t'.fin) (.string t'.data) = u6 at T5 T6 M1 M2 BB hsz ⊢
          rw [← hsz] at m1 m2
          clear z0 z1 z2 z3 z4 z5 z6 zf x0 x1 x2 x3 x4 x5 x6 hsz hHeld
          refine hK.out _ _ ?_ (fun hHeld => ?_)
          · exact ⟨(HT2.out.below BB).2.1, (HT2'.out.below BB).2.1⟩
          clear hK K
          try simp only [Act.put, List.setIfInBounds_toArray, List.set_cons_zero, List.set_cons_succ]
          refine wpAnyH_done (by kernel_rfl) ?_ _
          have HTW := Lib.hid (show Two w2 t t' (.pointer (some ⟨b5, 0, none⟩)) (.pointer (some ⟨b6, 0, none⟩)) u6 from ⟨b5, b6, va, vn, vc, va', vn', vc', S1, S2, rfl, rfl, T5, T6, M1, M2, m1, m2, h5, h6, ne, BB⟩)
          clear T5 T6 M1 M2 m1 m2 h5 h6 ne BB
          go_wp2_with fail
          go_meet
          case rel => exact HTW
        · go_simp
          obtain ⟨u7, hu7⟩ : ∃ wx, wx = u2.alloc (.cells #[.int .i64 0, .int .i32 0, .int .u8 0, .slice none 0 0, .string ⟨#[]⟩, .int .u8 0, .string ⟨#[]⟩] 27) := ⟨_, rfl⟩
          have bb : Below u2.heap.size u2 u7 := by rw [hu7]; exact (Below.refl _ _).alloc (Nat.le_refl _) _
          have T6 : T7 u7 u2.heap.size (.int .i64 0) (.int .i32 0) (.int .u8 0) (.slice none 0 0) (.string ⟨#[]⟩) (.int .u8 0) (.string ⟨#[]⟩) := by rw [hu7]; exact T7.newAt _ _ rfl _ _ _ _ _ _ _ _
          rw [← hu7]
          clear hu7
          have h6 : w2.heap.size ≤ u2.heap.size := BB.size
          have hz := bb.size
          replace M1 := M1.below bb (fun g hg => by have := m1 g hg; omega)
          replace M2 := M2.below bb (fun g hg => by have := m2 g hg; omega)
          obtain ⟨b6, eb6⟩ : ∃ b, u2.heap.size = b := ⟨_, rfl⟩
          rw [eb6] at T6 h6 ⊢
          replace m1 : ∀ g, S1 g → g < u7.heap.size ∧ g ≠ b6 := fun g hg => by have := m1 g hg; omega
          replace m2 : ∀ g, S2 g → g < u7.heap.size ∧ g ≠ b6 := fun g hg => by have := m2 g hg; omega
          have hlt := T6.1
          replace BB := BB.trans (bb.mono BB.size)
          clear bb hz eb6 hlt hHeld
          refine hK.out _ _ ?_ (fun hHeld => ?_)
          · exact ⟨(HT2.out.below BB).2.1, (HT2'.out.below BB).2.1⟩
          clear hK K
          try simp only [Act.put, List.setIfInBounds_toArray, List.set_cons_zero, List.set_cons_succ]
          refine do_at (i := 4) rfl (by kernel_rfl) (by kernel_rfl) (fun K hK => ?_)
          go_simp
          obtain ⟨u8, hu8⟩ : ∃ wx, wx = u7.alloc (.cells #[.int .i64 0, .int .i32 0, .int .u8 0, .slice none 0 0, .string ⟨#[]⟩, .int .u8 0, .string ⟨#[]⟩] 27) := ⟨_, rfl⟩
          have bb : Below u7.heap.size u7 u8 := by rw [hu8]; exact (Below.refl _ _).alloc (Nat.le_refl _) _
          have T5 : T7 u8 u7.heap.size (.int .i64 0) (.int .i32 0) (.int .u8 0) (.slice none 0 0) (.string ⟨#[]⟩) (.int .u8 0) (.string ⟨#[]⟩) := by rw [hu8]; exact T7.newAt _ _ rfl _ _ _ _ _ _ _ _
          rw [← hu8]
          clear hu8
          have h5 : w2.heap.size ≤ u7.heap.size := BB.size
          have hz := bb.size
          have l6 := T6.1
          replace T6 := T6.below bb
          replace M1 := M1.below bb (fun g hg => by have := m1 g hg; omega)
          replace M2 := M2.below bb (fun g hg => by have := m2 g hg; omega)
          obtain ⟨b5, eb5⟩ : ∃ b, u7.heap.size = b := ⟨_, rfl⟩
          rw [eb5] at T5 h5 ⊢
          replace m1 : ∀ g, S1 g → g < u8.heap.size ∧ g ≠ b5 ∧ g ≠ b6 := fun g hg => by have := m1 g hg; omega
          replace m2 : ∀ g, S2 g → g < u8.heap.size ∧ g ≠ b5 ∧ g ≠ b6 := fun g hg => by have := m2 g hg; omega
          have ne : b5 ≠ b6 := by omega
          have hlt := T5.1
          replace BB := BB.trans (bb.mono BB.size)
          clear bb hz l6 eb5 hlt hHeld
          refine hK.out _ _ ?_ (fun hHeld => ?_)
          · exact ⟨(HT2.out.below BB).2.1, (HT2'.out.below BB).2.1⟩
          clear hK K
          try simp only [Act.put, List.setIfInBounds_toArray, List.set_cons_zero, List.set_cons_succ]
          refine do_at (i := 6) rfl (by kernel_rfl) (by kernel_rfl) (fun K hK => ?_)
          obtain ⟨_, ⟨z0, z1, z2, z3, z4, z5, z6⟩, zf⟩ := T5
          have x0 := zf 0
          have x1 := zf 1
          have x2 := zf 2
          have x3 := zf 3
          have x4 := zf 4
          have x5 := zf 5
          have x6 := zf 6
          go_simp
          replace T5 := (show T7 u8 b5 (.int .i64 0) (.int .i32 0) (.int .u8 0) (.slice none 0 0) (.string ⟨#[]⟩) (.int .u8 0) (.string ⟨#[]⟩) from ⟨by assumption, ⟨z0, z1, z2, z3, z4, z5, z6⟩, zf⟩).put (.int .i64 t.kind) (.int .i32 t.rune) (.int .u8 t.priv) (.slice va vn vc) (.string t.inter) (.int .u8 t.fin) (.string t.data)
          replace T6 := T6.put_other (b' := b5) (c0 := .int .i64 t.kind) (c1 := .int .i32 t.rune) (c2 := .int .u8 t.priv) (c3 := .slice va vn vc) (c4 := .string t.inter) (c5 := .int .u8 t.fin) (c6 := .string t.data) ne.symm
          replace M1 := M1.put (b := b5) (a0 := .int .i64 t.kind) (a1 := .int .i32 t.rune) (a2 := .int .u8 t.priv) (a3 := .slice va vn vc) (a4 := .string t.inter) (a5 := .int .u8 t.fin) (a6 := .string t.data) (fun g hg => (m1 g hg).2.1)
          replace M2 := M2.put (b := b5) (a0 := .int .i64 t.kind) (a1 := .int .i32 t.rune) (a2 := .int .u8 t.priv) (a3 := .slice va vn vc) (a4 := .string t.inter) (a5 := .int .u8 t.fin) (a6 := .string t.data) (fun g hg => (m2 g hg).2.1)
          replace BB := put7_below BB h5 (.int .i64 t.kind) (.int .i32 t.rune) (.int .u8 t.priv) (.slice va vn vc) (.string t.inter) (.int .u8 t.fin) (.string t.data)
          have hsz := put7_size u8 b5 (.int .i64 t.kind) (.int .i32 t.rune) (.int .u8 t.priv) (.slice va vn vc) (.string t.inter) (.int .u8 t.fin) (.string t.data)
          change K _ (put7 u8 b5 (.int .i64 t.kind) (.int .i32 t.rune) (.int .u8 t.priv) (.slice va vn vc) (.string t.inter) (.int .u8 t.fin) (.string t.data))
          generalize put7 u8 b5 (.int .i64 t.kind) (.int .i32 t.rune) (.int .u8 t.priv) (.slice va vn vc) (.string t.inter) (.int .u8 t.fin) (.string t.data) = u9 at T5 T6 M1 M2 BB hsz ⊢
          rw [← hsz] at m1 m2
          clear z0 z1 z2 z3 z4 z5 z6 zf x0 x1 x2 x3 x4 x5 x6 hsz hHeld
          refine hK.out _ _ ?_ (fun hHeld => ?_)
          · exact ⟨(HT2.out.below BB).2.1, (HT2'.out.below BB).2.1⟩
          clear hK K
          try simp only [Act.put, List.setIfInBounds_toArray, List.set_cons_zero, List.set_cons_succ]
          refine do_at (i := 7) rfl (by kernel_rfl) (by kernel_rfl) (fun K hK => ?_)
          obtain ⟨_, ⟨z0, z1, z2, z3, z4, z5, z6⟩, zf⟩ := T6
          have x0 := zf 0
          have x1 := zf 1
          have x2 := zf 2
          have x3 := zf 3
          have x4 := zf 4
          have x5 := zf 5
          have x6 := zf 6
          go_simp
          replace T6 := (show T7 u9 b6 (.int .i64 0) (.int .i32 0) (.int .u8 0) (.slice none 0 0) (.string ⟨#[]⟩) (.int .u8 0) (.string ⟨#[]⟩) from ⟨by assumption, ⟨z0, z1, z2, z3, z4, z5, z6⟩, zf⟩).put (.int .i64 t'.kind) (.int .i32 t'.rune) (.int .u8 t'.priv) (.slice va' vn' vc') (.string t'.inter) (.int .u8 t'.fin) (.string t'.data)
          replace T5 := T5.put_other (b' := b6) (c0 := .int .i64 t'.kind) (c1 := .int .i32 t'.rune) (c2 := .int .u8 t'.priv) (c3 := .slice va' vn' vc') (c4 := .string t'.inter) (c5 := .int .u8 t'.fin) (c6 := .string t'.data) ne
          replace M1 := M1.put (b := b6) (a0 := .int .i64 t'.kind) (a1 := .int .i32 t'.rune) (a2 := .int .u8 t'.priv) (a3 := .slice va' vn' vc') (a4 := .string t'.inter) (a5 := .int .u8 t'.fin) (a6 := .string t'.data) (fun g hg => (m1 g hg).2.2)
          replace M2 := M2.put (b := b6) (a0 := .int .i64 t'.kind) (a1 := .int .i32 t'.rune) (a2 := .int .u8 t'.priv) (a3 := .slice va' vn' vc') (a4 := .string t'.inter) (a5 := .int .u8 t'.fin) (a6 := .string t'.data) (fun g hg => (m2 g hg).2.2)
          replace BB := put7_below BB h6 (.int .i64 t'.kind) (.int .i32 t'.rune) (.int .u8 t'.priv) (.slice va' vn' vc') (.string t'.inter) (.int .u8 t'.fin) (.string t'.data)
          have hsz := put7_size u9 b6 (.int .i64 t'.kind) (.int .i32 t'.rune) (.int .u8 t'.priv) (.slice va' vn' vc') (.string t'.inter) (.int .u8 t'.fin) (.string t'.data)
          change K _ (put7 u9 b6 (.int .i64 t'.kind) (.int .i32 t'.rune) (.int .u8 t'.priv) (.slice va' vn' vc') (.string t'.inter) (.int .u8 t'.fin) (.string t'.data))
          generalize put7 u9 b6 (.int .i64 t'.kind) (.int .i32 t'.rune) (.int .u8 t'.priv) (.slice va' vn' vc') (.string t'.inter) (.int .u8 t'.fin) (.string t'.data) = u10 at T5 T6 M1 M2 BB hsz ⊢
          rw [← hsz] at m1 m2
          clear z0 z1 z2 z3 z4 z5 z6 zf x0 x1 x2 x3 x4 x5 x6 hsz hHeld
          refine hK.out _ _ ?_ (fun hHeld => ?_)
          · exact ⟨(HT2.out.below BB).2.1, (HT2'.out.below BB).2.1⟩
          clear hK K
          try simp only [Act.put, List.setIfInBounds_toArray, List.set_cons_zero, List.set_cons_succ]
          refine wpAnyH_done (by kernel_rfl) ?_ _
          have HTW := Lib.hid (show Two w2 t t' (.pointer (some ⟨b5, 0, none⟩)) (.pointer (some ⟨b6, 0, none⟩)) u10 from ⟨b5, b6, va, vn, vc, va', vn', vc', S1, S2, rfl, rfl, T5, T6, M1, M2, m1, m2, h5, h6, ne, BB⟩)
          clear T5 T6 M1 M2 m1 m2 h5 h6 ne BB
          go_wp2_with fail
          go_meet
          case rel => exact HTW
      · go_simp
        obtain ⟨u11, hu11⟩ : ∃ wx, wx = u1.alloc (.cells #[.int .i64 0, .int .i32 0, .int .u8 0, .slice none 0 0, .string ⟨#[]⟩, .int .u8 0, .string ⟨#[]⟩] 27) := ⟨_, rfl⟩
        have bb : Below u1.heap.size u1 u11 := by rw [hu11]; exact (Below.refl _ _).alloc (Nat.le_refl _) _
        have T5 : T7 u11 u1.heap.size (.int .i64 0) (.int .i32 0) (.int .u8 0) (.slice none 0 0) (.string ⟨#[]⟩) (.int .u8 0) (.string ⟨#[]⟩) := by rw [hu11]; exact T7.newAt _ _ rfl _ _ _ _ _ _ _ _
        rw [← hu11]
        clear hu11
        have h5 : w2.heap.size ≤ u1.heap.size := BB.size
        have hz := bb.size
        replace M1 := M1.below bb (fun g hg => by have := m1 g hg; omega)
        obtain ⟨b5, eb5⟩ : ∃ b, u1.heap.size = b := ⟨_, rfl⟩
        rw [eb5] at T5 h5 ⊢
        replace m1 : ∀ g, S1 g → g < u11.heap.size ∧ g ≠ b5 := fun g hg => by have := m1 g hg; omega
        have hlt := T5.1
        replace BB := BB.trans (bb.mono BB.size)
        clear bb hz eb5 hlt hHeld
        refine hK.out _ _ ?_ (fun hHeld => ?_)
        · exact ⟨(HT2.out.below BB).2.1, (HT2'.out.below BB).2.1⟩
        clear hK K
        try simp only [Act.put, List.setIfInBounds_toArray, List.set_cons_zero, List.set_cons_succ]
        refine two_at (i := 3) (j := 5) rfl rfl (by kernel_rfl) (by kernel_rfl) (by kernel_rfl) (fun K hK => ?_) (fun K hK => ?_)
        · go_simp
          refine (C2.out _ BB).mono ?_
          rintro e u12 ⟨va', vn', vc', S2, rfl, mm, M2, bb⟩
          go_wp2_with fail
          have hz := bb.size
          have l5 := T5.1
          replace T5 := T5.below bb
          replace M1 := M1.below bb (fun g hg => by have := m1 g hg; omega)
          have m2 : ∀ g, S2 g → g < u12.heap.size ∧ g ≠ b5 := fun g hg => by have := mm g hg; omega
          clear mm
          replace m1 : ∀ g, S1 g → g < u12.heap.size ∧ g ≠ b5 := fun g hg => by have := m1 g hg; omega
          replace BB := BB.trans (bb.mono BB.size)
          clear bb hz l5 hHeld
          refine hK.out _ _ ?_ (fun hHeld => ?_)
          · exact ⟨(HT2.out.below BB).2.1, (HT2'.out.below BB).2.1⟩
          clear hK K
          try simp only [Act.put, List.setIfInBounds_toArray, List.set_cons_zero, List.set_cons_succ]
          refine do_at (i := 5) rfl (by kernel_rfl) (by kernel_rfl) (fun K hK => ?_)
          go_simp
          obtain ⟨u13, hu13⟩ : ∃ wx, wx = u12.alloc (.cells #[.int .i64 0, .int .i32 0, .int .u8 0, .slice none 0 0, .string ⟨#[]⟩, .int .u8 0, .string ⟨#[]⟩] 27) := ⟨_, rfl⟩
          have bb : Below u12.heap.size u12 u13 := by rw [hu13]; exact (Below.refl _ _).alloc (Nat.le_refl _) _
          have T6 : T7 u13 u12.heap.size (.int .i64 0) (.int .i32 0) (.int .u8 0) (.slice none 0 0) (.string ⟨#[]⟩) (.int .u8 0) (.string ⟨#[]⟩) := by rw [hu13]; exact T7.newAt _ _ rfl _ _ _ _ _ _ _ _
          rw [← hu13]
          clear hu13
          have h6 : w2.heap.size ≤ u12.heap.size := BB.size
          have hz := bb.size
          have l5 := T5.1
          replace T5 := T5.below bb
          replace M1 := M1.below bb (fun g hg => by have := m1 g hg; omega)
          replace M2 := M2.below bb (fun g hg => by have := m2 g hg; omega)
          obtain ⟨b6, eb6⟩ : ∃ b, u12.heap.size = b := ⟨_, rfl⟩
          rw [eb6] at T6 h6 ⊢
          replace m1 : ∀ g, S1 g → g < u13.heap.size ∧ g ≠ b5 ∧ g ≠ b6 := fun g hg => by have := m1 g hg; omega
          replace m2 : ∀ g, S2 g → g < u13.heap.size ∧ g ≠ b5 ∧ g ≠ b6 := fun g hg => by have := m2 g hg; omega
          have ne : b5 ≠ b6 := by omega
          have hlt := T6.1
          replace BB := BB.trans (bb.mono BB.size)
          clear bb hz l5 eb6 hlt hHeld
          refine hK.out _ _ ?_ (fun hHeld => ?_)
          · exact ⟨(HT2.out.below BB).2.1, (HT2'.out.below BB).2.1⟩
          clear hK K
          try simp only [Act.put, List.setIfInBounds_toArray, List.set_cons_zero, List.set_cons_succ]
          refine do_at (i := 6) rfl (by kernel_rfl) (by kernel_rfl) (fun K hK => ?_)
          obtain ⟨_, ⟨z0, z1, z2, z3, z4, z5, z6⟩, zf⟩ := T5
          have x0 := zf 0
          have x1 := zf 1
          have x2 := zf 2
          have x3 := zf 3
          have x4 := zf 4
          have x5 := zf 5
          have x6 := zf 6
          go_simp
          replace T5 := (show T7 u13 b5 (.int .i64 0) (.int .i32 0) (.int .u8 0) (.slice none 0 0) (.string ⟨#[]⟩) (.int .u8 0) (.string ⟨#[]⟩) from ⟨by assumption, ⟨z0, z1, z2, z3, z4, z5, z6⟩, zf⟩).put (.int .i64 t.kind) (.int .i32 t.rune) (.int .u8 t.priv) (.slice va vn vc) (.string t.inter) (.int .u8 t.fin) (.string t.data)
          replace T6 := T6.put_other (b' := b5) (c0 := .int .i64 t.kind) (c1 := .int .i32 t.rune) (c2 := .int .u8 t.priv) (c3 := .slice va vn vc) (c4 := .string t.inter) (c5 := .int .u8 t.fin) (c6 := .string t.data) ne.symm
          replace M1 := M1.put (b := b5) (a0 := .int .i64 t.kind) (a1 := .int .i32 t.rune) (a2 := .int .u8 t.priv) (a3 := .slice va vn vc) (a4 := .string t.inter) (a5 := .int .u8 t.fin) (a6 := .string t.data) (fun g hg => (m1 g hg).2.1)
          replace M2 := M2.put (b := b5) (a0 := .int .i64 t.kind) (a1 := .int .i32 t.rune) (a2 := .int .u8 t.priv) (a3 := .slice va vn vc) (a4 := .string t.inter) (a5 := .int .u8 t.fin) (a6 := .string t.data) (fun g hg => (m2 g hg).2.1)
          replace BB := put7_below BB h5 (.int .i64 t.kind) (.int .i32 t.rune) (.int .u8 t.priv) (.slice va vn vc) (.string t.inter) (.int .u8 t.fin) (.string t.data)
          have hsz := put7_size u13 b5 (.int .i64 t.kind) (.int .i32 t.rune) (.int .u8 t.priv) (.slice va vn vc) (.string t.inter) (.int .u8 t.fin) (.string t.data)
          change K _ (put7 u13 b5 (.int .i64 t.kind) (.int .i32 t.rune) (.int .u8 t.priv) (.slice va vn vc) (.string t.inter) (.int .u8 t.fin) (.string t.data))
          generalize put7 u13 b5 (.int .i64 t.kind) (.int .i32 t.rune) (.int .u8 t.priv) (.slice va vn vc) (.string t.inter) (.int .u8 t.fin) (.string t.data) = u14 at T5 T6 M1 M2 BB hsz ⊢
          rw [← hsz] at m1 m2
          clear z0 z1 z2 z3 z4 z5 z6 zf x0 x1 x2 x3 x4 x5 x6 hsz hHeld
          refine hK.out _ _ ?_ (fun hHeld => ?_)
          · exact ⟨(HT2.out.below BB).2.1, (HT2'.out.below BB).2.1⟩
          clear hK K
          try simp only [Act.put, List.setIfInBounds_toArray, List.set_cons_zero, List.set_cons_succ]
          refine do_at (i := 7) rfl (by kernel_rfl) (by kernel_rfl) (fun K hK => ?_)
          obtain ⟨_, ⟨z0, z1, z2, z3, z4, z5, z6⟩, zf⟩ := T6
          have x0 := zf 0
          have x1 := zf 1
          have x2 := zf 2
          have x3 := zf 3
          have x4 := zf 4
          have x5 := zf 5
          have x6 := zf 6
          go_simp
          replace T6 := (show T7 u14 b6 (.int .i64 0) (.int .i32 0) (.int .u8 0) (.slice none 0 0) (.string ⟨#[]⟩) (.int .u8 0) (.string ⟨#[]⟩) from ⟨by assumption, ⟨z0, z1, z2, z3, z4, z5, z6⟩, zf⟩).put (.int .i64 t'.kind) (.int .i32 t'.rune) (.int .u8 t'.priv) (.slice va' vn' vc') (.string t'.inter) (.int .u8 t'.fin) (.string t'.data)
          replace T5 := T5.put_other (b' := b6) (c0 := .int .i64 t'.kind) (c1 := .int .i32 t'.rune) (c2 := .int .u8 t'.priv) (c3 := .slice va' vn' vc') (c4 := .string t'.inter) (c5 := .int .u8 t'.fin) (c6 := .string t'.data) ne
          replace M1 := M1.put (b := b6) (a0 := .int .i64 t'.kind) (a1 := .int .i32 t'.rune) (a2 := .int .u8 t'.priv) (a3 := .slice va' vn' vc') (a4 := .string t'.inter) (a5 := .int .u8 t'.fin) (a6 := .string t'.data) (fun g hg => (m1 g hg).2.2)
          replace M2 := M2.put (b := b6) (a0 := .int .i64 t'.kind) (a1 := .int .i32 t'.rune) (a2 := .int .u8 t'.priv) (a3 := .slice va' vn' vc') (a4 := .string t'.inter) (a5 := .int .u8 t'.fin) (a6 := .string t'.data) (fun g hg => (m2 g hg).2.2)
          replace BB := put7_below BB h6 (.int .i64 t'.kind) (.int .i32 t'.rune) (.int .u8 t'.priv) (.slice va' vn' vc') (.string t'.inter) (.int .u8 t'.fin) (.string t'.data)
          have hsz := put7_size u14 b6 (.int .i64 t'.kind) (.int .i32 t'.rune) (.int .u8 t'.priv) (.slice va' vn' vc') (.string t'.inter) (.int .u8 t'.fin) (.string t'.data)
          change K _ (put7 u14 b6 (.int .i64 t'.kind) (.int .i32 t'.rune) (.int .u8 t'.priv) (.slice va' vn' vc') (.string t'.inter) (.int .u8 t'.fin) (.string t'.data))
          generalize put7 u14 b6 (.int .i64 t'.kind) (.int .i32 t'.rune) (.int .u8 t'.priv) (.slice va' vn' vc') (.string t'.inter) (.int .u8 t'.fin) (.string t'.data) = u15 at T5 T6 M1 M2 BB hsz ⊢
          rw [← hsz] at m1 m2
          clear z0 z1 z2 z3 z4 z5 z6 zf x0 x1 x2 x3 x4 x5 x6 hsz hHeld
          refine hK.out _ _ ?_ (fun hHeld => ?_)
          · exact ⟨(HT2.out.below BB).2.1, (HT2'.out.below BB).2.1⟩
          clear hK K
          try simp only [Act.put, List.setIfInBounds_toArray, List.set_cons_zero, List.set_cons_succ]
          refine wpAnyH_done (by kernel_rfl) ?_ _
          have HTW := Lib.hid (show Two w2 t t' (.pointer (some ⟨b5, 0, none⟩)) (.pointer (some ⟨b6, 0, none⟩)) u15 from ⟨b5, b6, va, vn, vc, va', vn', vc', S1, S2, rfl, rfl, T5, T6, M1, M2, m1, m2, h5, h6, ne, BB⟩)
          clear T5 T6 M1 M2 m1 m2 h5 h6 ne BB
          go_wp2_with fail
          go_meet
          case rel => exact HTW
        · go_simp
          obtain ⟨u16, hu16⟩ : ∃ wx, wx = u11.alloc (.cells #[.int .i64 0, .int .i32 0, .int .u8 0, .slice none 0 0, .string ⟨#[]⟩, .int .u8 0, .string ⟨#[]⟩] 27) := ⟨_, rfl⟩
          have bb : Below u11.heap.size u11 u16 := by rw [hu16]; exact (Below.refl _ _).alloc (Nat.le_refl _) _
          have T6 : T7 u16 u11.heap.size (.int .i64 0) (.int .i32 0) (.int .u8 0) (.slice none 0 0) (.string ⟨#[]⟩) (.int .u8 0) (.string ⟨#[]⟩) := by rw [hu16]; exact T7.newAt _ _ rfl _ _ _ _ _ _ _ _
          rw [← hu16]
          clear hu16
          have h6 : w2.heap.size ≤ u11.heap.size := BB.size
          have hz := bb.size
          have l5 := T5.1
          replace T5 := T5.below bb
          replace M1 := M1.below bb (fun g hg => by have := m1 g hg; omega)
          obtain ⟨b6, eb6⟩ : ∃ b, u11.heap.size = b := ⟨_, rfl⟩
          rw [eb6] at T6 h6 ⊢
          replace m1 : ∀ g, S1 g → g < u16.heap.size ∧ g ≠ b5 ∧ g ≠ b6 := fun g hg => by have := m1 g hg; omega
          have ne : b5 ≠ b6 := by omega
          have hlt := T6.1
          replace BB := BB.trans (bb.mono BB.size)
          clear bb hz l5 eb6 hlt hHeld
          refine hK.out _ _ ?_ (fun hHeld => ?_)
          · exact ⟨(HT2.out.below BB).2.1, (HT2'.out.below BB).2.1⟩
          clear hK K
          try simp only [Act.put, List.setIfInBounds_toArray, List.set_cons_zero, List.set_cons_succ]
          refine do_at (i := 3) rfl (by kernel_rfl) (by kernel_rfl) (fun K hK => ?_)
          go_simp
          refine (C2.out _ BB).mono ?_
          rintro e u17 ⟨va', vn', vc', S2, rfl, mm, M2, bb⟩
          go_wp2_with fail
          have hz := bb.size
          have l5 := T5.1
          replace T5 := T5.below bb
          have l6 := T6.1
          replace T6 := T6.below bb
          replace M1 := M1.below bb (fun g hg => by have := m1 g hg; omega)
          have m2 : ∀ g, S2 g → g < u17.heap.size ∧ g ≠ b5 ∧ g ≠ b6 := fun g hg => by have := mm g hg; omega
          clear mm
          replace m1 : ∀ g, S1 g → g < u17.heap.size ∧ g ≠ b5 ∧ g ≠ b6 := fun g hg => by have := m1 g hg; omega
          replace BB := BB.trans (bb.mono BB.size)
          clear bb hz l5 l6 hHeld
          refine hK.out _ _ ?_ (fun hHeld => ?_)
          · exact ⟨(HT2.out.below BB).2.1, (HT2'.out.below BB).2.1⟩
          clear hK K
          try simp only [Act.put, List.setIfInBounds_toArray, List.set_cons_zero, List.set_cons_succ]
          refine do_at (i := 6) rfl (by kernel_rfl) (by kernel_rfl) (fun K hK => ?_)
          obtain ⟨_, ⟨z0, z1, z2, z3, z4, z5, z6⟩, zf⟩ := T5
          have x0 := zf 0
          have x1 := zf 1
          have x2 := zf 2
          have x3 := zf 3
          have x4 := zf 4
          have x5 := zf 5
          have x6 := zf 6
          go_simp
          replace T5 := (show T7 u17 b5 (.int .i64 0) (.int .i32 0) (.int .u8 0) (.slice none 0 0) (.string ⟨#[]⟩) (.int .u8 0) (.string ⟨#[]⟩) from ⟨by assumption, ⟨z0, z1, z2, z3, z4, z5, z6⟩, zf⟩).put (.int .i64 t.kind) (.int .i32 t.rune) (.int .u8 t.priv) (.slice va vn vc) (.string t.inter) (.int .u8 t.fin) (.string t.data)
          replace T6 := T6.put_other (b' := b5) (c0 := .int .i64 t.kind) (c1 := .int .i32 t.rune) (c2 := .int .u8 t.priv) (c3 := .slice va vn vc) (c4 := .string t.inter) (c5 := .int .u8 t.fin) (c6 := .string t.data) ne.symm
          replace M1 := M1.put (b := b5) (a0 := .int .i64 t.kind) (a1 := .int .i32 t.rune) (a2 := .int .u8 t.priv) (a3 := .slice va vn vc) (a4 := .string t.inter) (a5 := .int .u8 t.fin) (a6 := .string t.data) (fun g hg => (m1 g hg).2.1)
          replace M2 := M2.put (b := b5) (a0 := .int .i64 t.kind) (a1 := .int .i32 t.rune) (a2 := .int .u8 t.priv) (a3 := .slice va vn vc) (a4 := .string t.inter) (a5 := .int .u8 t.fin) (a6 := .string t.data) (fun g hg => (m2 g hg).2.1)
          replace BB := put7_below BB h5 (.int .i64 t.kind) (.int .i32 t.rune) (.int .u8 t.priv) (.slice va vn vc) (.string t.inter) (.int .u8 t.fin) (.string t.data)
          have hsz := put7_size u17 b5 (.int .i64 t.kind) (.int .i32 t.rune) (.int .u8 t.priv) (.slice va vn vc) (.string t.inter) (.int .u8 t.fin) (.string t.data)
          change K _ (put7 u17 b5 (.int .i64 t.kind) (.int .i32 t.rune) (.int .u8 t.priv) (.slice va vn vc) (.string t.inter) (.int .u8 t.fin) (.string t.data))
          generalize put7 u17 b5 (.int .i64 t.kind) (.int .i32 t.rune) (.int .u8 t.priv) (.slice va vn vc) (.string t.inter) (.int .u8 t.fin) (.string t.data) = u18 at T5 T6 M1 M2 BB hsz ⊢
          rw [← hsz] at m1 m2
          clear z0 z1 z2 z3 z4 z5 z6 zf x0 x1 x2 x3 x4 x5 x6 hsz hHeld
          refine hK.out _ _ ?_ (fun hHeld => ?_)
          · exact ⟨(HT2.out.below BB).2.1, (HT2'.out.below BB).2.1⟩
          clear hK K
          try simp only [Act.put, List.setIfInBounds_toArray, List.set_cons_zero, List.set_cons_succ]
          refine do_at (i := 7) rfl (by kernel_rfl) (by kernel_rfl) (fun K hK => ?_)
          obtain ⟨_, ⟨z0, z1, z2, z3, z4, z5, z6⟩, zf⟩ := T6
          have x0 := zf 0
          have x1 := zf 1
          have x2 := zf 2
          have x3 := zf 3
          have x4 := zf 4
          have x5 := zf 5
          have x6 := zf 6
          go_simp
          replace T6 := (show T7 u18 b6 (.int .i64 0) (.int .i32 0) (.int .u8 0) (.slice none 0 0) (.string ⟨#[]⟩) (.int .u8 0) (.string ⟨#[]⟩) from ⟨by assumption, ⟨z0, z1, z2, z3, z4, z5, z6⟩, zf⟩).put (.int .i64 t'.kind) (.int .i32 t'.rune) (.int .u8 t'.priv) (.slice va' vn' vc') (.string t'.inter) (.int .u8 t'.fin) (.string t'.data)
          replace T5 := T5.put_other (b' := b6) (c0 := .int .i64 t'.kind) (c1 := .int .i32 t'.rune) (c2 := .int .u8 t'.priv) (c3 := .slice va' vn' vc') (c4 := .string t'.inter) (c5 := .int .u8 t'.fin) (c6 := .string t'.data) ne
          replace M1 := M1.put (b := b6) (a0 := .int .i64 t'.kind) (a1 := .int .i32 t'.rune) (a2 := .int .u8 t'.priv) (a3 := .slice va' vn' vc') (a4 := .string t'.inter) (a5 := .int .u8 t'.fin) (a6 := .string t'.data) (fun g hg => (m1 g hg).2.2)
          replace M2 := M2.put (b := b6) (a0 := .int .i64 t'.kind) (a1 := .int .i32 t'.rune) (a2 := .int .u8 t'.priv) (a3 := .slice va' vn' vc') (a4 := .string t'.inter) (a5 := .int .u8 t'.fin) (a6 := .string t'.data) (fun g hg => (m2 g hg).2.2)
          replace BB := put7_below BB h6 (.int .i64 t'.kind) (.int .i32 t'.rune) (.int .u8 t'.priv) (.slice va' vn' vc') (.string t'.inter) (.int .u8 t'.fin) (.string t'.data)
          have hsz := put7_size u18 b6 (.int .i64 t'.kind) (.int .i32 t'.rune) (.int .u8 t'.priv) (.slice va' vn' vc') (.string t'.inter) (.int .u8 t'.fin) (.string t'.data)
          change K _ (put7 u18 b6 (.int .i64 t'.kind) (.int .i32 t'.rune) (.int .u8 t'.priv) (.slice va' vn' vc') (.string t'.inter) (.int .u8 t'.fin) (.string t'.data))
          generalize put7 u18 b6 (.int .i64 t'.kind) (.int .i32 t'.rune) (.int .u8 t'.priv) (.slice va' vn' vc') (.string t'.inter) (.int .u8 t'.fin) (.string t'.data) = u19 at T5 T6 M1 M2 BB hsz ⊢
          rw [← hsz] at m1 m2
          clear z0 z1 z2 z3 z4 z5 z6 zf x0 x1 x2 x3 x4 x5 x6 hsz hHeld
          refine hK.out _ _ ?_ (fun hHeld => ?_)
          · exact ⟨(HT2.out.below BB).2.1, (HT2'.out.below BB).2.1⟩
          clear hK K
          try simp only [Act.put, List.setIfInBounds_toArray, List.set_cons_zero, List.set_cons_succ]
          refine wpAnyH_done (by kernel_rfl) ?_ _
          have HTW := Lib.hid (show Two w2 t t' (.pointer (some ⟨b5, 0, none⟩)) (.pointer (some ⟨b6, 0, none⟩)) u19 from ⟨b5, b6, va, vn, vc, va', vn', vc', S1, S2, rfl, rfl, T5, T6, M1, M2, m1, m2, h5, h6, ne, BB⟩)
          clear T5 T6 M1 M2 m1 m2 h5 h6 ne BB
          go_wp2_with fail
          go_meet
          case rel => exact HTW
      · go_simp
        obtain ⟨u20, hu20⟩ : ∃ wx, wx = u1.alloc (.cells #[.int .i64 0, .int .i32 0, .int .u8 0, .slice none 0 0, .string ⟨#[]⟩, .int .u8 0, .string ⟨#[]⟩] 27) := ⟨_, rfl⟩
        have bb : Below u1.heap.size u1 u20 := by rw [hu20]; exact (Below.refl _ _).alloc (Nat.le_refl _) _
        have T6 : T7 u20 u1.heap.size (.int .i64 0) (.int .i32 0) (.int .u8 0) (.slice none 0 0) (.string ⟨#[]⟩) (.int .u8 0) (.string ⟨#[]⟩) := by rw [hu20]; exact T7.newAt _ _ rfl _ _ _ _ _ _ _ _
        rw [← hu20]
        clear hu20
        have h6 : w2.heap.size ≤ u1.heap.size := BB.size
        have hz := bb.size
        replace M1 := M1.below bb (fun g hg => by have := m1 g hg; omega)
        obtain ⟨b6, eb6⟩ : ∃ b, u1.heap.size = b := ⟨_, rfl⟩
        rw [eb6] at T6 h6 ⊢
        replace m1 : ∀ g, S1 g → g < u20.heap.size ∧ g ≠ b6 := fun g hg => by have := m1 g hg; omega
        have hlt := T6.1
        replace BB := BB.trans (bb.mono BB.size)
        clear bb hz eb6 hlt hHeld
        refine hK.out _ _ ?_ (fun hHeld => ?_)
        · exact ⟨(HT2.out.below BB).2.1, (HT2'.out.below BB).2.1⟩
        clear hK K
        try simp only [Act.put, List.setIfInBounds_toArray, List.set_cons_zero, List.set_cons_succ]
        refine two_at (i := 3) (j := 4) rfl rfl (by kernel_rfl) (by kernel_rfl) (by kernel_rfl) (fun K hK => ?_) (fun K hK => ?_)
        · go_simp
          refine (C2.out _ BB).mono ?_
          rintro e u21 ⟨va', vn', vc', S2, rfl, mm, M2, bb⟩
          go_wp2_with fail
          have hz := bb.size
          have l6 := T6.1
          replace T6 := T6.below bb
          replace M1 := M1.below bb (fun g hg => by have := m1 g hg; omega)
          have m2 : ∀ g, S2 g → g < u21.heap.size ∧ g ≠ b6 := fun g hg => by have := mm g hg; omega
          clear mm
          replace m1 : ∀ g, S1 g → g < u21.heap.size ∧ g ≠ b6 := fun g hg => by have := m1 g hg; omega
          replace BB := BB.trans (bb.mono BB.size)
          clear bb hz l6 hHeld
          refine hK.out _ _ ?_ (fun hHeld => ?_)
          · exact ⟨(HT2.out.below BB).2.1, (HT2'.out.below BB).2.1⟩
          clear hK K
          try simp only [Act.put, List.setIfInBounds_toArray, List.set_cons_zero, List.set_cons_succ]
          refine do_at (i := 4) rfl (by kernel_rfl) (by kernel_rfl) (fun K hK => ?_)
          go_simp
          obtain ⟨u22, hu22⟩ : ∃ wx, wx = u21.alloc (.cells #[.int .i64 0, .int .i32 0, .int .u8 0, .slice none 0 0, .string ⟨#[]⟩, .int .u8 0, .string ⟨#[]⟩] 27) := ⟨_, rfl⟩
          have bb : Below u21.heap.size u21 u22 := by rw [hu22]; exact (Below.refl _ _).alloc (Nat.le_refl _) _
          have T5 : T7 u22 u21.heap.size (.int .i64 0) (.int .i32 0) (.int .u8 0) (.slice none 0 0) (.string ⟨#[]⟩) (.int .u8 0) (.string ⟨#[]⟩) := by rw [hu22]; exact T7.newAt _ _ rfl _ _ _ _ _ _ _ _
          rw [← hu22]
          clear hu22
          have h5 : w2.heap.size ≤ u21.heap.size := BB.size
          have hz := bb.size
          have l6 := T6.1
          replace T6 := T6.below bb
          replace M1 := M1.below bb (fun g hg => by have := m1 g hg; omega)
          replace M2 := M2.below bb (fun g hg => by have := m2 g hg; omega)
          obtain ⟨b5, eb5⟩ : ∃ b, u21.heap.size = b := ⟨_, rfl⟩
          rw [eb5] at T5 h5 ⊢
          replace m1 : ∀ g, S1 g → g < u22.heap.size ∧ g ≠ b5 ∧ g ≠ b6 := fun g hg => by have := m1 g hg; omega
          replace m2 : ∀ g, S2 g → g < u22.heap.size ∧ g ≠ b5 ∧ g ≠ b6 := fun g hg => by have := m2 g hg; omega
          have ne : b5 ≠ b6 := by omega
          have hlt := T5.1
          replace BB := BB.trans (bb.mono BB.size)
          clear bb hz l6 eb5 hlt hHeld
          refine hK.out _ _ ?_ (fun hHeld => ?_)
          · exact ⟨(HT2.out.below BB).2.1, (HT2'.out.below BB).2.1⟩
          clear hK K
          try simp only [Act.put, List.setIfInBounds_toArray, List.set_cons_zero, List.set_cons_succ]
          refine do_at (i := 6) rfl (by kernel_rfl) (by kernel_rfl) (fun K hK => ?_)
          obtain ⟨_, ⟨z0, z1, z2, z3, z4, z5, z6⟩, zf⟩ := T5
          have x0 := zf 0
          have x1 := zf 1
          have x2 := zf 2
          have x3 := zf 3
          have x4 := zf 4
          have x5 := zf 5
          have x6 := zf 6
          go_simp
          replace T5 := (show T7 u22 b5 (.int .i64 0) (.int .i32 0) (.int .u8 0) (.slice none 0 0) (.string ⟨#[]⟩) (.int .u8 0) (.string ⟨#[]⟩) from ⟨by assumption, ⟨z0, z1, z2, z3, z4, z5, z6⟩, zf⟩).put (.int .i64 t.kind) (.int .i32 t.rune) (.int .u8 t.priv) (.slice va vn vc) (.string t.inter) (.int .u8 t.fin) (.string t.data)
          replace T6 := T6.put_other (b' := b5) (c0 := .int .i64 t.kind) (c1 := .int .i32 t.rune) (c2 := .int .u8 t.priv) (c3 := .slice va vn vc) (c4 := .string t.inter) (c5 := .int .u8 t.fin) (c6 := .string t.data) ne.symm
          replace M1 := M1.put (b := b5) (a0 := .int .i64 t.kind) (a1 := .int .i32 t.rune) (a2 := .int .u8 t.priv) (a3 := .slice va vn vc) (a4 := .string t.inter) (a5 := .int .u8 t.fin) (a6 := .string t.data) (fun g hg => (m1 g hg).2.1)
          replace M2 := M2.put (b := b5) (a0 := .int .i64 t.kind) (a1 := .int .i32 t.rune) (a2 := .int .u8 t.priv) (a3 := .slice va vn vc) (a4 := .string t.inter) (a5 := .int .u8 t.fin) (a6 := .string t.data) (fun g hg => (m2 g hg).2.1)
          replace BB := put7_below BB h5 (.int .i64 t.kind) (.int .i32 t.rune) (.int .u8 t.priv) (.slice va vn vc) (.string t.inter) (.int .u8 t.fin) (.string t.data)
          have hsz := put7_size u22 b5 (.int .i64 t.kind) (.int .i32 t.rune) (.int .u8 t.priv) (.slice va vn vc) (.string t.inter) (.int .u8 t.fin) (.string t.data)
          change K _ (put7 u22 b5 (.int .i64 t.kind) (.int .i32 t.rune) (.int .u8 t.priv) (.slice va vn vc) (.string t.inter) (.int .u8 t.fin) (.string t.data))
          generalize put7 u22 b5 (.int .i64 t.kind) (.int .i32 t.rune) (.int .u8 t.priv) (.slice va vn vc) (.string t.inter) (.int .u8 t.fin) (.string t.data) = u23 at T5 T6 M1 M2 BB hsz ⊢
          rw [← hsz] at m1 m2
          clear z0 z1 z2 z3 z4 z5 z6 zf x0 x1 x2 x3 x4 x5 x6 hsz hHeld
          refine hK.out _ _ ?_ (fun hHeld => ?_)
          · exact ⟨(HT2.out.below BB).2.1, (HT2'.out.below BB).2.1⟩
          clear hK K
          try simp only [Act.put, List.setIfInBounds_toArray, List.set_cons_zero, List.set_cons_succ]
          refine do_at (i := 7) rfl (by kernel_rfl) (by kernel_rfl) (fun K hK => ?_)
          obtain ⟨_, ⟨z0, z1, z2, z3, z4, z5, z6⟩, zf⟩ := T6
          have x0 := zf 0
          have x1 := zf 1
          have x2 := zf 2
          have x3 := zf 3
          have x4 := zf 4
          have x5 := zf 5
          have x6 := zf 6
          go_simp
          replace T6 := (show T7 u23 b6 (.int .i64 0) (.int .i32 0) (.int .u8 0) (.slice none 0 0) (.string ⟨#[]⟩) (.int .u8 0) (.string ⟨#[]⟩) from ⟨by assumption, ⟨z0, z1, z2, z3, z4, z5, z6⟩, zf⟩).put (.int .i64 t'.kind) (.int .i32 t'.rune) (.int .u8 t'.priv) (.slice va' vn' vc') (.string t'.inter) (.int .u8 t'.fin) (.string t'.data)
          replace T5 := T5.put_other (b' := b6) (c0 := .int .i64 t'.kind) (c1 := .int .i32 t'.rune) (c2 := .int .u8 t'.priv) (c3 := .slice va' vn' vc') (c4 := .string t'.inter) (c5 := .int .u8 t'.fin) (c6 := .string t'.data) ne
          replace M1 := M1.put (b := b6) (a0 := .int .i64 t'.kind) (a1 := .int .i32 t'.rune) (a2 := .int .u8 t'.priv) (a3 := .slice va' vn' vc') (a4 := .string t'.inter) (a5 := .int .u8 t'.fin) (a6 := .string t'.data) (fun g hg => (m1 g hg).2.2)
          replace M2 := M2.put (b := b6) (a0 := .int .i64 t'.kind) (a1 := .int .i32 t'.rune) (a2 := .int .u8 t'.priv) (a3 := .slice va' vn' vc') (a4 := .string t'.inter) (a5 := .int .u8 t'.fin) (a6 := .string t'.data) (fun g hg => (m2 g hg).2.2)
          replace BB := put7_below BB h6 (.int .i64 t'.kind) (.int .i32 t'.rune) (.int .u8 t'.priv) (.slice va' vn' vc') (.string t'.inter) (.int .u8 t'.fin) (.string t'.data)
          have hsz := put7_size u23 b6 (.int .i64 t'.kind) (.int .i32 t'.rune) (.int .u8 t'.priv) (.slice va' vn' vc') (.string t'.inter) (.int .u8 t'.fin) (.string t'.data)
          change K _ (put7 u23 b6 (.int .i64 t'.kind) (.int .i32 t'.rune) (.int .u8 t'.priv) (.slice va' vn' vc') (.string t'.inter) (.int .u8 t'.fin) (.string t'.data))
          generalize put7 u23 b6 (.int .i64 t'.kind) (.int .i32 t'.rune) (.int .u8 t'.priv) (.slice va' vn' vc') (.string t'.inter) (.int .u8 t'.fin) (.string t'.data) = u24 at T5 T6 M1 M2 BB hsz ⊢
          rw [← hsz] at m1 m2
          clear z0 z1 z2 z3 z4 z5 z6 zf x0 x1 x2 x3 x4 x5 x6 hsz hHeld
          refine hK.out _ _ ?_ (fun hHeld => ?_)
          · exact ⟨(HT2.out.below BB).2.1, (HT2'.out.below BB).2.1⟩
          clear hK K
          try simp only [Act.put, List.setIfInBounds_toArray, List.set_cons_zero, List.set_cons_succ]
          refine wpAnyH_done (by kernel_rfl) ?_ _
          have HTW := Lib.hid (show Two w2 t t' (.pointer (some ⟨b5, 0, none⟩)) (.pointer (some ⟨b6, 0, none⟩)) u24 from ⟨b5, b6, va, vn, vc, va', vn', vc', S1, S2, rfl, rfl, T5, T6, M1, M2, m1, m2, h5, h6, ne, BB⟩)
          clear T5 T6 M1 M2 m1 m2 h5 h6 ne BB
          go_wp2_with fail
          go_meet
          case rel => exact HTW
        · go_simp
          obtain ⟨u25, hu25⟩ : ∃ wx, wx = u20.alloc (.cells #[.int .i64 0, .int .i32 0, .int .u8 0, .slice none 0 0, .string ⟨#[]⟩, .int .u8 0, .string ⟨#[]⟩] 27) := ⟨_, rfl⟩
          have bb : Below u20.heap.size u20 u25 := by rw [hu25]; exact (Below.refl _ _).alloc (Nat.le_refl _) _
          have T5 : T7 u25 u20.heap.size (.int .i64 0) (.int .i32 0) (.int .u8 0) (.slice none 0 0) (.string ⟨#[]⟩) (.int .u8 0) (.string ⟨#[]⟩) := by rw [hu25]; exact T7.newAt _ _ rfl _ _ _ _ _ _ _ _
          rw [← hu25]
          clear hu25
          have h5 : w2.heap.size ≤ u20.heap.size := BB.size
          have hz := bb.size
          have l6 := T6.1
          replace T6 := T6.below bb
          replace M1 := M1.below bb (fun g hg => by have := m1 g hg; omega)
          obtain ⟨b5, eb5⟩ : ∃ b, u20.heap.size = b := ⟨_, rfl⟩
          rw [eb5] at T5 h5 ⊢
          replace m1 : ∀ g, S1 g → g < u25.heap.size ∧ g ≠ b5 ∧ g ≠ b6 := fun g hg => by have := m1 g hg; omega
          have ne : b5 ≠ b6 := by omega
          have hlt := T5.1
          replace BB := BB.trans (bb.mono BB.size)
          clear bb hz l6 eb5 hlt hHeld
          refine hK.out _ _ ?_ (fun hHeld => ?_)
          · exact ⟨(HT2.out.below BB).2.1, (HT2'.out.below BB).2.1⟩
          clear hK K
          try simp only [Act.put, List.setIfInBounds_toArray, List.set_cons_zero, List.set_cons_succ]
          refine do_at (i := 3) rfl (by kernel_rfl) (by kernel_rfl) (fun K hK => ?_)
          go_simp
          refine (C2.out _ BB).mono ?_
          rintro e u26 ⟨va', vn', vc', S2, rfl, mm, M2, bb⟩
          go_wp2_with fail
          have hz := bb.size
          have l5 := T5.1
          replace T5 := T5.below bb
          have l6 := T6.1
          replace T6 := T6.below bb
          replace M1 := M1.below bb (fun g hg => by have := m1 g hg; omega)
          have m2 : ∀ g, S2 g → g < u26.heap.size ∧ g ≠ b5 ∧ g ≠ b6 := fun g hg => by have := mm g hg; omega
          clear mm
          replace m1 : ∀ g, S1 g → g < u26.heap.size ∧ g ≠ b5 ∧ g ≠ b6 := fun g hg => by have := m1 g hg; omega
          replace BB := BB.trans (bb.mono BB.size)
          clear bb hz l5 l6 hHeld
          refine hK.out _ _ ?_ (fun hHeld => ?_)
          · exact ⟨(HT2.out.below BB).2.1, (HT2'.out.below BB).2.1⟩
          clear hK K
          try simp only [Act.put, List.setIfInBounds_toArray, List.set_cons_zero, List.set_cons_succ]
          refine do_at (i := 6) rfl (by kernel_rfl) (by kernel_rfl) (fun K hK => ?_)
          obtain ⟨_, ⟨z0, z1, z2, z3, z4, z5, z6⟩, zf⟩ := T5
          have x0 := zf 0
          have x1 := zf 1
          have x2 := zf 2
          have x3 := zf 3
          have x4 := zf 4
          have x5 := zf 5
          have x6 := zf 6
          go_simp
          replace T5 := (show T7 u26 b5 (.int .i64 0) (.int .i32 0) (.int .u8 0) (.slice none 0 0) (.string ⟨#[]⟩) (.int .u8 0) (.string ⟨#[]⟩) from ⟨by assumption, ⟨z0, z1, z2, z3, z4, z5, z6⟩, zf⟩).put (.int .i64 t.kind) (.int .i32 t.rune) (.int .u8 t.priv) (.slice va vn vc) (.string t.inter) (.int .u8 t.fin) (.string t.data)
          replace T6 := T6.put_other (b' := b5) (c0 := .int .i64 t.kind) (c1 := .int .i32 t.rune) (c2 := .int .u8 t.priv) (c3 := .slice va vn vc) (c4 := .string t.inter) (c5 := .int .u8 t.fin) (c6 := .string t.data) ne.symm
          replace M1 := M1.put (b := b5) (a0 := .int .i64 t.kind) (a1 := .int .i32 t.rune) (a2 := .int .u8 t.priv) (a3 := .slice va vn vc) (a4 := .string t.inter) (a5 := .int .u8 t.fin) (a6 := .string t.data) (fun g hg => (m1 g hg).2.1)
          replace M2 := M2.put (b := b5) (a0 := .int .i64 t.kind) (a1 := .int .i32 t.rune) (a2 := .int .u8 t.priv) (a3 := .slice va vn vc) (a4 := .string t.inter) (a5 := .int .u8 t.fin) (a6 := .string t.data) (fun g hg => (m2 g hg).2.1)
          replace BB := put7_below BB h5 (.int .i64 t.kind) (.int .i32 t.rune) (.int .u8 t.priv) (.slice va vn vc) (.string t.inter) (.int .u8 t.fin) (.string t.data)
          have hsz := put7_size u26 b5 (.int .i64 t.kind) (.int .i32 t.rune) (.int .u8 t.priv) (.slice va vn vc) (.string t.inter) (.int .u8 t.fin) (.string t.data)
          change K _ (put7 u26 b5 (.int .i64 t.kind) (.int .i32 t.rune) (.int .u8 t.priv) (.slice va vn vc) (.string t.inter) (.int .u8 t.fin) (.string t.data))
          generalize put7 u26 b5 (.int .i64 t.kind) (.int .i32 t.rune) (.int .u8 t.priv) (.slice va vn vc) (.string t.inter) (.int .u8 t.fin) (.string t.data) = u27 at T5 T6 M1 M2 BB hsz ⊢
          rw [← hsz] at m1 m2
          clear z0 z1 z2 z3 z4 z5 z6 zf x0 x1 x2 x3 x4 x5 x6 hsz hHeld
          refine hK.out _ _ ?_ (fun hHeld => ?_)
          · exact ⟨(HT2.out.below BB).2.1, (HT2'.out.below BB).2.1⟩
          clear hK K
          try simp only [Act.put, List.setIfInBounds_toArray, List.set_cons_zero, List.set_cons_succ]
          refine do_at (i := 7) rfl (by kernel_rfl) (by kernel_rfl) (fun K hK => ?_)
          obtain ⟨_, ⟨z0, z1, z2, z3, z4, z5, z6⟩, zf⟩ := T6
          have x0 := zf 0
          have x1 := zf 1
          have x2 := zf 2
          have x3 := zf 3
          have x4 := zf 4
          have x5 := zf 5
          have x6 := zf 6
          go_simp
          replace T6 := (show T7 u27 b6 (.int .i64 0) (.int .i32 0) (.int .u8 0) (.slice none 0 0) (.string ⟨#[]⟩) (.int .u8 0) (.string ⟨#[]⟩) from ⟨by assumption, ⟨z0, z1, z2, z3, z4, z5, z6⟩, zf⟩).put (.int .i64 t'.kind) (.int .i32 t'.rune) (.int .u8 t'.priv) (.slice va' vn' vc') (.string t'.inter) (.int .u8 t'.fin) (.string t'.data)
          replace T5 := T5.put_other (b' := b6) (c0 := .int .i64 t'.kind) (c1 := .int .i32 t'.rune) (c2 := .int .u8 t'.priv) (c3 := .slice va' vn' vc') (c4 := .string t'.inter) (c5 := .int .u8 t'.fin) (c6 := .string t'.data) ne
          replace M1 := M1.put (b := b6) (a0 := .int .i64 t'.kind) (a1 := .int .i32 t'.rune) (a2 := .int .u8 t'.priv) (a3 := .slice va' vn' vc') (a4 := .string t'.inter) (a5 := .int .u8 t'.fin) (a6 := .string t'.data) (fun g hg => (m1 g hg).2.2)
          replace M2 := M2.put (b := b6) (a0 := .int .i64 t'.kind) (a1 := .int .i32 t'.rune) (a2 := .int .u8 t'.priv) (a3 := .slice va' vn' vc') (a4 := .string t'.inter) (a5 := .int .u8 t'.fin) (a6 := .string t'.data) (fun g hg => (m2 g hg).2.2)
          replace BB := put7_below BB h6 (.int .i64 t'.kind) (.int .i32 t'.rune) (.int .u8 t'.priv) (.slice va' vn' vc') (.string t'.inter) (.int .u8 t'.fin) (.string t'.data)
          have hsz := put7_size u27 b6 (.int .i64 t'.kind) (.int .i32 t'.rune) (.int .u8 t'.priv) (.slice va' vn' vc') (.string t'.inter) (.int .u8 t'.fin) (.string t'.data)
          change K _ (put7 u27 b6 (.int .i64 t'.kind) (.int .i32 t'.rune) (.int .u8 t'.priv) (.slice va' vn' vc') (.string t'.inter) (.int .u8 t'.fin) (.string t'.data))
          generalize put7 u27 b6 (.int .i64 t'.kind) (.int .i32 t'.rune) (.int .u8 t'.priv) (.slice va' vn' vc') (.string t'.inter) (.int .u8 t'.fin) (.string t'.data) = u28 at T5 T6 M1 M2 BB hsz ⊢
          rw [← hsz] at m1 m2
          clear z0 z1 z2 z3 z4 z5 z6 zf x0 x1 x2 x3 x4 x5 x6 hsz hHeld
          refine hK.out _ _ ?_ (fun hHeld => ?_)
          · exact ⟨(HT2.out.below BB).2.1, (HT2'.out.below BB).2.1⟩
          clear hK K
          try simp only [Act.put, List.setIfInBounds_toArray, List.set_cons_zero, List.set_cons_succ]
          refine wpAnyH_done (by kernel_rfl) ?_ _
          have HTW := Lib.hid (show Two w2 t t' (.pointer (some ⟨b5, 0, none⟩)) (.pointer (some ⟨b6, 0, none⟩)) u28 from ⟨b5, b6, va, vn, vc, va', vn', vc', S1, S2, rfl, rfl, T5, T6, M1, M2, m1, m2, h5, h6, ne, BB⟩)
          clear T5 T6 M1 M2 m1 m2 h5 h6 ne BB
          go_wp2_with fail
          go_meet
          case rel => exact HTW
    · go_simp
      obtain ⟨u29, hu29⟩ : ∃ wx, wx = u0.alloc (.cells #[.int .i64 0, .int .i32 0, .int .u8 0, .slice none 0 0, .string ⟨#[]⟩, .int .u8 0, .string ⟨#[]⟩] 27) := ⟨_, rfl⟩
      have bb : Below u0.heap.size u0 u29 := by rw [hu29]; exact (Below.refl _ _).alloc (Nat.le_refl _) _
      have T5 : T7 u29 u0.heap.size (.int .i64 0) (.int .i32 0) (.int .u8 0) (.slice none 0 0) (.string ⟨#[]⟩) (.int .u8 0) (.string ⟨#[]⟩) := by rw [hu29]; exact T7.newAt _ _ rfl _ _ _ _ _ _ _ _
      rw [← hu29]
      clear hu29
      have h5 : w2.heap.size ≤ u0.heap.size := BB.size
      have hz := bb.size
      obtain ⟨b5, eb5⟩ : ∃ b, u0.heap.size = b := ⟨_, rfl⟩
      rw [eb5] at T5 h5 ⊢
      have hlt := T5.1
      replace BB := BB.trans (bb.mono BB.size)
      clear bb hz eb5 hlt hHeld
      refine hK.out _ _ ?_ (fun hHeld => ?_)
      · exact ⟨(HT2.out.below BB).2.1, (HT2'.out.below BB).2.1⟩
      clear hK K
      try simp only [Act.put, List.setIfInBounds_toArray, List.set_cons_zero, List.set_cons_succ]
      refine two_at (i := 1) (j := 5) rfl rfl (by kernel_rfl) (by kernel_rfl) (by kernel_rfl) (fun K hK => ?_) (fun K hK => ?_)
      · go_simp
        refine (C1.out _ BB).mono ?_
        rintro e u30 ⟨va, vn, vc, S1, rfl, mm, M1, bb⟩
        go_wp2_with fail
        have hz := bb.size
        have l5 := T5.1
        replace T5 := T5.below bb
        have m1 : ∀ g, S1 g → g < u30.heap.size ∧ g ≠ b5 := fun g hg => by have := mm g hg; omega
        clear mm
        replace BB := BB.trans (bb.mono BB.size)
        clear bb hz l5 hHeld
        refine hK.out _ _ ?_ (fun hHeld => ?_)
        · exact ⟨(HT2.out.below BB).2.1, (HT2'.out.below BB).2.1⟩
        clear hK K
        try simp only [Act.put, List.setIfInBounds_toArray, List.set_cons_zero, List.set_cons_succ]
        refine two_at (i := 3) (j := 5) rfl rfl (by kernel_rfl) (by kernel_rfl) (by kernel_rfl) (fun K hK => ?_) (fun K hK => ?_)
        · go_simp
          refine (C2.out _ BB).mono ?_
          rintro e u31 ⟨va', vn', vc', S2, rfl, mm, M2, bb⟩
          go_wp2_with fail
          have hz := bb.size
          have l5 := T5.1
          replace T5 := T5.below bb
          replace M1 := M1.below bb (fun g hg => by have := m1 g hg; omega)
          have m2 : ∀ g, S2 g → g < u31.heap.size ∧ g ≠ b5 := fun g hg => by have := mm g hg; omega
          clear mm
          replace m1 : ∀ g, S1 g → g < u31.heap.size ∧ g ≠ b5 := fun g hg => by have := m1 g hg; omega
          replace BB := BB.trans (bb.mono BB.size)
          clear bb hz l5 hHeld
          refine hK.out _ _ ?_ (fun hHeld => ?_)
          · exact ⟨(HT2.out.below BB).2.1, (HT2'.out.below BB).2.1⟩
          clear hK K
          try simp only [Act.put, List.setIfInBounds_toArray, List.set_cons_zero, List.set_cons_succ]
          refine do_at (i := 5) rfl (by kernel_rfl) (by kernel_rfl) (fun K hK => ?_)
          go_simp
          obtain ⟨u32, hu32⟩ : ∃ wx, wx = u31.alloc (.cells #[.int .i64 0, .int .i32 0, .int .u8 0, .slice none 0 0, .string ⟨#[]⟩, .int .u8 0, .string ⟨#[]⟩] 27) := ⟨_, rfl⟩
          have bb : Below u31.heap.size u31 u32 := by rw [hu32]; exact (Below.refl _ _).alloc (Nat.le_refl _) _
          have T6 : T7 u32 u31.heap.size (.int .i64 0) (.int .i32 0) (.int .u8 0) (.slice none 0 0) (.string ⟨#[]⟩) (.int .u8 0) (.string ⟨#[]⟩) := by rw [hu32]; exact T7.newAt _ _ rfl _ _ _ _ _ _ _ _
          rw [← hu32]
          clear hu32
          have h6 : w2.heap.size ≤ u31.heap.size := BB.size
          have hz := bb.size
          have l5 := T5.1
          replace T5 := T5.below bb
          replace M1 := M1.below bb (fun g hg => by have := m1 g hg; omega)
          replace M2 := M2.below bb (fun g hg => by have := m2 g hg; omega)
          obtain ⟨b6, eb6⟩ : ∃ b, u31.heap.size = b := ⟨_, rfl⟩
          rw [eb6] at T6 h6 ⊢
          replace m1 : ∀ g, S1 g → g < u32.heap.size ∧ g ≠ b5 ∧ g ≠ b6 := fun g hg => by have := m1 g hg; omega
          replace m2 : ∀ g, S2 g → g < u32.heap.size ∧ g ≠ b5 ∧ g ≠ b6 := fun g hg => by have := m2 g hg; omega
          have ne : b5 ≠ b6 := by omega
          have hlt := T6.1
          replace BB := BB.trans (bb.mono BB.size)
          clear bb hz l5 eb6 hlt hHeld
          refine hK.out _ _ ?_ (fun hHeld => ?_)
          · exact ⟨(HT2.out.below BB).2.1, (HT2'.out.below BB).2.1⟩
          clear hK K
          try simp only [Act.put, List.setIfInBounds_toArray, List.set_cons_zero, List.set_cons_succ]
          refine do_at (i := 6) rfl (by kernel_rfl) (by kernel_rfl) (fun K hK => ?_)
          obtain ⟨_, ⟨z0, z1, z2, z3, z4, z5, z6⟩, zf⟩ := T5
          have x0 := zf 0
          have x1 := zf 1
          have x2 := zf 2
          have x3 := zf 3
          have x4 := zf 4
          have x5 := zf 5
          have x6 := zf 6
          go_simp
          replace T5 := (show T7 u32 b5 (.int .i64 0) (.int .i32 0) (.int .u8 0) (.slice none 0 0) (.string ⟨#[]⟩) (.int .u8 0) (.string ⟨#[]⟩) from ⟨by assumption, ⟨z0, z1, z2, z3, z4, z5, z6⟩, zf⟩).put (.int .i64 t.kind) (.int .i32 t.rune) (.int .u8 t.priv) (.slice va vn vc) (.string t.inter) (.int .u8 t.fin) (.string t.data)
          replace T6 := T6.put_other (b' := b5) (c0 := .int .i64 t.kind) (c1 := .int .i32 t.rune) (c2 := .int .u8 t.priv) (c3 := .slice va vn vc) (c4 := .string t.inter) (c5 := .int .u8 t.fin) (c6 := .string t.data) ne.symm
          replace M1 := M1.put (b := b5) (a0 := .int .i64 t.kind) (a1 := .int .i32 t.rune) (a2 := .int .u8 t.priv) (a3 := .slice va vn vc) (a4 := .string t.inter) (a5 := .int .u8 t.fin) (a6 := .string t.data) (fun g hg => (m1 g hg).2.1)
          replace M2 := M2.put (b := b5) (a0 := .int .i64 t.kind) (a1 := .int .i32 t.rune) (a2 := .int .u8 t.priv) (a3 := .slice va vn vc) (a4 := .string t.inter) (a5 := .int .u8 t.fin) (a6 := .string t.data) (fun g hg => (m2 g hg).2.1)
          replace BB := put7_below BB h5 (.int .i64 t.kind) (.int .i32 t.rune) (.int .u8 t.priv) (.slice va vn vc) (.string t.inter) (.int .u8 t.fin) (.string t.data)
          have hsz := put7_size u32 b5 (.int .i64 t.kind) (.int .i32 t.rune) (.int .u8 t.priv) (.slice va vn vc) (.string t.inter) (.int .u8 t.fin) (.string t.data)
          change K _ (put7 u32 b5 (.int .i64 t.kind) (.int .i32 t.rune) (.int .u8 t.priv) (.slice va vn vc) (.string t.inter) (.int .u8 t.fin) (.string t.data))
          generalize put7 u32 b5 (.int .i64 t.kind) (.int .i32 t.rune) (.int .u8 t.priv) (.slice va vn vc) (.string t.inter) (.int .u8 t.fin) (.string t.data) = u33 at T5 T6 M1 M2 BB hsz ⊢
          rw [← hsz] at m1 m2
          clear z0 z1 z2 z3 z4 z5 z6 zf x0 x1 x2 x3 x4 x5 x6 hsz hHeld
          refine hK.out _ _ ?_ (fun hHeld => ?_)
          · exact ⟨(HT2.out.below BB).2.1, (HT2'.out.below BB).2.1⟩
          clear hK K
          try simp only [Act.put, List.setIfInBounds_toArray, List.set_cons_zero, List.set_cons_succ]
          refine do_at (i := 7) rfl (by kernel_rfl) (by kernel_rfl) (fun K hK => ?_)
          obtain ⟨_, ⟨z0, z1, z2, z3, z4, z5, z6⟩, zf⟩ := T6
          have x0 := zf 0
          have x1 := zf 1
          have x2 := zf 2
          have x3 := zf 3
          have x4 := zf 4
          have x5 := zf 5
          have x6 := zf 6
          go_simp
          replace T6 := (show T7 u33 b6 (.int .i64 0) (.int .i32 0) (.int .u8 0) (.slice none 0 0) (.string ⟨#[]⟩) (.int .u8 0) (.string ⟨#[]⟩) from ⟨by assumption, ⟨z0, z1, z2, z3, z4, z5, z6⟩, zf⟩).put (.int .i64 t'.kind) (.int .i32 t'.rune) (.int .u8 t'.priv) (.slice va' vn' vc') (.string t'.inter) (.int .u8 t'.fin) (.string t'.data)
          replace T5 := T5.put_other (b' := b6) (c0 := .int .i64 t'.kind) (c1 := .int .i32 t'.rune) (c2 := .int .u8 t'.priv) (c3 := .slice va' vn' vc') (c4 := .string t'.inter) (c5 := .int .u8 t'.fin) (c6 := .string t'.data) ne
          replace M1 := M1.put (b := b6) (a0 := .int .i64 t'.kind) (a1 := .int .i32 t'.rune) (a2 := .int .u8 t'.priv) (a3 := .slice va' vn' vc') (a4 := .string t'.inter) (a5 := .int .u8 t'.fin) (a6 := .string t'.data) (fun g hg => (m1 g hg).2.2)
          replace M2 := M2.put (b := b6) (a0 := .int .i64 t'.kind) (a1 := .int .i32 t'.rune) (a2 := .int .u8 t'.priv) (a3 := .slice va' vn' vc') (a4 := .string t'.inter) (a5 := .int .u8 t'.fin) (a6 := .string t'.data) (fun g hg => (m2 g hg).2.2)
          replace BB := put7_below BB h6 (.int .i64 t'.kind) (.int .i32 t'.rune) (.int .u8 t'.priv) (.slice va' vn' vc') (.string t'.inter) (.int .u8 t'.fin) (.string t'.data)
          have hsz := put7_size u33 b6 (.int .i64 t'.kind) (.int .i32 t'.rune) (.int .u8 t'.priv) (.slice va' vn' vc') (.string t'.inter) (.int .u8 t'.fin) (.string t'.data)
          change K _ (put7 u33 b6 (.int .i64 t'.kind) (.int .i32 t'.rune) (.int .u8 t'.priv) (.slice va' vn' vc') (.string t'.inter) (.int .u8 t'.fin) (.string t'.data))
          generalize put7 u33 b6 (.int .i64 t'.kind) (.int .i32 t'.rune) (.int .u8 t'.priv) (.slice va' vn' vc') (.string t'.inter) (.int .u8 t'.fin) (.string t'.data) = u34 at T5 T6 M1 M2 BB hsz ⊢
          rw [← hsz] at m1 m2
          clear z0 z1 z2 z3 z4 z5 z6 zf x0 x1 x2 x3 x4 x5 x6 hsz hHeld
          refine hK.out _ _ ?_ (fun hHeld => ?_)
          · exact ⟨(HT2.out.below BB).2.1, (HT2'.out.below BB).2.1⟩
          clear hK K
          try simp only [Act.put, List.setIfInBounds_toArray, List.set_cons_zero, List.set_cons_succ]
          refine wpAnyH_done (by kernel_rfl) ?_ _
          have HTW := Lib.hid (show Two w2 t t' (.pointer (some ⟨b5, 0, none⟩)) (.pointer (some ⟨b6, 0, none⟩)) u34 from ⟨b5, b6, va, vn, vc, va', vn', vc', S1, S2, rfl, rfl, T5, T6, M1, M2, m1, m2, h5, h6, ne, BB⟩)
          clear T5 T6 M1 M2 m1 m2 h5 h6 ne BB
          go_wp2_with fail
          go_meet
          case rel => exact HTW
        · go_simp
          obtain ⟨u35, hu35⟩ : ∃ wx, wx = u30.alloc (.cells #[.int .i64 0, .int .i32 0, .int .u8 0, .slice none 0 0, .string ⟨#[]⟩, .int .u8 0, .string ⟨#[]⟩] 27) := ⟨_, rfl⟩
          have bb : Below u30.heap.size u30 u35 := by rw [hu35]; exact (Below.refl _ _).alloc (Nat.le_refl _) _
          have T6 : T7 u35 u30.heap.size (.int .i64 0) (.int .i32 0) (.int .u8 0) (.slice none 0 0) (.string ⟨#[]⟩) (.int .u8 0) (.string ⟨#[]⟩) := by rw [hu35]; exact T7.newAt _ _ rfl _ _ _ _ _ _ _ _
          rw [← hu35]
          clear hu35
          have h6 : w2.heap.size ≤ u30.heap.size := BB.size
          have hz := bb.size
          have l5 := T5.1
          replace T5 := T5.below bb
          replace M1 := M1.below bb (fun g hg => by have := m1 g hg; omega)
          obtain ⟨b6, eb6⟩ : ∃ b, u30.heap.size = b := ⟨_, rfl⟩
          rw [eb6] at T6 h6 ⊢
          replace m1 : ∀ g, S1 g → g < u35.heap.size ∧ g ≠ b5 ∧ g ≠ b6 := fun g hg => by have := m1 g hg; omega
          have ne : b5 ≠ b6 := by omega
          have hlt := T6.1
          replace BB := BB.trans (bb.mono BB.size)
          clear bb hz l5 eb6 hlt hHeld
          refine hK.out _ _ ?_ (fun hHeld => ?_)
          · exact ⟨(HT2.out.below BB).2.1, (HT2'.out.below BB).2.1⟩
          clear hK K
          try simp only [Act.put, List.setIfInBounds_toArray, List.set_cons_zero, List.set_cons_succ]
          refine do_at (i := 3) rfl (by kernel_rfl) (by kernel_rfl) (fun K hK => ?_)
          go_simp
          refine (C2.out _ BB).mono ?_
          rintro e u36 ⟨va', vn', vc', S2, rfl, mm, M2, bb⟩
          go_wp2_with fail
          have hz := bb.size
          have l5 := T5.1
          replace T5 := T5.below bb
          have l6 := T6.1
          replace T6 := T6.below bb
          replace M1 := M1.below bb (fun g hg => by have := m1 g hg; omega)
          have m2 : ∀ g, S2 g → g < u36.heap.size ∧ g ≠ b5 ∧ g ≠ b6 := fun g hg => by have := mm g hg; omega
          clear mm
          replace m1 : ∀ g, S1 g → g < u36.heap.size ∧ g ≠ b5 ∧ g ≠ b6 := fun g hg => by have := m1 g hg; omega
          replace BB := BB.trans (bb.mono BB.size)
          clear bb hz l5 l6 hHeld
          refine hK.out _ _ ?_ (fun hHeld => ?_)
          · exact ⟨(HT2.out.below BB).2.1, (HT2'.out.below BB).2.1⟩
          clear hK K
          try simp only [Act.put, List.setIfInBounds_toArray, List.set_cons_zero, List.set_cons_succ]
          refine do_at (i := 6) rfl (by kernel_rfl) (by kernel_rfl) (fun K hK => ?_)
          obtain ⟨_, ⟨z0, z1, z2, z3, z4, z5, z6⟩, zf⟩ := T5
          have x0 := zf 0
          have x1 := zf 1
          have x2 := zf 2
          have x3 := zf 3
          have x4 := zf 4
          have x5 := zf 5
          have x6 := zf 6
          go_simp
          replace T5 := (show T7 u36 b5 (.int .i64 0) (.int .i32 0) (.int .u8 0) (.slice none 0 0) (.string ⟨#[]⟩) (.int .u8 0) (.string ⟨#[]⟩) from ⟨by assumption, ⟨z0, z1, z2, z3, z4, z5, z6⟩, zf⟩).put (.int .i64 t.kind) (.int .i32 t.rune) (.int .u8 t.priv) (.slice va vn vc) (.string t.inter) (.int .u8 t.fin) (.string t.data)
          replace T6 := T6.put_other (b' := b5) (c0 := .int .i64 t.kind) (c1 := .int .i32 t.rune) (c2 := .int .u8 t.priv) (c3 := .slice va vn vc) (c4 := .string t.inter) (c5 := .int .u8 t.fin) (c6 := .string t.data) ne.symm
          replace M1 := M1.put (b := b5) (a0 := .int .i64 t.kind) (a1 := .int .i32 t.rune) (a2 := .int .u8 t.priv) (a3 := .slice va vn vc) (a4 := .string t.inter) (a5 := .int .u8 t.fin) (a6 := .string t.data) (fun g hg => (m1 g hg).2.1)
          replace M2 := M2.put (b := b5) (a0 := .int .i64 t.kind) (a1 := .int .i32 t.rune) (a2 := .int .u8 t.priv) (a3 := .slice va vn vc) (a4 := .string t.inter) (a5 := .int .u8 t.fin) (a6 := .string t.data) (fun g hg => (m2 g hg).2.1)
          replace BB := put7_below BB h5 (.int .i64 t.kind) (.int .i32 t.rune) (.int .u8 t.priv) (.slice va vn vc) (.string t.inter) (.int .u8 t.fin) (.string t.data)
          have hsz := put7_size u36 b5 (.int .i64 t.kind) (.int .i32 t.rune) (.int .u8 t.priv) (.slice va vn vc) (.string t.inter) (.int .u8 t.fin) (.string t.data)
          change K _ (put7 u36 b5 (.int .i64 t.kind) (.int .i32 t.rune) (.int .u8 t.priv) (.slice va vn vc) (.string t.inter) (.int .u8 t.fin) (.string t.data))
          generalize put7 u36 b5 (.int .i64 t.kind) (.int .i32 t.rune) (.int .u8 t.priv) (.slice va vn vc) (.string t.inter) (.int .u8 t.fin) (.string t.data) = u37 at T5 T6 M1 M2 BB hsz ⊢
          rw [← hsz] at m1 m2
          clear z0 z1 z2 z3 z4 z5 z6 zf x0 x1 x2 x3 x4 x5 x6 hsz hHeld
          refine hK.out _ _ ?_ (fun hHeld => ?_)
          · exact ⟨(HT2.out.below BB).2.1, (HT2'.out.below BB).2.1⟩
          clear hK K
          try simp only [Act.put, List.setIfInBounds_toArray, List.set_cons_zero, List.set_cons_succ]
          refine do_at (i := 7) rfl (by kernel_rfl) (by kernel_rfl) (fun K hK => ?_)
          obtain ⟨_, ⟨z0, z1, z2, z3, z4, z5, z6⟩, zf⟩ := T6
          have x0 := zf 0
          have x1 := zf 1
          have x2 := zf 2
          have x3 := zf 3
          have x4 := zf 4
          have x5 := zf 5
          have x6 := zf 6
          go_simp
          replace T6 := (show T7 u37 b6 (.int .i64 0) (.int .i32 0) (.int .u8 0) (.slice none 0 0) (.string ⟨#[]⟩) (.int .u8 0) (.string ⟨#[]⟩) from ⟨by assumption, ⟨z0, z1, z2, z3, z4, z5, z6⟩, zf⟩).put (.int .i64 t'.kind) (.int .i32 t'.rune) (.int .u8 t'.priv) (.slice va' vn' vc') (.string t'.inter) (.int .u8 t'.fin) (.string t'.data)
          replace T5 := T5.put_other (b' := b6) (c0 := .int .i64 t'.kind) (c1 := .int .i32 t'.rune) (c2 := .int .u8 t'.priv) (c3 := .slice va' vn' vc') (c4 := .string t'.inter) (c5 := .int .u8 t'.fin) (c6 := .string t'.data) ne
          replace M1 := M1.put (b := b6) (a0 := .int .i64 t'.kind) (a1 := .int .i32 t'.rune) (a2 := .int .u8 t'.priv) (a3 := .slice va' vn' vc') (a4 := .string t'.inter) (a5 := .int .u8 t'.fin) (a6 := .string t'.data) (fun g hg => (m1 g hg).2.2)
          replace M2 := M2.put (b := b6) (a0 := .int .i64 t'.kind) (a1 := .int .i32 t'.rune) (a2 := .int .u8 t'.priv) (a3 := .slice va' vn' vc') (a4 := .string t'.inter) (a5 := .int .u8 t'.fin) (a6 := .string t'.data) (fun g hg => (m2 g hg).2.2)
          replace BB := put7_below BB h6 (.int .i64 t'.kind) (.int .i32 t'.rune) (.int .u8 t'.priv) (.slice va' vn' vc') (.string t'.inter) (.int .u8 t'.fin) (.string t'.data)
          have hsz := put7_size u37 b6 (.int .i64 t'.kind) (.int .i32 t'.rune) (.int .u8 t'.priv) (.slice va' vn' vc') (.string t'.inter) (.int .u8 t'.fin) (.string t'.data)
          change K _ (put7 u37 b6 (.int .i64 t'.kind) (.int .i32 t'.rune) (.int .u8 t'.priv) (.slice va' vn' vc') (.string t'.inter) (.int .u8 t'.fin) (.string t'.data))
          generalize put7 u37 b6 (.int .i64 t'.kind) (.int .i32 t'.rune) (.int .u8 t'.priv) (.slice va' vn' vc') (.string t'.inter) (.int .u8 t'.fin) (.string t'.data) = u38 at T5 T6 M1 M2 BB hsz ⊢
          rw [← hsz] at m1 m2
          clear z0 z1 z2 z3 z4 z5 z6 zf x0 x1 x2 x3 x4 x5 x6 hsz hHeld
          refine hK.out _ _ ?_ (fun hHeld => ?_)
          · exact ⟨(HT2.out.below BB).2.1, (HT2'.out.below BB).2.1⟩
          clear hK K
          try simp only [Act.put, List.setIfInBounds_toArray, List.set_cons_zero, List.set_cons_succ]
          refine wpAnyH_done (by kernel_rfl) ?_ _
          have HTW := Lib.hid (show Two w2 t t' (.pointer (some ⟨b5, 0, none⟩)) (.pointer (some ⟨b6, 0, none⟩)) u38 from ⟨b5, b6, va, vn, vc, va', vn', vc', S1, S2, rfl, rfl, T5, T6, M1, M2, m1, m2, h5, h6, ne, BB⟩)
          clear T5 T6 M1 M2 m1 m2 h5 h6 ne BB
          go_wp2_with fail
          go_meet
          case rel => exact HTW
      · go_simp
        obtain ⟨u39, hu39⟩ : ∃ wx, wx = u29.alloc (.cells #[.int .i64 0, .int .i32 0, .int .u8 0, .slice none 0 0, .string ⟨#[]⟩, .int .u8 0, .string ⟨#[]⟩] 27) := ⟨_, rfl⟩
        have bb : Below u29.heap.size u29 u39 := by rw [hu39]; exact (Below.refl _ _).alloc (Nat.le_refl _) _
        have T6 : T7 u39 u29.heap.size (.int .i64 0) (.int .i32 0) (.int .u8 0) (.slice none 0 0) (.string ⟨#[]⟩) (.int .u8 0) (.string ⟨#[]⟩) := by rw [hu39]; exact T7.newAt _ _ rfl _ _ _ _ _ _ _ _
        rw [← hu39]
        clear hu39
        have h6 : w2.heap.size ≤ u29.heap.size := BB.size
        have hz := bb.size
        have l5 := T5.1
        replace T5 := T5.below bb
        obtain ⟨b6, eb6⟩ : ∃ b, u29.heap.size = b := ⟨_, rfl⟩
        rw [eb6] at T6 h6 ⊢
        have ne : b5 ≠ b6 := by omega
        have hlt := T6.1
        replace BB := BB.trans (bb.mono BB.size)
        clear bb hz l5 eb6 hlt hHeld
        refine hK.out _ _ ?_ (fun hHeld => ?_)
        · exact ⟨(HT2.out.below BB).2.1, (HT2'.out.below BB).2.1⟩
        clear hK K
        try simp only [Act.put, List.setIfInBounds_toArray, List.set_cons_zero, List.set_cons_succ]
        refine do_at (i := 1) rfl (by kernel_rfl) (by kernel_rfl) (fun K hK => ?_)
        go_simp
        refine (C1.out _ BB).mono ?_
        rintro e u40 ⟨va, vn, vc, S1, rfl, mm, M1, bb⟩
        go_wp2_with fail
        have hz := bb.size
        have l5 := T5.1
        replace T5 := T5.below bb
        have l6 := T6.1
        replace T6 := T6.below bb
        have m1 : ∀ g, S1 g → g < u40.heap.size ∧ g ≠ b5 ∧ g ≠ b6 := fun g hg => by have := mm g hg; omega
        clear mm
        replace BB := BB.trans (bb.mono BB.size)
        clear bb hz l5 l6 hHeld
        refine hK.out _ _ ?_ (fun hHeld => ?_)
        · exact ⟨(HT2.out.below BB).2.1, (HT2'.out.below BB).2.1⟩
        clear hK K
        try simp only [Act.put, List.setIfInBounds_toArray, List.set_cons_zero, List.set_cons_succ]
        refine do_at (i := 3) rfl (by kernel_rfl) (by kernel_rfl) (fun K hK => ?_)
        go_simp
        refine (C2.out _ BB).mono ?_
        rintro e u41 ⟨va', vn', vc', S2, rfl, mm, M2, bb⟩
        go_wp2_with fail
        have hz := bb.size
        have l5 := T5.1
        replace T5 := T5.below bb
        have l6 := T6.1
        replace T6 := T6.below bb
        replace M1 := M1.below bb (fun g hg => by have := m1 g hg; omega)
        have m2 : ∀ g, S2 g → g < u41.heap.size ∧ g ≠ b5 ∧ g ≠ b6 := fun g hg => by have := mm g hg; omega
        clear mm
        replace m1 : ∀ g, S1 g → g < u41.heap.size ∧ g ≠ b5 ∧ g ≠ b6 := fun g hg => by have := m1 g hg; omega
        replace BB := BB.trans (bb.mono BB.size)
        clear bb hz l5 l6 hHeld
        refine hK.out _ _ ?_ (fun hHeld => ?_)
        · exact ⟨(HT2.out.below BB).2.1, (HT2'.out.below BB).2.1⟩
        clear hK K
        try simp only [Act.put, List.setIfInBounds_toArray, List.set_cons_zero, List.set_cons_succ]
        refine do_at (i := 6) rfl (by kernel_rfl) (by kernel_rfl) (fun K hK => ?_)
        obtain ⟨_, ⟨z0, z1, z2, z3, z4, z5, z6⟩, zf⟩ := T5
        have x0 := zf 0
        have x1 := zf 1
        have x2 := zf 2
        have x3 := zf 3
        have x4 := zf 4
        have x5 := zf 5
        have x6 := zf 6
        go_simp
        replace T5 := (show T7 u41 b5 (.int .i64 0) (.int .i32 0) (.int .u8 0) (.slice none 0 0) (.string ⟨#[]⟩) (.int .u8 0) (.string ⟨#[]⟩) from ⟨by assumption, ⟨z0, z1, z2, z3, z4, z5, z6⟩, zf⟩).put (.int .i64 t.kind) (.int .i32 t.rune) (.int .u8 t.priv) (.slice va vn vc) (.string t.inter) (.int .u8 t.fin) (.string t.data)
        replace T6 := T6.put_other (b' := b5) (c0 := .int .i64 t.kind) (c1 := .int .i32 t.rune) (c2 := .int .u8 t.priv) (c3 := .slice va vn vc) (c4 := .string t.inter) (c5 := .int .u8 t.fin) (c6 := .string t.data) ne.symm
        replace M1 := M1.put (b := b5) (a0 := .int .i64 t.kind) (a1 := .int .i32 t.rune) (a2 := .int .u8 t.priv) (a3 := .slice va vn vc) (a4 := .string t.inter) (a5 := .int .u8 t.fin) (a6 := .string t.data) (fun g hg => (m1 g hg).2.1)
        replace M2 := M2.put (b := b5) (a0 := .int .i64 t.kind) (a1 := .int .i32 t.rune) (a2 := .int .u8 t.priv) (a3 := .slice va vn vc) (a4 := .string t.inter) (a5 := .int .u8 t.fin) (a6 := .string t.data) (fun g hg => (m2 g hg).2.1)
        replace BB := put7_below BB h5 (.int .i64 t.kind) (.int .i32 t.rune) (.int .u8 t.priv) (.slice va vn vc) (.string t.inter) (.int .u8 t.fin) (.string t.data)
        have hsz := put7_size u41 b5 (.int .i64 t.kind) (.int .i32 t.rune) (.int .u8 t.priv) (.slice va vn vc) (.string t.inter) (.int .u8 t.fin) (.string t.data)
        change K _ (put7 u41 b5 (.int .i64 t.kind) (.int .i32 t.rune) (.int .u8 t.priv) (.slice va vn vc) (.string t.inter) (.int .u8 t.fin) (.string t.data))
        generalize put7 u41 b5 (.int .i64 t.kind) (.int .i32 t.rune) (.int .u8 t.priv) (.slice va vn vc) (.string t.inter) (.int .u8 t.fin) (.string t.data) = u42 at T5 T6 M1 M2 BB hsz ⊢
        rw [← hsz] at m1 m2
        clear z0 z1 z2 z3 z4 z5 z6 zf x0 x1 x2 x3 x4 x5 x6 hsz hHeld
        refine hK.out _ _ ?_ (fun hHeld => ?_)
        · exact ⟨(HT2.out.below BB).2.1, (HT2'.out.below BB).2.1⟩
        clear hK K
        try simp only [Act.put, List.setIfInBounds_toArray, List.set_cons_zero, List.set_cons_succ]
        refine do_at (i := 7) rfl (by kernel_rfl) (by kernel_rfl) (fun K hK => ?_)
        obtain ⟨_, ⟨z0, z1, z2, z3, z4, z5, z6⟩, zf⟩ := T6
        have x0 := zf 0
        have x1 := zf 1
        have x2 := zf 2
        have x3 := zf 3
        have x4 := zf 4
        have x5 := zf 5
        have x6 := zf 6
        go_simp
        replace T6 := (show T7 u42 b6 (.int .i64 0) (.int .i32 0) (.int .u8 0) (.slice none 0 0) (.string ⟨#[]⟩) (.int .u8 0) (.string ⟨#[]⟩) from ⟨by assumption, ⟨z0, z1, z2, z3, z4, z5, z6⟩, zf⟩).put (.int .i64 t'.kind) (.int .i32 t'.rune) (.int .u8 t'.priv) (.slice va' vn' vc') (.string t'.inter) (.int .u8 t'.fin) (.string t'.data)
        replace T5 := T5.put_other (b' := b6) (c0 := .int .i64 t'.kind) (c1 := .int .i32 t'.rune) (c2 := .int .u8 t'.priv) (c3 := .slice va' vn' vc') (c4 := .string t'.inter) (c5 := .int .u8 t'.fin) (c6 := .string t'.data) ne
        replace M1 := M1.put (b := b6) (a0 := .int .i64 t'.kind) (a1 := .int .i32 t'.rune) (a2 := .int .u8 t'.priv) (a3 := .slice va' vn' vc') (a4 := .string t'.inter) (a5 := .int .u8 t'.fin) (a6 := .string t'.data) (fun g hg => (m1 g hg).2.2)
        replace M2 := M2.put (b := b6) (a0 := .int .i64 t'.kind) (a1 := .int .i32 t'.rune) (a2 := .int .u8 t'.priv) (a3 := .slice va' vn' vc') (a4 := .string t'.inter) (a5 := .int .u8 t'.fin) (a6 := .string t'.data) (fun g hg => (m2 g hg).2.2)
        replace BB := put7_below BB h6 (.int .i64 t'.kind) (.int .i32 t'.rune) (.int .u8 t'.priv) (.slice va' vn' vc') (.string t'.inter) (.int .u8 t'.fin) (.string t'.data)
        have hsz := put7_size u42 b6 (.int .i64 t'.kind) (.int .i32 t'.rune) (.int .u8 t'.priv) (.slice va' vn' vc') (.string t'.inter) (.int .u8 t'.fin) (.string t'.data)
        change K _ (put7 u42 b6 (.int .i64 t'.kind) (.int .i32 t'.rune) (.int .u8 t'.priv) (.slice va' vn' vc') (.string t'.inter) (.int .u8 t'.fin) (.string t'.data))
        generalize put7 u42 b6 (.int .i64 t'.kind) (.int .i32 t'.rune) (.int .u8 t'.priv) (.slice va' vn' vc') (.string t'.inter) (.int .u8 t'.fin) (.string t'.data) = u43 at T5 T6 M1 M2 BB hsz ⊢
        rw [← hsz] at m1 m2
        clear z0 z1 z2 z3 z4 z5 z6 zf x0 x1 x2 x3 x4 x5 x6 hsz hHeld
        refine hK.out _ _ ?_ (fun hHeld => ?_)
        · exact ⟨(HT2.out.below BB).2.1, (HT2'.out.below BB).2.1⟩
        clear hK K
        try simp only [Act.put, List.setIfInBounds_toArray, List.set_cons_zero, List.set_cons_succ]
        refine wpAnyH_done (by kernel_rfl) ?_ _
        have HTW := Lib.hid (show Two w2 t t' (.pointer (some ⟨b5, 0, none⟩)) (.pointer (some ⟨b6, 0, none⟩)) u43 from ⟨b5, b6, va, vn, vc, va', vn', vc', S1, S2, rfl, rfl, T5, T6, M1, M2, m1, m2, h5, h6, ne, BB⟩)
        clear T5 T6 M1 M2 m1 m2 h5 h6 ne BB
        go_wp2_with fail
        go_meet
        case rel => exact HTW
    · go_simp
      obtain ⟨u44, hu44⟩ : ∃ wx, wx = u0.alloc (.cells #[.int .i64 0, .int .i32 0, .int .u8 0, .slice none 0 0, .string ⟨#[]⟩, .int .u8 0, .string ⟨#[]⟩] 27) := ⟨_, rfl⟩
      have bb : Below u0.heap.size u0 u44 := by rw [hu44]; exact (Below.refl _ _).alloc (Nat.le_refl _) _
      have T6 : T7 u44 u0.heap.size (.int .i64 0) (.int .i32 0) (.int .u8 0) (.slice none 0 0) (.string ⟨#[]⟩) (.int .u8 0) (.string ⟨#[]⟩) := by rw [hu44]; exact T7.newAt _ _ rfl _ _ _ _ _ _ _ _
      rw [← hu44]
      clear hu44
      have h6 : w2.heap.size ≤ u0.heap.size := BB.size
      have hz := bb.size
      obtain ⟨b6, eb6⟩ : ∃ b, u0.heap.size = b := ⟨_, rfl⟩
      rw [eb6] at T6 h6 ⊢
      have hlt := T6.1
      replace BB := BB.trans (bb.mono BB.size)
      clear bb hz eb6 hlt hHeld
      refine hK.out _ _ ?_ (fun hHeld => ?_)
      · exact ⟨(HT2.out.below BB).2.1, (HT2'.out.below BB).2.1⟩
      clear hK K
      try simp only [Act.put, List.setIfInBounds_toArray, List.set_cons_zero, List.set_cons_succ]
      refine two_at (i := 1) (j := 4) rfl rfl (by kernel_rfl) (by kernel_rfl) (by kernel_rfl) (fun K hK => ?_) (fun K hK => ?_)
      · go_simp
        refine (C1.out _ BB).mono ?_
        rintro e u45 ⟨va, vn, vc, S1, rfl, mm, M1, bb⟩
        go_wp2_with fail
        have hz := bb.size
        have l6 := T6.1
        replace T6 := T6.below bb
        have m1 : ∀ g, S1 g → g < u45.heap.size ∧ g ≠ b6 := fun g hg => by have := mm g hg; omega
        clear mm
        replace BB := BB.trans (bb.mono BB.size)
        clear bb hz l6 hHeld
        refine hK.out _ _ ?_ (fun hHeld => ?_)
        · exact ⟨(HT2.out.below BB).2.1, (HT2'.out.below BB).2.1⟩
        clear hK K
        try simp only [Act.put, List.setIfInBounds_toArray, List.set_cons_zero, List.set_cons_succ]
        refine two_at (i := 3) (j := 4) rfl rfl (by kernel_rfl) (by kernel_rfl) (by kernel_rfl) (fun K hK => ?_) (fun K hK => ?_)
        · go_simp
          refine (C2.out _ BB).mono ?_
          rintro e u46 ⟨va', vn', vc', S2, rfl, mm, M2, bb⟩
          go_wp2_with fail
          have hz := bb.size
          have l6 := T6.1
          replace T6 := T6.below bb
          replace M1 := M1.below bb (fun g hg => by have := m1 g hg; omega)
          have m2 : ∀ g, S2 g → g < u46.heap.size ∧ g ≠ b6 := fun g hg => by have := mm g hg; omega
          clear mm
          replace m1 : ∀ g, S1 g → g < u46.heap.size ∧ g ≠ b6 := fun g hg => by have := m1 g hg; omega
          replace BB := BB.trans (bb.mono BB.size)
          clear bb hz l6 hHeld
          refine hK.out _ _ ?_ (fun hHeld => ?_)
          · exact ⟨(HT2.out.below BB).2.1, (HT2'.out.below BB).2.1⟩
          clear hK K
          try simp only [Act.put, List.setIfInBounds_toArray, List.set_cons_zero, List.set_cons_succ]
          refine do_at (i := 4) rfl (by kernel_rfl) (by kernel_rfl) (fun K hK => ?_)
          go_simp
          obtain ⟨u47, hu47⟩ : ∃ wx, wx = u46.alloc (.cells #[.int .i64 0, .int .i32 0, .int .u8 0, .slice none 0 0, .string ⟨#[]⟩, .int .u8 0, .string ⟨#[]⟩] 27) := ⟨_, rfl⟩
          have bb : Below u46.heap.size u46 u47 := by rw [hu47]; exact (Below.refl _ _).alloc (Nat.le_refl _) _
          have T5 : T7 u47 u46.heap.size (.int .i64 0) (.int .i32 0) (.int .u8 0) (.slice none 0 0) (.string ⟨#[]⟩) (.int .u8 0) (.string ⟨#[]⟩) := by rw [hu47]; exact T7.newAt _ _ rfl _ _ _ _ _ _ _ _
          rw [← hu47]
          clear hu47
          have h5 : w2.heap.size ≤ u46.heap.size := BB.size
          have hz := bb.size
          have l6 := T6.1
          replace T6 := T6.below bb
          replace M1 := M1.below bb (fun g hg => by have := m1 g hg; omega)
          replace M2 := M2.below bb (fun g hg => by have := m2 g hg; omega)
          obtain ⟨b5, eb5⟩ : ∃ b, u46.heap.size = b := ⟨_, rfl⟩
          rw [eb5] at T5 h5 ⊢
          replace m1 : ∀ g, S1 g → g < u47.heap.size ∧ g ≠ b5 ∧ g ≠ b6 := fun g hg => by have := m1 g hg; omega
          replace m2 : ∀ g, S2 g → g < u47.heap.size ∧ g ≠ b5 ∧ g ≠ b6 := fun g hg => by have := m2 g hg; omega
          have ne : b5 ≠ b6 := by omega
          have hlt := T5.1
          replace BB := BB.trans (bb.mono BB.size)
          clear bb hz l6 eb5 hlt hHeld
          refine hK.out _ _ ?_ (fun hHeld => ?_)
          · exact ⟨(HT2.out.below BB).2.1, (HT2'.out.below BB).2.1⟩
          clear hK K
          try simp only [Act.put, List.setIfInBounds_toArray, List.set_cons_zero, List.set_cons_succ]
          refine do_at (i := 6) rfl (by kernel_rfl) (by kernel_rfl) (fun K hK => ?_)
          obtain ⟨_, ⟨z0, z1, z2, z3, z4, z5, z6⟩, zf⟩ := T5
          have x0 := zf 0
          have x1 := zf 1
          have x2 := zf 2
          have x3 := zf 3
          have x4 := zf 4
          have x5 := zf 5
          have x6 := zf 6
          go_simp
          replace T5 := (show T7 u47 b5 (.int .i64 0) (.int .i32 0) (.int .u8 0) (.slice none 0 0) (.string ⟨#[]⟩) (.int .u8 0) (.string ⟨#[]⟩) from ⟨by assumption, ⟨z0, z1, z2, z3, z4, z5, z6⟩, zf⟩).put (.int .i64 t.kind) (.int .i32 t.rune) (.int .u8 t.priv) (.slice va vn vc) (.string t.inter) (.int .u8 t.fin) (.string t.data)
          replace T6 := T6.put_other (b' := b5) (c0 := .int .i64 t.kind) (c1 := .int .i32 t.rune) (c2 := .int .u8 t.priv) (c3 := .slice va vn vc) (c4 := .string t.inter) (c5 := .int .u8 t.fin) (c6 := .string t.data) ne.symm
          replace M1 := M1.put (b := b5) (a0 := .int .i64 t.kind) (a1 := .int .i32 t.rune) (a2 := .int .u8 t.priv) (a3 := .slice va vn vc) (a4 := .string t.inter) (a5 := .int .u8 t.fin) (a6 := .string t.data) (fun g hg => (m1 g hg).2.1)
          replace M2 := M2.put (b := b5) (a0 := .int .i64 t.kind) (a1 := .int .i32 t.rune) (a2 := .int .u8 t.priv) (a3 := .slice va vn vc) (a4 := .string t.inter) (a5 := .int .u8 t.fin) (a6 := .string t.data) (fun g hg => (m2 g hg).2.1)
          replace BB := put7_below BB h5 (.int .i64 t.kind) (.int .i32 t.rune) (.int .u8 t.priv) (.slice va vn vc) (.string t.inter) (.int .u8 t.fin) (.string t.data)
          have hsz := put7_size u47 b5 (.int .i64 t.kind) (.int .i32 t.rune) (.int .u8 t.priv) (.slice va vn vc) (.string t.inter) (.int .u8 t.fin) (.string t.data)
          change K _ (put7 u47 b5 (.int .i64 t.kind) (.int .i32 t.rune) (.int .u8 t.priv) (.slice va vn vc) (.string t.inter) (.int .u8 t.fin) (.string t.data))
          generalize put7 u47 b5 (.int .i64 t.kind) (.int .i32 t.rune) (.int .u8 t.priv) (.slice va vn vc) (.string t.inter) (.int .u8 t.fin) (.string t.data) = u48 at T5 T6 M1 M2 BB hsz ⊢
          rw [← hsz] at m1 m2
          clear z0 z1 z2 z3 z4 z5 z6 zf x0 x1 x2 x3 x4 x5 x6 hsz hHeld
          refine hK.out _ _ ?_ (fun hHeld => ?_)
          · exact ⟨(HT2.out.below BB).2.1, (HT2'.out.below BB).2.1⟩
          clear hK K
          try simp only [Act.put, List.setIfInBounds_toArray, List.set_cons_zero, List.set_cons_succ]
          refine do_at (i := 7) rfl (by kernel_rfl) (by kernel_rfl) (fun K hK => ?_)
          obtain ⟨_, ⟨z0, z1, z2, z3, z4, z5, z6⟩, zf⟩ := T6
          have x0 := zf 0
          have x1 := zf 1
          have x2 := zf 2
          have x3 := zf 3
          have x4 := zf 4
          have x5 := zf 5
          have x6 := zf 6
          go_simp
          replace T6 := (show T7 u48 b6 (.int .i64 0) (.int .i32 0) (.int .u8 0) (.slice none 0 0) (.string ⟨#[]⟩) (.int .u8 0) (.string ⟨#[]⟩) from ⟨by assumption, ⟨z0, z1, z2, z3, z4, z5, z6⟩, zf⟩).put (.int .i64 t'.kind) (.int .i32 t'.rune) (.int .u8 t'.priv) (.slice va' vn' vc') (.string t'.inter) (.int .u8 t'.fin) (.string t'.data)
          replace T5 := T5.put_other (b' := b6) (c0 := .int .i64 t'.kind) (c1 := .int .i32 t'.rune) (c2 := .int .u8 t'.priv) (c3 := .slice va' vn' vc') (c4 := .string t'.inter) (c5 := .int .u8 t'.fin) (c6 := .string t'.data) ne
          replace M1 := M1.put (b := b6) (a0 := .int .i64 t'.kind) (a1 := .int .i32 t'.rune) (a2 := .int .u8 t'.priv) (a3 := .slice va' vn' vc') (a4 := .string t'.inter) (a5 := .int .u8 t'.fin) (a6 := .string t'.data) (fun g hg => (m1 g hg).2.2)
          replace M2 := M2.put (b := b6) (a0 := .int .i64 t'.kind) (a1 := .int .i32 t'.rune) (a2 := .int .u8 t'.priv) (a3 := .slice va' vn' vc') (a4 := .string t'.inter) (a5 := .int .u8 t'.fin) (a6 := .string t'.data) (fun g hg => (m2 g hg).2.2)
          replace BB := put7_below BB h6 (.int .i64 t'.kind) (.int .i32 t'.rune) (.int .u8 t'.priv) (.slice va' vn' vc') (.string t'.inter) (.int .u8 t'.fin) (.string t'.data)
          have hsz := put7_size u48 b6 (.int .i64 t'.kind) (.int .i32 t'.rune) (.int .u8 t'.priv) (.slice va' vn' vc') (.string t'.inter) (.int .u8 t'.fin) (.string t'.data)
          change K _ (put7 u48 b6 (.int .i64 t'.kind) (.int .i32 t'.rune) (.int .u8 t'.priv) (.slice va' vn' vc') (.string t'.inter) (.int .u8 t'.fin) (.string t'.data))
          generalize put7 u48 b6 (.int .i64 t'.kind) (.int .i32 t'.rune) (.int .u8 t'.priv) (.slice va' vn' vc') (.string t'.inter) (.int .u8 t'.fin) (.string t'.data) = u49 at T5 T6 M1 M2 BB hsz ⊢
          rw [← hsz] at m1 m2
          clear z0 z1 z2 z3 z4 z5 z6 zf x0 x1 x2 x3 x4 x5 x6 hsz hHeld
          refine hK.out _ _ ?_ (fun hHeld => ?_)
          · exact ⟨(HT2.out.below BB).2.1, (HT2'.out.below BB).2.1⟩
          clear hK K
          try simp only [Act.put, List.setIfInBounds_toArray, List.set_cons_zero, List.set_cons_succ]
          refine wpAnyH_done (by kernel_rfl) ?_ _
          have HTW := Lib.hid (show Two w2 t t' (.pointer (some ⟨b5, 0, none⟩)) (.pointer (some ⟨b6, 0, none⟩)) u49 from ⟨b5, b6, va, vn, vc, va', vn', vc', S1, S2, rfl, rfl, T5, T6, M1, M2, m1, m2, h5, h6, ne, BB⟩)
          clear T5 T6 M1 M2 m1 m2 h5 h6 ne BB
          go_wp2_with fail
          go_meet
          case rel => exact HTW
        · go_simp
          obtain ⟨u50, hu50⟩ : ∃ wx, wx = u45.alloc (.cells #[.int .i64 0, .int .i32 0, .int .u8 0, .slice none 0 0, .string ⟨#[]⟩, .int .u8 0, .string ⟨#[]⟩] 27) := ⟨_, rfl⟩
          have bb : Below u45.heap.size u45 u50 := by rw [hu50]; exact (Below.refl _ _).alloc (Nat.le_refl _) _
          have T5 : T7 u50 u45.heap.size (.int .i64 0) (.int .i32 0) (.int .u8 0) (.slice none 0 0) (.string ⟨#[]⟩) (.int .u8 0) (.string ⟨#[]⟩) := by rw [hu50]; exact T7.newAt _ _ rfl _ _ _ _ _ _ _ _
          rw [← hu50]
          clear hu50
          have h5 : w2.heap.size ≤ u45.heap.size := BB.size
          have hz := bb.size
          have l6 := T6.1
          replace T6 := T6.below bb
          replace M1 := M1.below bb (fun g hg => by have := m1 g hg; omega)
          obtain ⟨b5, eb5⟩ : ∃ b, u45.heap.size = b := ⟨_, rfl⟩
          rw [eb5] at T5 h5 ⊢
          replace m1 : ∀ g, S1 g → g < u50.heap.size ∧ g ≠ b5 ∧ g ≠ b6 := fun g hg => by have := m1 g hg; omega
          have ne : b5 ≠ b6 := by omega
          have hlt := T5.1
          replace BB := BB.trans (bb.mono BB.size)
          clear bb hz l6 eb5 hlt hHeld
          refine hK.out _ _ ?_ (fun hHeld => ?_)
          · exact ⟨(HT2.out.below BB).2.1, (HT2'.out.below BB).2.1⟩
          clear hK K
          try simp only [Act.put, List.setIfInBounds_toArray, List.set_cons_zero, List.set_cons_succ]
          refine do_at (i := 3) rfl (by kernel_rfl) (by kernel_rfl) (fun K hK => ?_)
          go_simp
          refine (C2.out _ BB).mono ?_
          rintro e u51 ⟨va', vn', vc', S2, rfl, mm, M2, bb⟩
          go_wp2_with fail
          have hz := bb.size
          have l5 := T5.1
          replace T5 := T5.below bb
          have l6 := T6.1
          replace T6 := T6.below bb
          replace M1 := M1.below bb (fun g hg => by have := m1 g hg; omega)
          have m2 : ∀ g, S2 g → g < u51.heap.size ∧ g ≠ b5 ∧ g ≠ b6 := fun g hg => by have := mm g hg; omega
          clear mm
          replace m1 : ∀ g, S1 g → g < u51.heap.size ∧ g ≠ b5 ∧ g ≠ b6 := fun g hg => by have := m1 g hg; omega
          replace BB := BB.trans (bb.mono BB.size)
          clear bb hz l5 l6 hHeld
          refine hK.out _ _ ?_ (fun hHeld => ?_)
          · exact ⟨(HT2.out.below BB).2.1, (HT2'.out.below BB).2.1⟩
          clear hK K
          try simp only [Act.put, List.setIfInBounds_toArray, List.set_cons_zero, List.set_cons_succ]
          refine do_at (i := 6) rfl (by kernel_rfl) (by kernel_rfl) (fun K hK => ?_)
          obtain ⟨_, ⟨z0, z1, z2, z3, z4, z5, z6⟩, zf⟩ := T5
          have x0 := zf 0
          have x1 := zf 1
          have x2 := zf 2
          have x3 := zf 3
          have x4 := zf 4
          have x5 := zf 5
          have x6 := zf 6
          go_simp
          replace T5 := (show T7 u51 b5 (.int .i64 0) (.int .i32 0) (.int .u8 0) (.slice none 0 0) (.string ⟨#[]⟩) (.int .u8 0) (.string ⟨#[]⟩) from ⟨by assumption, ⟨z0, z1, z2, z3, z4, z5, z6⟩, zf⟩).put (.int .i64 t.kind) (.int .i32 t.rune) (.int .u8 t.priv) (.slice va vn vc) (.string t.inter) (.int .u8 t.fin) (.string t.data)
          replace T6 := T6.put_other (b' := b5) (c0 := .int .i64 t.kind) (c1 := .int .i32 t.rune) (c2 := .int .u8 t.priv) (c3 := .slice va vn vc) (c4 := .string t.inter) (c5 := .int .u8 t.fin) (c6 := .string t.data) ne.symm
          replace M1 := M1.put (b := b5) (a0 := .int .i64 t.kind) (a1 := .int .i32 t.rune) (a2 := .int .u8 t.priv) (a3 := .slice va vn vc) (a4 := .string t.inter) (a5 := .int .u8 t.fin) (a6 := .string t.data) (fun g hg => (m1 g hg).2.1)
          replace M2 := M2.put (b := b5) (a0 := .int .i64 t.kind) (a1 := .int .i32 t.rune) (a2 := .int .u8 t.priv) (a3 := .slice va vn vc) (a4 := .string t.inter) (a5 := .int .u8 t.fin) (a6 := .string t.data) (fun g hg => (m2 g hg).2.1)
          replace BB := put7_below BB h5 (.int .i64 t.kind) (.int .i32 t.rune) (.int .u8 t.priv) (.slice va vn vc) (.string t.inter) (.int .u8 t.fin) (.string t.data)
          have hsz := put7_size u51 b5 (.int .i64 t.kind) (.int .i32 t.rune) (.int .u8 t.priv) (.slice va vn vc) (.string t.inter) (.int .u8 t.fin) (.string t.data)
          change K _ (put7 u51 b5 (.int .i64 t.kind) (.int .i32 t.rune) (.int .u8 t.priv) (.slice va vn vc) (.string t.inter) (.int .u8 t.fin) (.string t.data))
          generalize put7 u51 b5 (.int .i64 t.kind) (.int .i32 t.rune) (.int .u8 t.priv) (.slice va vn vc) (.string t.inter) (.int .u8 t.fin) (.string t.data) = u52 at T5 T6 M1 M2 BB hsz ⊢
          rw [← hsz] at m1 m2
          clear z0 z1 z2 z3 z4 z5 z6 zf x0 x1 x2 x3 x4 x5 x6 hsz hHeld
          refine hK.out _ _ ?_ (fun hHeld => ?_)
          · exact ⟨(HT2.out.below BB).2.1, (HT2'.out.below BB).2.1⟩
          clear hK K
          try simp only [Act.put, List.setIfInBounds_toArray, List.set_cons_zero, List.set_cons_succ]
          refine do_at (i := 7) rfl (by kernel_rfl) (by kernel_rfl) (fun K hK => ?_)
          obtain ⟨_, ⟨z0, z1, z2, z3, z4, z5, z6⟩, zf⟩ := T6
          have x0 := zf 0
          have x1 := zf 1
          have x2 := zf 2
          have x3 := zf 3
          have x4 := zf 4
          have x5 := zf 5
          have x6 := zf 6
          go_simp
          replace T6 := (show T7 u52 b6 (.int .i64 0) (.int .i32 0) (.int .u8 0) (.slice none 0 0) (.string ⟨#[]⟩) (.int .u8 0) (.string ⟨#[]⟩) from ⟨by assumption, ⟨z0, z1, z2, z3, z4, z5, z6⟩, zf⟩).put (.int .i64 t'.kind) (.int .i32 t'.rune) (.int .u8 t'.priv) (.slice va' vn' vc') (.string t'.inter) (.int .u8 t'.fin) (.string t'.data)
          replace T5 := T5.put_other (b' := b6) (c0 := .int .i64 t'.kind) (c1 := .int .i32 t'.rune) (c2 := .int .u8 t'.priv) (c3 := .slice va' vn' vc') (c4 := .string t'.inter) (c5 := .int .u8 t'.fin) (c6 := .string t'.data) ne
          replace M1 := M1.put (b := b6) (a0 := .int .i64 t'.kind) (a1 := .int .i32 t'.rune) (a2 := .int .u8 t'.priv) (a3 := .slice va' vn' vc') (a4 := .string t'.inter) (a5 := .int .u8 t'.fin) (a6 := .string t'.data) (fun g hg => (m1 g hg).2.2)
          replace M2 := M2.put (b := b6) (a0 := .int .i64 t'.kind) (a1 := .int .i32 t'.rune) (a2 := .int .u8 t'.priv) (a3 := .slice va' vn' vc') (a4 := .string t'.inter) (a5 := .int .u8 t'.fin) (a6 := .string t'.data) (fun g hg => (m2 g hg).2.2)
          replace BB := put7_below BB h6 (.int .i64 t'.kind) (.int .i32 t'.rune) (.int .u8 t'.priv) (.slice va' vn' vc') (.string t'.inter) (.int .u8 t'.fin) (.string t'.data)
          have hsz := put7_size u52 b6 (.int .i64 t'.kind) (.int .i32 t'.rune) (.int .u8 t'.priv) (.slice va' vn' vc') (.string t'.inter) (.int .u8 t'.fin) (.string t'.data)
          change K _ (put7 u52 b6 (.int .i64 t'.kind) (.int .i32 t'.rune) (.int .u8 t'.priv) (.slice va' vn' vc') (.string t'.inter) (.int .u8 t'.fin) (.string t'.data))
          generalize put7 u52 b6 (.int .i64 t'.kind) (.int .i32 t'.rune) (.int .u8 t'.priv) (.slice va' vn' vc') (.string t'.inter) (.int .u8 t'.fin) (.string t'.data) = u53 at T5 T6 M1 M2 BB hsz ⊢
          rw [← hsz] at m1 m2
          clear z0 z1 z2 z3 z4 z5 z6 zf x0 x1 x2 x3 x4 x5 x6 hsz hHeld
          refine hK.out _ _ ?_ (fun hHeld => ?_)
          · exact ⟨(HT2.out.below BB).2.1, (HT2'.out.below BB).2.1⟩
          clear hK K
          try simp only [Act.put, List.setIfInBounds_toArray, List.set_cons_zero, List.set_cons_succ]
          refine wpAnyH_done (by kernel_rfl) ?_ _
          have HTW := Lib.hid (show Two w2 t t' (.pointer (some ⟨b5, 0, none⟩)) (.pointer (some ⟨b6, 0, none⟩)) u53 from ⟨b5, b6, va, vn, vc, va', vn', vc', S1, S2, rfl, rfl, T5, T6, M1, M2, m1, m2, h5, h6, ne, BB⟩)
          clear T5 T6 M1 M2 m1 m2 h5 h6 ne BB
          go_wp2_with fail
          go_meet
          case rel => exact HTW
      · go_simp
        obtain ⟨u54, hu54⟩ : ∃ wx, wx = u44.alloc (.cells #[.int .i64 0, .int .i32 0, .int .u8 0, .slice none 0 0, .string ⟨#[]⟩, .int .u8 0, .string ⟨#[]⟩] 27) := ⟨_, rfl⟩
        have bb : Below u44.heap.size u44 u54 := by rw [hu54]; exact (Below.refl _ _).alloc (Nat.le_refl _) _
        have T5 : T7 u54 u44.heap.size (.int .i64 0) (.int .i32 0) (.int .u8 0) (.slice none 0 0) (.string ⟨#[]⟩) (.int .u8 0) (.string ⟨#[]⟩) := by rw [hu54]; exact T7.newAt _ _ rfl _ _ _ _ _ _ _ _
        rw [← hu54]
        clear hu54
        have h5 : w2.heap.size ≤ u44.heap.size := BB.size
        have hz := bb.size
        have l6 := T6.1
        replace T6 := T6.below bb
        obtain ⟨b5, eb5⟩ : ∃ b, u44.heap.size = b := ⟨_, rfl⟩
        rw [eb5] at T5 h5 ⊢
        have ne : b5 ≠ b6 := by omega
        have hlt := T5.1
        replace BB := BB.trans (bb.mono BB.size)
        clear bb hz l6 eb5 hlt hHeld
        refine hK.out _ _ ?_ (fun hHeld => ?_)
        · exact ⟨(HT2.out.below BB).2.1, (HT2'.out.below BB).2.1⟩
        clear hK K
        try simp only [Act.put, List.setIfInBounds_toArray, List.set_cons_zero, List.set_cons_succ]
        refine do_at (i := 1) rfl (by kernel_rfl) (by kernel_rfl) (fun K hK => ?_)
        go_simp
        refine (C1.out _ BB).mono ?_
        rintro e u55 ⟨va, vn, vc, S1, rfl, mm, M1, bb⟩
        go_wp2_with fail
        have hz := bb.size
        have l5 := T5.1
        replace T5 := T5.below bb
        have l6 := T6.1
        replace T6 := T6.below bb
        have m1 : ∀ g, S1 g → g < u55.heap.size ∧ g ≠ b5 ∧ g ≠ b6 := fun g hg => by have := mm g hg; omega
        clear mm
        replace BB := BB.trans (bb.mono BB.size)
        clear bb hz l5 l6 hHeld
        refine hK.out _ _ ?_ (fun hHeld => ?_)
        · exact ⟨(HT2.out.below BB).2.1, (HT2'.out.below BB).2.1⟩
        clear hK K
        try simp only [Act.put, List.setIfInBounds_toArray, List.set_cons_zero, List.set_cons_succ]
        refine do_at (i := 3) rfl (by kernel_rfl) (by kernel_rfl) (fun K hK => ?_)
        go_simp
        refine (C2.out _ BB).mono ?_
        rintro e u56 ⟨va', vn', vc', S2, rfl, mm, M2, bb⟩
        go_wp2_with fail
        have hz := bb.size
        have l5 := T5.1
        replace T5 := T5.below bb
        have l6 := T6.1
        replace T6 := T6.below bb
        replace M1 := M1.below bb (fun g hg => by have := m1 g hg; omega)
        have m2 : ∀ g, S2 g → g < u56.heap.size ∧ g ≠ b5 ∧ g ≠ b6 := fun g hg => by have := mm g hg; omega
        clear mm
        replace m1 : ∀ g, S1 g → g < u56.heap.size ∧ g ≠ b5 ∧ g ≠ b6 := fun g hg => by have := m1 g hg; omega
        replace BB := BB.trans (bb.mono BB.size)
        clear bb hz l5 l6 hHeld
        refine hK.out _ _ ?_ (fun hHeld => ?_)
        · exact ⟨(HT2.out.below BB).2.1, (HT2'.out.below BB).2.1⟩
        clear hK K
        try simp only [Act.put, List.setIfInBounds_toArray, List.set_cons_zero, List.set_cons_succ]
        refine do_at (i := 6) rfl (by kernel_rfl) (by kernel_rfl) (fun K hK => ?_)
        obtain ⟨_, ⟨z0, z1, z2, z3, z4, z5, z6⟩, zf⟩ := T5
        have x0 := zf 0
        have x1 := zf 1
        have x2 := zf 2
        have x3 := zf 3
        have x4 := zf 4
        have x5 := zf 5
        have x6 := zf 6
        go_simp
        replace T5 := (show T7 u56 b5 (.int .i64 0) (.int .i32 0) (.int .u8 0) (.slice none 0 0) (.string ⟨#[]⟩) (.int .u8 0) (.string ⟨#[]⟩) from ⟨by assumption, ⟨z0, z1, z2, z3, z4, z5, z6⟩, zf⟩).put (.int .i64 t.kind) (.int .i32 t.rune) (.int .u8 t.priv) (.slice va vn vc) (.string t.inter) (.int .u8 t.fin) (.string t.data)
        replace T6 := T6.put_other (b' := b5) (c0 := .int .i64 t.kind) (c1 := .int .i32 t.rune) (c2 := .int .u8 t.priv) (c3 := .slice va vn vc) (c4 := .string t.inter) (c5 := .int .u8 t.fin) (c6 := .string t.data) ne.symm
        replace M1 := M1.put (b := b5) (a0 := .int .i64 t.kind) (a1 := .int .i32 t.rune) (a2 := .int .u8 t.priv) (a3 := .slice va vn vc) (a4 := .string t.inter) (a5 := .int .u8 t.fin) (a6 := .string t.data) (fun g hg => (m1 g hg).2.1)
        replace M2 := M2.put (b := b5) (a0 := .int .i64 t.kind) (a1 := .int .i32 t.rune) (a2 := .int .u8 t.priv) (a3 := .slice va vn vc) (a4 := .string t.inter) (a5 := .int .u8 t.fin) (a6 := .string t.data) (fun g hg => (m2 g hg).2.1)
        replace BB := put7_below BB h5 (.int .i64 t.kind) (.int .i32 t.rune) (.int .u8 t.priv) (.slice va vn vc) (.string t.inter) (.int .u8 t.fin) (.string t.data)
        have hsz := put7_size u56 b5 (.int .i64 t.kind) (.int .i32 t.rune) (.int .u8 t.priv) (.slice va vn vc) (.string t.inter) (.int .u8 t.fin) (.string t.data)
        change K _ (put7 u56 b5 (.int .i64 t.kind) (.int .i32 t.rune) (.int .u8 t.priv) (.slice va vn vc) (.string t.inter) (.int .u8 t.fin) (.string t.data))
        generalize put7 u56 b5 (.int .i64 t.kind) (.int .i32 t.rune) (.int .u8 t.priv) (.slice va vn vc) (.string t.inter) (.int .u8 t.fin) (.string t.data) = u57 at T5 T6 M1 M2 BB hsz ⊢
        rw [← hsz] at m1 m2
        clear z0 z1 z2 z3 z4 z5 z6 zf x0 x1 x2 x3 x4 x5 x6 hsz hHeld
        refine hK.out _ _ ?_ (fun hHeld => ?_)
        · exact ⟨(HT2.out.below BB).2.1, (HT2'.out.below BB).2.1⟩
        clear hK K
        try simp only [Act.put, List.setIfInBounds_toArray, List.set_cons_zero, List.set_cons_succ]
        refine do_at (i := 7) rfl (by kernel_rfl) (by kernel_rfl) (fun K hK => ?_)
        obtain ⟨_, ⟨z0, z1, z2, z3, z4, z5, z6⟩, zf⟩ := T6
        have x0 := zf 0
        have x1 := zf 1
        have x2 := zf 2
        have x3 := zf 3
        have x4 := zf 4
        have x5 := zf 5
        have x6 := zf 6
        go_simp
        replace T6 := (show T7 u57 b6 (.int .i64 0) (.int .i32 0) (.int .u8 0) (.slice none 0 0) (.string ⟨#[]⟩) (.int .u8 0) (.string ⟨#[]⟩) from ⟨by assumption, ⟨z0, z1, z2, z3, z4, z5, z6⟩, zf⟩).put (.int .i64 t'.kind) (.int .i32 t'.rune) (.int .u8 t'.priv) (.slice va' vn' vc') (.string t'.inter) (.int .u8 t'.fin) (.string t'.data)
        replace T5 := T5.put_other (b' := b6) (c0 := .int .i64 t'.kind) (c1 := .int .i32 t'.rune) (c2 := .int .u8 t'.priv) (c3 := .slice va' vn' vc') (c4 := .string t'.inter) (c5 := .int .u8 t'.fin) (c6 := .string t'.data) ne
        replace M1 := M1.put (b := b6) (a0 := .int .i64 t'.kind) (a1 := .int .i32 t'.rune) (a2 := .int .u8 t'.priv) (a3 := .slice va' vn' vc') (a4 := .string t'.inter) (a5 := .int .u8 t'.fin) (a6 := .string t'.data) (fun g hg => (m1 g hg).2.2)
        replace M2 := M2.put (b := b6) (a0 := .int .i64 t'.kind) (a1 := .int .i32 t'.rune) (a2 := .int .u8 t'.priv) (a3 := .slice va' vn' vc') (a4 := .string t'.inter) (a5 := .int .u8 t'.fin) (a6 := .string t'.data) (fun g hg => (m2 g hg).2.2)
        replace BB := put7_below BB h6 (.int .i64 t'.kind) (.int .i32 t'.rune) (.int .u8 t'.priv) (.slice va' vn' vc') (.string t'.inter) (.int .u8 t'.fin) (.string t'.data)
        have hsz := put7_size u57 b6 (.int .i64 t'.kind) (.int .i32 t'.rune) (.int .u8 t'.priv) (.slice va' vn' vc') (.string t'.inter) (.int .u8 t'.fin) (.string t'.data)
        change K _ (put7 u57 b6 (.int .i64 t'.kind) (.int .i32 t'.rune) (.int .u8 t'.priv) (.slice va' vn' vc') (.string t'.inter) (.int .u8 t'.fin) (.string t'.data))
        generalize put7 u57 b6 (.int .i64 t'.kind) (.int .i32 t'.rune) (.int .u8 t'.priv) (.slice va' vn' vc') (.string t'.inter) (.int .u8 t'.fin) (.string t'.data) = u58 at T5 T6 M1 M2 BB hsz ⊢
        rw [← hsz] at m1 m2
        clear z0 z1 z2 z3 z4 z5 z6 zf x0 x1 x2 x3 x4 x5 x6 hsz hHeld
        refine hK.out _ _ ?_ (fun hHeld => ?_)
        · exact ⟨(HT2.out.below BB).2.1, (HT2'.out.below BB).2.1⟩
        clear hK K
        try simp only [Act.put, List.setIfInBounds_toArray, List.set_cons_zero, List.set_cons_succ]
        refine wpAnyH_done (by kernel_rfl) ?_ _
        have HTW := Lib.hid (show Two w2 t t' (.pointer (some ⟨b5, 0, none⟩)) (.pointer (some ⟨b6, 0, none⟩)) u58 from ⟨b5, b6, va, vn, vc, va', vn', vc', S1, S2, rfl, rfl, T5, T6, M1, M2, m1, m2, h5, h6, ne, BB⟩)
        clear T5 T6 M1 M2 m1 m2 h5 h6 ne BB
        go_wp2_with fail
        go_meet
        case rel => exact HTW
  case rest =>
    obtain ⟨b5, b6, va, vn, vc, va', vn', vc', S, S', rfl, rfl, T5, T6, M1, M2, m1, m2, h5, h6, ne, BB⟩ := hcut.out
    clear hcut C2
    obtain ⟨w3, hw3⟩ : ∃ w3 : World, w3 = wc := ⟨_, rfl⟩
    rw [← hw3] at T5 T6 M1 M2 m1 m2 BB ⊢
    clear hw3
    have HT5 := Lib.hid T5
    have HT6 := Lib.hid T6
    have HM1 := Lib.hid M1
    have HM2 := Lib.hid M2
    have Hm1 := Lib.hid m1
    have Hm2 := Lib.hid m2
    have HB3 := Lib.hid (HB2.out.trans (BB.mono HB2.out.size))
    have HBB := Lib.hid BB
    have HB2s := Lib.hid HB2.out.size
    have l5 := T5.1
    have l6 := T6.1
    obtain ⟨_, ⟨c0, c1, c2, c3, c4, c5, c6⟩, _⟩ := T5
    clear T6 M1 M2 m1 m2 BB HB2
    go_wp2_with fail
    refine (copy_in t.kind t.rune t.priv t.fin va vn vc t.P t.inter t.data _ HM1.out.mat (HM1.out.zok (fun q hq => by have := ((right_rows HRR.out).2 q hq).1; intro e; rw [e] at this; simp at this)) (by have := (right_rows HRR.out).1; omega) (fun q hq => by have := ((right_rows HRR.out).2 q hq).2.1; omega)).mono ?_
    rintro e w4 ⟨ua, un, uc, S3, rfl, md, mf, M3, b4⟩
    obtain ⟨w5, hw5⟩ : ∃ w5, w5 = w4.alloc (.cells #[.int .i64 t.kind, .int .i32 t.rune, .int .u8 t.priv, .slice ua un uc, .string t.inter, .int .u8 t.fin, .string t.data] 27) := ⟨_, rfl⟩
    have b5' : Below w4.heap.size w4 w5 := by rw [hw5]; exact (Below.refl _ _).alloc (Nat.le_refl _) _
    have T7' : T7 w5 w4.heap.size (.int .i64 t.kind) (.int .i32 t.rune) (.int .u8 t.priv) (.slice ua un uc) (.string t.inter) (.int .u8 t.fin) (.string t.data) := by rw [hw5]; exact T7.newAt _ _ rfl _ _ _ _ _ _ _ _
    have b35 : Below w3.heap.size w3 w5 := b4.trans (b5'.mono b4.size)
    have hs4 := b4.size
    have hlt7 := T7'.1
    have HT7 := Lib.hid T7'
    have HU5 := Lib.hid (HT5.out.below b35)
    have HU6 := Lib.hid (HT6.out.below b35)
    have HN1 := Lib.hid (HM1.out.below b35 (fun g hg => (Hm1.out g hg).1))
    have HN2 := Lib.hid (HM2.out.below b35 (fun g hg => (Hm2.out g hg).1))
    have HN3 := Lib.hid (M3.below b5' (fun g hg => (md g hg).2))
    have Hm3 := Lib.hid (show ∀ g, S3 g → w3.heap.size ≤ g ∧ g < w4.heap.size from md)
    have HB5 := Lib.hid (HB3.out.trans (b35.mono HB3.out.size))
    have HB35 := Lib.hid b35
    have Hf3 := Lib.hid (show ∀ g, S3 g → ∀ i, w5.frozen? ⟨g, i, none⟩ = false from fun g hg i => (World.frozen?_of_block (a := ⟨g, i, none⟩) (b5'.block g (md g hg).2)).trans (mf g hg i))
    clear c0 c1 c2 c3 c4 c5 c6 M3 md mf b4 b5' T7' b35 HT5 HT6 HM1 HM2 HB3
    go_upto_region 5 with (fail)
    rw [← hw5]
    clear hw5
    obtain ⟨b7, hb7⟩ : ∃ b, w4.heap.size = b := ⟨_, rfl⟩
    rw [hb7] at HT7 hlt7 hs4 Hm3 ⊢
    obtain ⟨q, hq⟩ : ∃ q, sameB t t' = q := ⟨_, rfl⟩
    have SAC := Lib.hid (show ∀ W, Below w5.heap.size w5 W → Calls Tryd.prog 13 #[tokV t (.slice va vn vc), tokV t (.slice ua un uc)] W fun e w' => e = .returned (.bool true) ∧ Below W.heap.size W w' from fun W hb => by
      rw [← (same_iff (s := t) (t := t)).2 rfl]
      exact same_any _ _ _ _ _ _ _ _ _ _ _ _ _ _ t.P t.P _ _ _ _ W (HN1.out.mat.below hb) (HN3.out.mat.below hb))
    have SAA := Lib.hid (show ∀ W, Below w5.heap.size w5 W → Calls Tryd.prog 13 #[tokV t (.slice va vn vc), tokV t (.slice va vn vc)] W fun e w' => e = .returned (.bool true) ∧ Below W.heap.size W w' from fun W hb => by
      rw [← (same_iff (s := t) (t := t)).2 rfl]
      exact same_any _ _ _ _ _ _ _ _ _ _ _ _ _ _ t.P t.P _ _ _ _ W (HN1.out.mat.below hb) (HN1.out.mat.below hb))
    have SAB := Lib.hid (show ∀ W, Below w5.heap.size w5 W → Calls Tryd.prog 13 #[tokV t (.slice va vn vc), tokV t' (.slice va' vn' vc')] W fun e w' => e = .returned (.bool q) ∧ Below W.heap.size W w' from fun W hb => by
      rw [← hq]
      exact same_any _ _ _ _ _ _ _ _ _ _ _ _ _ _ t.P t'.P _ _ _ _ W (HN1.out.mat.below hb) (HN2.out.mat.below hb))
    have SBA := Lib.hid (show ∀ W, Below w5.heap.size w5 W → Calls Tryd.prog 13 #[tokV t' (.slice va' vn' vc'), tokV t (.slice va vn vc)] W fun e w' => e = .returned (.bool q) ∧ Below W.heap.size W w' from fun W hb => by
      rw [← hq, sameB_comm]
      exact same_any _ _ _ _ _ _ _ _ _ _ _ _ _ _ t'.P t.P _ _ _ _ W (HN2.out.mat.below hb) (HN1.out.mat.below hb))
    have HQ := Lib.hid hq
    clear hq
    go_cut [40] (fun x wc => x = .bool false ∧ Hid (Below w5.heap.size w5 wc))
    case first =>
      have BB : Below w5.heap.size w5 w5.drew := ⟨rfl, rfl, rfl, Nat.le_refl _, fun _ _ => rfl⟩
      refine wp_region_held_drew (S := fun w' => (w'.cell? ⟨b5, 0, none⟩ = some (.int .i64 t.kind) ∧ w'.cell? ⟨b5, 1, none⟩ = some (.int .i32 t.rune) ∧ w'.cell? ⟨b5, 2, none⟩ = some (.int .u8 t.priv) ∧ w'.cell? ⟨b5, 3, none⟩ = some (.slice va vn vc) ∧ w'.cell? ⟨b5, 4, none⟩ = some (.string t.inter) ∧ w'.cell? ⟨b5, 5, none⟩ = some (.int .u8 t.fin) ∧ w'.cell? ⟨b5, 6, none⟩ = some (.string t.data)) ∧ (w'.cell? ⟨b6, 0, none⟩ = some (.int .i64 t'.kind) ∧ w'.cell? ⟨b6, 1, none⟩ = some (.int .i32 t'.rune) ∧ w'.cell? ⟨b6, 2, none⟩ = some (.int .u8 t'.priv) ∧ w'.cell? ⟨b6, 3, none⟩ = some (.slice va' vn' vc') ∧ w'.cell? ⟨b6, 4, none⟩ = some (.string t'.inter) ∧ w'.cell? ⟨b6, 5, none⟩ = some (.int .u8 t'.fin) ∧ w'.cell? ⟨b6, 6, none⟩ = some (.string t'.data)) ∧ (w'.cell? ⟨b7, 0, none⟩ = some (.int .i64 t.kind) ∧ w'.cell? ⟨b7, 1, none⟩ = some (.int .i32 t.rune) ∧ w'.cell? ⟨b7, 2, none⟩ = some (.int .u8 t.priv) ∧ w'.cell? ⟨b7, 3, none⟩ = some (.slice ua un uc) ∧ w'.cell? ⟨b7, 4, none⟩ = some (.string t.inter) ∧ w'.cell? ⟨b7, 5, none⟩ = some (.int .u8 t.fin) ∧ w'.cell? ⟨b7, 6, none⟩ = some (.string t.data))) (by kernel_rfl) ?_ (fun hHeld => ?_)
      · exact ⟨(HU5.out.below (Below.refl _ _)).2.1, (HU6.out.below (Below.refl _ _)).2.1, (HT7.out.below (Below.refl _ _)).2.1⟩
      obtain ⟨u0, hu0⟩ : ∃ u0, u0 = w5.drew := ⟨_, rfl⟩
      rw [← hu0] at BB hHeld ⊢
      clear hu0
      refine take_at (i := 0) (v := ?_) rfl (by kernel_rfl) (by kernel_rfl) (by kernel_rfl) (fun _ _ _ h => h) (by kernel_rfl) (by assumption) ?_ ?_
      rotate_left
      · (intro w hSw; (try dsimp only at hSw); go_simp; try with_reducible rfl)
      simp only [Act.put, List.setIfInBounds_toArray, List.set_cons_zero, List.set_cons_succ]
      refine take_at (i := 1) (v := ?_) rfl (by kernel_rfl) (by kernel_rfl) (by kernel_rfl) (fun _ _ _ h => h) (by kernel_rfl) (by assumption) ?_ ?_
      rotate_left
      · (intro w hSw; (try dsimp only at hSw); go_simp; try with_reducible rfl)
      simp only [Act.put, List.setIfInBounds_toArray, List.set_cons_zero, List.set_cons_succ]
      refine do_at (i := 2) rfl (by kernel_rfl) (by kernel_rfl) (fun K hK => ?_)
      go_simp
      refine (SAC.out _ BB).mono ?_
      rintro e y0 ⟨rfl, bb⟩
      replace BB := BB.trans (bb.mono BB.size)
      clear bb hHeld
      go_wp2_with fail
      refine hK.out _ _ ?_ (fun hHeld => ?_)
      · exact ⟨(HU5.out.below BB).2.1, (HU6.out.below BB).2.1, (HT7.out.below BB).2.1⟩
      clear hK K
      try simp only [Act.put, List.setIfInBounds_toArray, List.set_cons_zero, List.set_cons_succ]
      refine take_at (i := 3) (v := ?_) rfl (by kernel_rfl) (by kernel_rfl) (by kernel_rfl) (fun _ _ _ h => h) (by kernel_rfl) (by assumption) ?_ ?_
      rotate_left
      · (intro w hSw; (try dsimp only at hSw); go_simp; try with_reducible rfl)
      simp only [Act.put, List.setIfInBounds_toArray, List.set_cons_zero, List.set_cons_succ]
      refine take_at (i := 4) (v := ?_) rfl (by kernel_rfl) (by kernel_rfl) (by kernel_rfl) (fun _ _ _ h => h) (by kernel_rfl) (by assumption) ?_ ?_
      rotate_left
      · (intro w hSw; (try dsimp only at hSw); go_simp; try with_reducible rfl)
      simp only [Act.put, List.setIfInBounds_toArray, List.set_cons_zero, List.set_cons_succ]
      refine take_at (i := 5) (v := ?_) rfl (by kernel_rfl) (by kernel_rfl) (by kernel_rfl) (fun _ _ _ h => h) (by kernel_rfl) (by assumption) ?_ ?_
      rotate_left
      · (intro w hSw; (try dsimp only at hSw); go_simp; try with_reducible rfl)
      simp only [Act.put, List.setIfInBounds_toArray, List.set_cons_zero, List.set_cons_succ]
      refine take_at (i := 6) (v := ?_) rfl (by kernel_rfl) (by kernel_rfl) (by kernel_rfl) (fun _ _ _ h => h) (by kernel_rfl) (by assumption) ?_ ?_
      rotate_left
      · (intro w hSw; (try dsimp only at hSw); go_simp; try with_reducible rfl)
      simp only [Act.put, List.setIfInBounds_toArray, List.set_cons_zero, List.set_cons_succ]
      refine do_at (i := 7) rfl (by kernel_rfl) (by kernel_rfl) (fun K hK => ?_)
      go_simp
      refine (SAA.out _ BB).mono ?_
      rintro e y1 ⟨rfl, bb⟩
      replace BB := BB.trans (bb.mono BB.size)
      clear bb hHeld
      go_wp2_with fail
      refine hK.out _ _ ?_ (fun hHeld => ?_)
      · exact ⟨(HU5.out.below BB).2.1, (HU6.out.below BB).2.1, (HT7.out.below BB).2.1⟩
      clear hK K
      try simp only [Act.put, List.setIfInBounds_toArray, List.set_cons_zero, List.set_cons_succ]
      refine take_at (i := 8) (v := ?_) rfl (by kernel_rfl) (by kernel_rfl) (by kernel_rfl) (fun _ _ _ h => h) (by kernel_rfl) (by assumption) ?_ ?_
      rotate_left
      · (intro w hSw; (try dsimp only at hSw); go_simp; try with_reducible rfl)
      simp only [Act.put, List.setIfInBounds_toArray, List.set_cons_zero, List.set_cons_succ]
      refine take_at (i := 9) (v := ?_) rfl (by kernel_rfl) (by kernel_rfl) (by kernel_rfl) (fun _ _ _ h => h) (by kernel_rfl) (by assumption) ?_ ?_
      rotate_left
      · (intro w hSw; (try dsimp only at hSw); go_simp; try with_reducible rfl)
      simp only [Act.put, List.setIfInBounds_toArray, List.set_cons_zero, List.set_cons_succ]
      refine take_at (i := 10) (v := ?_) rfl (by kernel_rfl) (by kernel_rfl) (by kernel_rfl) (fun _ _ _ h => h) (by kernel_rfl) (by assumption) ?_ ?_
      rotate_left
      · (intro w hSw; (try dsimp only at hSw); go_simp; try with_reducible rfl)
      simp only [Act.put, List.setIfInBounds_toArray, List.set_cons_zero, List.set_cons_succ]
      refine take_at (i := 11) (v := ?_) rfl (by kernel_rfl) (by kernel_rfl) (by kernel_rfl) (fun _ _ _ h => h) (by kernel_rfl) (by assumption) ?_ ?_
      rotate_left
      · (intro w hSw; (try dsimp only at hSw); go_simp; try with_reducible rfl)
      simp only [Act.put, List.setIfInBounds_toArray, List.set_cons_zero, List.set_cons_succ]
      refine take_at (i := 12) (v := ?_) rfl (by kernel_rfl) (by kernel_rfl) (by kernel_rfl) (fun _ _ _ h => h) (by kernel_rfl) (by assumption) ?_ ?_
      rotate_left
      · (intro w hSw; (try dsimp only at hSw); go_simp; try with_reducible rfl)
      simp only [Act.put, List.setIfInBounds_toArray, List.set_cons_zero, List.set_cons_succ]
      refine take_at (i := 14) (v := ?_) rfl (by kernel_rfl) (by kernel_rfl) (by kernel_rfl) (fun _ _ _ h => h) (by kernel_rfl) (by assumption) ?_ ?_
      rotate_left
      · (intro w hSw; (try dsimp only at hSw); go_simp; try with_reducible rfl)
      simp only [Act.put, List.setIfInBounds_toArray, List.set_cons_zero, List.set_cons_succ]
      refine take_at (i := 15) (v := ?_) rfl (by kernel_rfl) (by kernel_rfl) (by kernel_rfl) (fun _ _ _ h => h) (by kernel_rfl) (by assumption) ?_ ?_
      rotate_left
      · (intro w hSw; (try dsimp only at hSw); go_simp; try with_reducible rfl)
      simp only [Act.put, List.setIfInBounds_toArray, List.set_cons_zero, List.set_cons_succ]
      refine do_at (i := 13) rfl (by kernel_rfl) (by kernel_rfl) (fun K hK => ?_)
      go_simp
      refine (SAB.out _ BB).mono ?_
      rintro e y2 ⟨rfl, bb⟩
      replace BB := BB.trans (bb.mono BB.size)
      clear bb hHeld
      go_wp2_with fail
      refine hK.out _ _ ?_ (fun hHeld => ?_)
      · exact ⟨(HU5.out.below BB).2.1, (HU6.out.below BB).2.1, (HT7.out.below BB).2.1⟩
      clear hK K
      try simp only [Act.put, List.setIfInBounds_toArray, List.set_cons_zero, List.set_cons_succ]
      refine do_at (i := 16) rfl (by kernel_rfl) (by kernel_rfl) (fun K hK => ?_)
      go_simp
      refine (SBA.out _ BB).mono ?_
      rintro e y3 ⟨rfl, bb⟩
      replace BB := BB.trans (bb.mono BB.size)
      clear bb hHeld
      go_wp2_with fail
      refine hK.out _ _ ?_ (fun hHeld => ?_)
      · exact ⟨(HU5.out.below BB).2.1, (HU6.out.below BB).2.1, (HT7.out.below BB).2.1⟩
      clear hK K
      try simp only [Act.put, List.setIfInBounds_toArray, List.set_cons_zero, List.set_cons_succ]
      refine take_at (i := 17) (v := ?_) rfl (by kernel_rfl) (by kernel_rfl) (by kernel_rfl) (fun _ _ _ h => h) (by kernel_rfl) (by assumption) ?_ ?_
      rotate_left
      · (intro w hSw; (try dsimp only at hSw); go_simp; try with_reducible rfl)
      simp only [Act.put, List.setIfInBounds_toArray, List.set_cons_zero, List.set_cons_succ]
      refine take_at (i := 18) (v := ?_) rfl (by kernel_rfl) (by kernel_rfl) (by kernel_rfl) (fun _ _ _ h => h) (by kernel_rfl) (by assumption) ?_ ?_
      rotate_left
      · (intro w hSw; (try dsimp only at hSw); go_simp; try with_reducible rfl)
      simp only [Act.put, List.setIfInBounds_toArray, List.set_cons_zero, List.set_cons_succ]
      refine wpAnyH_done (by kernel_rfl) ?_ _
      have HBB5 := Lib.hid BB
      clear BB hHeld
      go_wp2_with fail
      go_meet
      case rel => exact ⟨by simp, HBB5⟩
    case rest =>
      obtain ⟨rfl, HBB5⟩ := hcut
      obtain ⟨w6, hw6⟩ : ∃ w6 : World, w6 = wc := ⟨_, rfl⟩
      rw [← hw6] at HBB5 ⊢
      clear hw6 SAC SAA SBA
      have HO := Lib.hid (tokOk_of HW.out HRR.out)
      have HO' := Lib.hid (tokOk_of HW'.out HRR'.out)
      have HRB := Lib.hid (right_of HW.out HRR.out)
      have HRB' := Lib.hid (right_of HW'.out HRR'.out)
      have HSQ := Lib.hid (show ((tokS t).toList == (tokS t').toList) = q from (str_same HRR.out HRR'.out HW.out HW'.out).trans HQ.out)
      have HB6 := Lib.hid (HB5.out.trans (HBB5.out.mono HB5.out.size))
      obtain ⟨_, ⟨c0, c1, c2, c3, c4, c5, c6⟩, _⟩ := HU5.out.below HBB5.out
      go_wp2_with fail
      have HC := put_tok w6 w6.heap.size rfl t.kind t.rune t.priv t.fin va vn vc t.P t.inter t.data (HN1.out.mat.below HBB5.out) HO.out (HP.out.on HB6.out)
      rw [show putS [⟨t.kind, t.rune, t.priv, t.P, t.inter, t.fin, t.data⟩] = tokS t from putS_one HRB.out, show putE [⟨t.kind, t.rune, t.priv, t.P, t.inter, t.fin, t.data⟩] = 0 from putE_one HRB.out] at HC
      refine HC.mono ?_
      rintro e w7 ⟨rfl, b7b⟩
      have HBB7 := Lib.hid (HBB5.out.trans (b7b.mono HBB5.out.size))
      have HB7 := Lib.hid (HB6.out.trans (b7b.mono HB6.out.size))
      clear HC b7b c0 c1 c2 c3 c4 c5 c6 HBB5 HB6
      obtain ⟨_, ⟨c0, c1, c2, c3, c4, c5, c6⟩, _⟩ := HU6.out.below HBB7.out
      go_wp2_with fail
      have HC := put_tok w7 w7.heap.size rfl t'.kind t'.rune t'.priv t'.fin va' vn' vc' t'.P t'.inter t'.data (HN2.out.mat.below HBB7.out) HO'.out (HP.out.on HB7.out)
      rw [show putS [⟨t'.kind, t'.rune, t'.priv, t'.P, t'.inter, t'.fin, t'.data⟩] = tokS t' from putS_one HRB'.out, show putE [⟨t'.kind, t'.rune, t'.priv, t'.P, t'.inter, t'.fin, t'.data⟩] = 0 from putE_one HRB'.out] at HC
      refine HC.mono ?_
      rintro e w8 ⟨rfl, b8b⟩
      have HBB8 := Lib.hid (HBB7.out.trans (b8b.mono HBB7.out.size))
      have HB8 := Lib.hid (HB7.out.trans (b8b.mono HB7.out.size))
      obtain ⟨s, hs⟩ : ∃ s, tokS t = s := ⟨_, rfl⟩
      obtain ⟨s', hs'⟩ : ∃ s, tokS t' = s := ⟨_, rfl⟩
      have hsq := HSQ.out
      rw [hs, hs'] at hsq ⊢
      clear HC b8b c0 c1 c2 c3 c4 c5 c6 HBB7 HB7 HSQ
      obtain ⟨_, ⟨c0, c1, c2, c3, c4, c5, c6⟩, _⟩ := HU5.out.below HBB8.out
      obtain ⟨_, ⟨z0, z1, z2, z3, z4, z5, z6⟩, _⟩ := HU6.out.below HBB8.out
      go_wp2_with fail
      refine (SAB.out _ HBB8.out).mono ?_
      rintro e w9 ⟨rfl, b9b⟩
      have HBB9 := Lib.hid (HBB8.out.trans (b9b.mono HBB8.out.size))
      have HB9 := Lib.hid (HB8.out.trans (b9b.mono HB8.out.size))
      clear b9b c0 c1 c2 c3 c4 c5 c6 z0 z1 z2 z3 z4 z5 z6 HBB8 HB8
      go_upto_block 0 with (fail)
      have HL7 := Lib.hid (HT7.out.below HBB9.out)
      have HL3 := Lib.hid (HN3.out.below HBB9.out (fun g hg => by have := Hm3.out g hg; omega))
      have HLf := Lib.hid (show ∀ g, S3 g → ∀ i, w9.frozen? ⟨g, i, none⟩ = false from fun g hg i => (World.frozen?_of_block (a := ⟨g, i, none⟩) (HBB9.out.block g (by have := Hm3.out g hg; omega))).trans (Hf3.out g hg i))
      have hun : un = t.P.length := by
        obtain ⟨_, _, e⟩ := HN3.out.slice
        injection e
      have HUN := Lib.hid hun
      have hu32 := (right_rows HRR.out).1
      rw [← hun] at hu32
      have HRW := Lib.hid (show ∀ i, i < un → 1 ≤ (t.P.getD i []).length ∧ (t.P.getD i []).length ≤ 8 from fun i hi => by
        have h := (right_rows HRR.out).2 _ (getD_mem' (l := t.P) [] (k := i) (by omega))
        exact ⟨h.1, h.2.1⟩)
      clear hun
      go_cut [12, 13] (fun _ _ wc => ∃ Pz, Hid (MatIn wc S3 (.slice ua un uc) Pz) ∧ Hid (Fill t.P Pz (0 < un)) ∧ Hid (T7 wc b7 (.int .i64 t.kind) (.int .i32 t.rune) (.int .u8 t.priv) (.slice ua un uc) (.string t.inter) (.int .u8 t.fin) (.string t.data)) ∧ Hid (Below w3.heap.size w9 wc))
      case first =>
        go_wp2_with fail
        go_loopw [12, 13] (fun x _ wr => ∃ (i : Nat) (Pz : Rws), i ≤ un ∧ x = .int .i64 i ∧ Hid (MatIn wr S3 (.slice ua un uc) Pz) ∧ Hid (Fill t.P Pz (0 < i)) ∧ Hid (T7 wr b7 (.int .i64 t.kind) (.int .i32 t.rune) (.int .u8 t.priv) (.slice ua un uc) (.string t.inter) (.int .u8 t.fin) (.string t.data)) ∧ Hid (Below w3.heap.size w9 wr) ∧ Hid (∀ g, S3 g → ∀ i, wr.frozen? ⟨g, i, none⟩ = false)) (fun x _ _ => un - (intOf x).toNat)
        case atStart => exact ⟨0, t.P, Nat.zero_le _, rfl, HL3, Lib.hid ⟨rfl, fun _ => rfl, fun h => absurd h (by omega)⟩, HL7, Lib.hid (Below.refl _ _), HLf⟩
        case round =>
          obtain ⟨wo, rfl⟩ : ∃ wo : World, wo = wr := ⟨_, rfl⟩
          obtain ⟨i, Pz, hi, rfl, HM, HFI, H7, HBL, HFR⟩ := hrel
          obtain ⟨_, ⟨_, _, _, s3, _, _, _⟩, _⟩ := H7.out
          by_cases hlt : i < un
          · obtain ⟨q, hq⟩ : ∃ q, (t.P.getD i []).length = q := ⟨_, rfl⟩
            have hq8 := HRW.out i hlt
            rw [hq] at hq8
            have HQL := Lib.hid hq
            clear hq
            go_wp2_with fail
            go_loopw [13] (fun y wr => ∃ (j : Nat) (Pw : Rws), j ≤ q ∧ y = .int .i64 j ∧ Hid (MatIn wr S3 (.slice ua un uc) Pw) ∧ Hid (Fill t.P Pw (0 < i ∨ 0 < j)) ∧ Hid (T7 wr b7 (.int .i64 t.kind) (.int .i32 t.rune) (.int .u8 t.priv) (.slice ua un uc) (.string t.inter) (.int .u8 t.fin) (.string t.data)) ∧ Hid (Below w3.heap.size w9 wr) ∧ Hid (∀ g, S3 g → ∀ i, wr.frozen? ⟨g, i, none⟩ = false)) (fun y _ => q - (intOf y).toNat)
            case atStart => exact ⟨0, Pz, Nat.zero_le _, rfl, HM, Lib.hid ⟨HFI.out.1, HFI.out.2.1, fun h => HFI.out.2.2 (by omega)⟩, H7, HBL, HFR⟩
            case round =>
              clear HM HFI H7 HBL HFR s3
              obtain ⟨wn, rfl⟩ : ∃ wn : World, wn = wr := ⟨_, rfl⟩
              obtain ⟨j, Pw, hj, rfl, HM, HFI, H7, HBL, HFR⟩ := hrel
              obtain ⟨_, ⟨_, _, _, s3, _, _, _⟩, _⟩ := H7.out
              have hPl : Pw.length = un := HFI.out.1.trans HUN.out.symm
              have hPq : (Pw.getD i []).length = q := (HFI.out.2.1 i).trans HQL.out
              obtain ⟨_, _, e, _, hc⟩ := HM.out
              injection e with e1 e2 e3
              clear e2 e3
              obtain ⟨g, o, ea, hg, hrow⟩ := hc (by omega)
              rw [← e1] at ea
              clear e1
              obtain ⟨ra, rc, hcc, hm2, hrr⟩ := hrow i (by omega)
              have hcc0 := hcc
              rw [hPq] at hcc hm2 hrr
              by_cases hjq : j < q
              · obtain ⟨g2, o2, er, hg2, hl⟩ := hrr (by omega)
                have cx := hl j hjq
                have fz := HFR.out g2 hg2 (o2 + j)
                rw [er] at hcc0 hcc
                obtain ⟨Pv, HV, v1, v2, v3, v4⟩ := HM.out.poke (i := i) (j := j) (g := g) (o := o) (g2 := g2) (o2 := o2) (rc := rc) (by omega) ea hcc0 (by omega) 77777
                have hS := Hm3.out g2 hg2
                have HV1 := Lib.hid HV
                have HV2 := Lib.hid (show Fill t.P Pv (0 < i ∨ 0 < j + 1) from ⟨v1.trans HFI.out.1, fun k => (v2 k).trans (HFI.out.2.1 k), fun _ => by
                  by_cases h00 : 0 < i ∨ 0 < j
                  · have h7 := HFI.out.2.2 h00
                    have hr0 := (HRW.out 0 (by omega)).1
                    rcases v3 0 0 (by rw [HFI.out.2.1 0]; omega) with h | h
                    · exact h
                    · exact h.trans h7
                  · obtain rfl : i = 0 := by omega
                    obtain rfl : j = 0 := by omega
                    exact v4⟩)
                have HV3 := Lib.hid (H7.out.set_no (b' := g2) (o2 + j) (.int .i64 77777) (by omega))
                have HV4 := Lib.hid (HBL.out.setCell (p := ⟨g2, o2 + j, none⟩) hS.1 (.int .i64 77777))
                have HV5 := Lib.hid (show ∀ g, S3 g → ∀ i, (wn.setCell ⟨g2, o2 + j, none⟩ (.int .i64 77777)).frozen? ⟨g, i, none⟩ = false from fun g hg i => by
                  rw [World.frozen?_setCell]
                  exact HFR.out g hg i)
                obtain ⟨z, hz⟩ : ∃ z, (Pw.getD i []).getD j 0 = z := ⟨_, rfl⟩
                rw [hz] at cx
                clear hc hrow hrr hl hcc0 HV v1 v2 v3 v4 hz er HM HFI H7 HBL HFR hS
                subst ea
                go_wp2
                go_roundw
                case rel => exact ⟨j + 1, Pv, by omega, by go_num, HV1, HV2, HV3, HV4, HV5⟩
                case measure => simp [intOf]; omega
              · have HF3 := Lib.hid (show Fill t.P Pw (0 < i + 1) from ⟨HFI.out.1, HFI.out.2.1, fun _ => HFI.out.2.2 (by omega)⟩)
                clear hc hrow hrr hcc0 HFI
                subst ea
                go_wp2
                go_roundw
                case rel => exact ⟨i + 1, Pw, by omega, by go_num, HM, HF3, H7, HBL, HFR⟩
                case measure => simp [intOf]; omega
          · have HF3 := Lib.hid (show Fill t.P Pz (0 < un) from ⟨HFI.out.1, HFI.out.2.1, fun h => HFI.out.2.2 (by omega)⟩)
            clear HFI
            go_wp2
            go_meet
            case rel => exact ⟨Pz, HM, HF3, H7, HBL⟩
      case rest =>
        obtain ⟨Pz, HZ, HFZ, HZ7, HZB⟩ := hcut
        obtain ⟨wx, hwx⟩ : ∃ wx : World, wx = wc := ⟨_, rfl⟩
        rw [← hwx] at HZ HZ7 HZB ⊢
        clear hwx
        have BX : Below w2.heap.size w2 wx := HBB.out.trans ((HB35.out.mono HBB.out.size).trans ((HBB9.out.mono (Nat.le_trans HBB.out.size HB35.out.size)).trans (HZB.out.mono HBB.out.size)))
        have HBX := Lib.hid BX
        have HWX := Lib.hid (HB9.out.trans (HZB.out.mono (by have := HB2s.out; have := HBB.out.size; omega)))
        have Z5 := Lib.hid ((HU5.out.below HBB9.out).same HZB.out.size (HZB.out.block _ l5))
        have ZD := Lib.hid (HT2.out.same BX.size (BX.block _ HT2.out.1))
        have ZA := Lib.hid ((HN1.out.below HBB9.out (fun g hg => by have := (Hm1.out g hg).1; have := HB35.out.size; omega)).below HZB.out (fun g hg => (Hm1.out g hg).1))
        have hvn : vn = un := by
          obtain ⟨_, _, e⟩ := HN1.out.slice
          injection e with _ e _
          exact e.trans HUN.out.symm
        subst hvn
        clear BX
        go_upto_region 18 with (fail)
        by_cases h0 : vn = 0
        · subst h0
          have BB : Below wx.heap.size wx wx.drew := ⟨rfl, rfl, rfl, Nat.le_refl _, fun _ _ => rfl⟩
          refine wp_region_held_drew (S := fun w' => (w'.cell? ⟨b5, 0, none⟩ = some (.int .i64 t.kind) ∧ w'.cell? ⟨b5, 1, none⟩ = some (.int .i32 t.rune) ∧ w'.cell? ⟨b5, 2, none⟩ = some (.int .u8 t.priv) ∧ w'.cell? ⟨b5, 3, none⟩ = some (.slice va 0 vc) ∧ w'.cell? ⟨b5, 4, none⟩ = some (.string t.inter) ∧ w'.cell? ⟨b5, 5, none⟩ = some (.int .u8 t.fin) ∧ w'.cell? ⟨b5, 6, none⟩ = some (.string t.data)) ∧ (w'.cell? ⟨b7, 0, none⟩ = some (.int .i64 t.kind) ∧ w'.cell? ⟨b7, 1, none⟩ = some (.int .i32 t.rune) ∧ w'.cell? ⟨b7, 2, none⟩ = some (.int .u8 t.priv) ∧ w'.cell? ⟨b7, 3, none⟩ = some (.slice ua 0 uc) ∧ w'.cell? ⟨b7, 4, none⟩ = some (.string t.inter) ∧ w'.cell? ⟨b7, 5, none⟩ = some (.int .u8 t.fin) ∧ w'.cell? ⟨b7, 6, none⟩ = some (.string t.data)) ∧ (w'.cell? ⟨w.heap.size, 0, none⟩ = some (.int .u8 K) ∧ w'.cell? ⟨w.heap.size, 1, none⟩ = some (.int .u8 p) ∧ w'.cell? ⟨w.heap.size, 2, none⟩ = some (.int .i32 r) ∧ w'.cell? ⟨w.heap.size, 3, none⟩ = some (pv) ∧ w'.cell? ⟨w.heap.size, 4, none⟩ = some (iv) ∧ w'.cell? ⟨w.heap.size, 5, none⟩ = some (.int .u8 f) ∧ w'.cell? ⟨w.heap.size, 6, none⟩ = some (.string d))) (by kernel_rfl) ?_ (fun hHeld => ?_)
          · exact ⟨(Z5.out.below (Below.refl _ _)).2.1, (HZ7.out.below (Below.refl _ _)).2.1, (ZD.out.below (Below.refl _ _)).2.1⟩
          obtain ⟨u0, hu0⟩ : ∃ u0, u0 = wx.drew := ⟨_, rfl⟩
          rw [← hu0] at BB hHeld ⊢
          clear hu0
          refine take_at (i := 0) (v := ?_) rfl (by kernel_rfl) (by kernel_rfl) (by kernel_rfl) (fun _ _ _ h => h) (by kernel_rfl) (by assumption) ?_ ?_
          rotate_left
          · (intro w hSw; (try dsimp only at hSw); go_simp; try with_reducible rfl)
          simp only [Act.put, List.setIfInBounds_toArray, List.set_cons_zero, List.set_cons_succ]
          refine take_at (i := 1) (v := ?_) rfl (by kernel_rfl) (by kernel_rfl) (by kernel_rfl) (fun _ _ _ h => h) (by kernel_rfl) (by assumption) ?_ ?_
          rotate_left
          · (intro w hSw; (try dsimp only at hSw); go_simp; try with_reducible rfl)
          simp only [Act.put, List.setIfInBounds_toArray, List.set_cons_zero, List.set_cons_succ]
          refine do_at (i := 2) rfl (by kernel_rfl) (by kernel_rfl) (fun K hK => ?_)
          go_simp
          refine (C1.out _ (HBX.out.trans (BB.mono HBX.out.size))).mono ?_
          rintro e y0 ⟨xa, xn, xc, S9, rfl, _, M9, bb⟩
          replace BB := BB.trans (bb.mono BB.size)
          have HM9 := Lib.hid M9
          clear bb hHeld M9
          go_wp2_with fail
          refine hK.out _ _ ?_ (fun hHeld => ?_)
          · exact ⟨(Z5.out.below BB).2.1, (HZ7.out.below BB).2.1, (ZD.out.below BB).2.1⟩
          clear hK K
          try simp only [Act.put, List.setIfInBounds_toArray, List.set_cons_zero, List.set_cons_succ]
          refine do_at (i := 3) rfl (by kernel_rfl) (by kernel_rfl) (fun K hK => ?_)
          go_simp
          refine (rsame_self t va xa 0 vc xn xc _ (ZA.out.mat.below BB) HM9.out.mat).mono ?_
          rintro e y1 ⟨rfl, bb⟩
          replace BB := BB.trans (bb.mono BB.size)
          clear bb hHeld HM9
          go_wp2_with fail
          refine hK.out _ _ ?_ (fun hHeld => ?_)
          · exact ⟨(Z5.out.below BB).2.1, (HZ7.out.below BB).2.1, (ZD.out.below BB).2.1⟩
          clear hK K
          try simp only [Act.put, List.setIfInBounds_toArray, List.set_cons_zero, List.set_cons_succ]
          refine take_at (i := 4) (v := ?_) rfl (by kernel_rfl) (by kernel_rfl) (by kernel_rfl) (fun _ _ _ h => h) (by kernel_rfl) (by assumption) ?_ ?_
          rotate_left
          · (intro w hSw; (try dsimp only at hSw); go_simp; try with_reducible rfl)
          simp only [Act.put, List.setIfInBounds_toArray, List.set_cons_zero, List.set_cons_succ]
          refine take_at (i := 5) (v := ?_) rfl (by kernel_rfl) (by kernel_rfl) (by kernel_rfl) (fun _ _ _ h => h) (by kernel_rfl) (by assumption) ?_ ?_
          rotate_left
          · (intro w hSw; (try dsimp only at hSw); go_simp; try with_reducible rfl)
          simp only [Act.put, List.setIfInBounds_toArray, List.set_cons_zero, List.set_cons_succ]
          refine take_at (i := 6) (v := ?_) rfl (by kernel_rfl) (by kernel_rfl) (by kernel_rfl) (fun _ _ _ h => h) (by kernel_rfl) (by assumption) ?_ ?_
          rotate_left
          · (intro w hSw; (try dsimp only at hSw); go_simp; try with_reducible rfl)
          simp only [Act.put, List.setIfInBounds_toArray, List.set_cons_zero, List.set_cons_succ]
          refine take_at (i := 7) (v := ?_) rfl (by kernel_rfl) (by kernel_rfl) (by kernel_rfl) (fun _ _ _ h => h) (by kernel_rfl) (by assumption) ?_ ?_
          rotate_left
          · (intro w hSw; (try dsimp only at hSw); go_simp; try with_reducible rfl)
          simp only [Act.put, List.setIfInBounds_toArray, List.set_cons_zero, List.set_cons_succ]
          refine take_at (i := 8) (v := ?_) rfl (by kernel_rfl) (by kernel_rfl) (by kernel_rfl) (fun _ _ _ h => h) (by kernel_rfl) (by assumption) ?_ ?_
          rotate_left
          · (intro w hSw; (try dsimp only at hSw); go_simp; try with_reducible rfl)
          simp only [Act.put, List.setIfInBounds_toArray, List.set_cons_zero, List.set_cons_succ]
          refine take_at (i := 9) (v := ?_) rfl (by kernel_rfl) (by kernel_rfl) (by kernel_rfl) (fun _ _ _ h => h) (by kernel_rfl) (by assumption) ?_ ?_
          rotate_left
          · (intro w hSw; (try dsimp only at hSw); go_simp; try with_reducible rfl)
          simp only [Act.put, List.setIfInBounds_toArray, List.set_cons_zero, List.set_cons_succ]
          refine skip_at (i := 10) rfl (by kernel_rfl) (by kernel_rfl) (by kernel_rfl) (fun _ _ _ h => h) (by kernel_rfl) (by assumption) ?_
          simp only [Act.put, List.setIfInBounds_toArray, List.set_cons_zero, List.set_cons_succ]
          refine skip_at (i := 11) rfl (by kernel_rfl) (by kernel_rfl) (by kernel_rfl) (fun _ _ _ h => h) (by kernel_rfl) (by assumption) ?_
          simp only [Act.put, List.setIfInBounds_toArray, List.set_cons_zero, List.set_cons_succ]
          refine skip_at (i := 12) rfl (by kernel_rfl) (by kernel_rfl) (by kernel_rfl) (fun _ _ _ h => h) (by kernel_rfl) (by assumption) ?_
          simp only [Act.put, List.setIfInBounds_toArray, List.set_cons_zero, List.set_cons_succ]
          refine skip_at (i := 13) rfl (by kernel_rfl) (by kernel_rfl) (by kernel_rfl) (fun _ _ _ h => h) (by kernel_rfl) (by assumption) ?_
          simp only [Act.put, List.setIfInBounds_toArray, List.set_cons_zero, List.set_cons_succ]
          refine skip_at (i := 14) rfl (by kernel_rfl) (by kernel_rfl) (by kernel_rfl) (fun _ _ _ h => h) (by kernel_rfl) (by assumption) ?_
          simp only [Act.put, List.setIfInBounds_toArray, List.set_cons_zero, List.set_cons_succ]
          refine skip_at (i := 15) rfl (by kernel_rfl) (by kernel_rfl) (by kernel_rfl) (fun _ _ _ h => h) (by kernel_rfl) (by assumption) ?_
          simp only [Act.put, List.setIfInBounds_toArray, List.set_cons_zero, List.set_cons_succ]
          refine skip_at (i := 16) rfl (by kernel_rfl) (by kernel_rfl) (by kernel_rfl) (fun _ _ _ h => h) (by kernel_rfl) (by assumption) ?_
          simp only [Act.put, List.setIfInBounds_toArray, List.set_cons_zero, List.set_cons_succ]
          refine skip_at (i := 17) rfl (by kernel_rfl) (by kernel_rfl) (by kernel_rfl) (fun _ _ _ h => h) (by kernel_rfl) (by assumption) ?_
          simp only [Act.put, List.setIfInBounds_toArray, List.set_cons_zero, List.set_cons_succ]
          refine take_at (i := 18) (v := ?_) rfl (by kernel_rfl) (by kernel_rfl) (by kernel_rfl) (fun _ _ _ h => h) (by kernel_rfl) (by assumption) ?_ ?_
          rotate_left
          · (intro w hSw; (try dsimp only at hSw); go_simp; try with_reducible rfl)
          simp only [Act.put, List.setIfInBounds_toArray, List.set_cons_zero, List.set_cons_succ]
          refine take_at (i := 19) (v := ?_) rfl (by kernel_rfl) (by kernel_rfl) (by kernel_rfl) (fun _ _ _ h => h) (by kernel_rfl) (by assumption) ?_ ?_
          rotate_left
          · (intro w hSw; (try dsimp only at hSw); go_simp; try with_reducible rfl)
          simp only [Act.put, List.setIfInBounds_toArray, List.set_cons_zero, List.set_cons_succ]
          refine take_at (i := 20) (v := ?_) rfl (by kernel_rfl) (by kernel_rfl) (by kernel_rfl) (fun _ _ _ h => h) (by kernel_rfl) (by assumption) ?_ ?_
          rotate_left
          · (intro w hSw; (try dsimp only at hSw); go_simp; try with_reducible rfl)
          simp only [Act.put, List.setIfInBounds_toArray, List.set_cons_zero, List.set_cons_succ]
          refine wpAnyH_done (by kernel_rfl) ?_ _
          have HBF := Lib.hid (HWX.out.trans (BB.mono HWX.out.size))
          clear BB hHeld
          go_wp2_with fail
          go_ret
          exact ⟨by simp, HBF.out⟩
        · have hne0 : ((vn : Int) == 0) = false := by simp; omega
          have hne1 : (vn == 0) = false := by simpa using h0
          have h77 := HFZ.out.2.2 (by omega)
          have hzl : Pz.length = vn := HFZ.out.1.trans HUN.out.symm
          have hz0 : 0 < (Pz.getD 0 []).length := by
            rw [HFZ.out.2.1 0]
            exact (HRW.out 0 (by omega)).1
          have HNE := Lib.hid (show t.P ≠ Pz from fun e => by
            have h1 := ((right_rows HRR.out).2 _ (getD_mem' (l := t.P) [] (k := 0) (by rw [e]; omega))).2.2
            have h2 := (h1 _ (getD_mem' (l := t.P.getD 0 []) 0 (k := 0) (by rw [e]; exact hz0))).2
            rw [e, h77] at h2
            omega)
          have HBAD := Lib.hid (fill_no (t := t) HW.out (by omega) hz0 h77)
          have HOZ := Lib.hid (show TokOk ⟨t.kind, t.rune, t.priv, Pz, t.inter, t.fin, t.data⟩ from HO.out)
          clear h77 hzl hz0
          have BB : Below wx.heap.size wx wx.drew := ⟨rfl, rfl, rfl, Nat.le_refl _, fun _ _ => rfl⟩
          refine wp_region_held_drew (S := fun w' => (w'.cell? ⟨b5, 0, none⟩ = some (.int .i64 t.kind) ∧ w'.cell? ⟨b5, 1, none⟩ = some (.int .i32 t.rune) ∧ w'.cell? ⟨b5, 2, none⟩ = some (.int .u8 t.priv) ∧ w'.cell? ⟨b5, 3, none⟩ = some (.slice va vn vc) ∧ w'.cell? ⟨b5, 4, none⟩ = some (.string t.inter) ∧ w'.cell? ⟨b5, 5, none⟩ = some (.int .u8 t.fin) ∧ w'.cell? ⟨b5, 6, none⟩ = some (.string t.data)) ∧ (w'.cell? ⟨b7, 0, none⟩ = some (.int .i64 t.kind) ∧ w'.cell? ⟨b7, 1, none⟩ = some (.int .i32 t.rune) ∧ w'.cell? ⟨b7, 2, none⟩ = some (.int .u8 t.priv) ∧ w'.cell? ⟨b7, 3, none⟩ = some (.slice ua vn uc) ∧ w'.cell? ⟨b7, 4, none⟩ = some (.string t.inter) ∧ w'.cell? ⟨b7, 5, none⟩ = some (.int .u8 t.fin) ∧ w'.cell? ⟨b7, 6, none⟩ = some (.string t.data)) ∧ (w'.cell? ⟨w.heap.size, 0, none⟩ = some (.int .u8 K) ∧ w'.cell? ⟨w.heap.size, 1, none⟩ = some (.int .u8 p) ∧ w'.cell? ⟨w.heap.size, 2, none⟩ = some (.int .i32 r) ∧ w'.cell? ⟨w.heap.size, 3, none⟩ = some (pv) ∧ w'.cell? ⟨w.heap.size, 4, none⟩ = some (iv) ∧ w'.cell? ⟨w.heap.size, 5, none⟩ = some (.int .u8 f) ∧ w'.cell? ⟨w.heap.size, 6, none⟩ = some (.string d))) (by kernel_rfl) ?_ (fun hHeld => ?_)
          · exact ⟨(Z5.out.below (Below.refl _ _)).2.1, (HZ7.out.below (Below.refl _ _)).2.1, (ZD.out.below (Below.refl _ _)).2.1⟩
          obtain ⟨u0, hu0⟩ : ∃ u0, u0 = wx.drew := ⟨_, rfl⟩
          rw [← hu0] at BB hHeld ⊢
          clear hu0
          refine take_at (i := 0) (v := ?_) rfl (by kernel_rfl) (by kernel_rfl) (by kernel_rfl) (fun _ _ _ h => h) (by kernel_rfl) (by assumption) ?_ ?_
          rotate_left
          · (intro w hSw; (try dsimp only at hSw); go_simp; try with_reducible rfl)
          simp only [Act.put, List.setIfInBounds_toArray, List.set_cons_zero, List.set_cons_succ]
          refine take_at (i := 1) (v := ?_) rfl (by kernel_rfl) (by kernel_rfl) (by kernel_rfl) (fun _ _ _ h => h) (by kernel_rfl) (by assumption) ?_ ?_
          rotate_left
          · (intro w hSw; (try dsimp only at hSw); go_simp; try with_reducible rfl)
          simp only [Act.put, List.setIfInBounds_toArray, List.set_cons_zero, List.set_cons_succ]
          refine do_at (i := 2) rfl (by kernel_rfl) (by kernel_rfl) (fun K hK => ?_)
          go_simp
          refine (C1.out _ (HBX.out.trans (BB.mono HBX.out.size))).mono ?_
          rintro e y0 ⟨xa, xn, xc, S9, rfl, _, M9, bb⟩
          replace BB := BB.trans (bb.mono BB.size)
          have HM9 := Lib.hid M9
          clear bb hHeld M9
          go_wp2_with fail
          refine hK.out _ _ ?_ (fun hHeld => ?_)
          · exact ⟨(Z5.out.below BB).2.1, (HZ7.out.below BB).2.1, (ZD.out.below BB).2.1⟩
          clear hK K
          try simp only [Act.put, List.setIfInBounds_toArray, List.set_cons_zero, List.set_cons_succ]
          refine do_at (i := 3) rfl (by kernel_rfl) (by kernel_rfl) (fun K hK => ?_)
          go_simp
          refine (rsame_self t va xa vn vc xn xc _ (ZA.out.mat.below BB) HM9.out.mat).mono ?_
          rintro e y1 ⟨rfl, bb⟩
          replace BB := BB.trans (bb.mono BB.size)
          clear bb hHeld HM9
          go_wp2_with fail
          refine hK.out _ _ ?_ (fun hHeld => ?_)
          · exact ⟨(Z5.out.below BB).2.1, (HZ7.out.below BB).2.1, (ZD.out.below BB).2.1⟩
          clear hK K
          try simp only [Act.put, List.setIfInBounds_toArray, List.set_cons_zero, List.set_cons_succ]
          refine take_at (i := 4) (v := ?_) rfl (by kernel_rfl) (by kernel_rfl) (by kernel_rfl) (fun _ _ _ h => h) (by kernel_rfl) (by assumption) ?_ ?_
          rotate_left
          · (intro w hSw; (try dsimp only at hSw); go_simp; try with_reducible rfl)
          simp only [Act.put, List.setIfInBounds_toArray, List.set_cons_zero, List.set_cons_succ]
          refine take_at (i := 5) (v := ?_) rfl (by kernel_rfl) (by kernel_rfl) (by kernel_rfl) (fun _ _ _ h => h) (by kernel_rfl) (by assumption) ?_ ?_
          rotate_left
          · (intro w hSw; (try dsimp only at hSw); go_simp; try with_reducible rfl)
          simp only [Act.put, List.setIfInBounds_toArray, List.set_cons_zero, List.set_cons_succ]
          refine take_at (i := 6) (v := ?_) rfl (by kernel_rfl) (by kernel_rfl) (by kernel_rfl) (fun _ _ _ h => h) (by kernel_rfl) (by assumption) ?_ ?_
          rotate_left
          · (intro w hSw; (try dsimp only at hSw); go_simp; try with_reducible rfl)
          simp only [Act.put, List.setIfInBounds_toArray, List.set_cons_zero, List.set_cons_succ]
          refine take_at (i := 7) (v := ?_) rfl (by kernel_rfl) (by kernel_rfl) (by kernel_rfl) (fun _ _ _ h => h) (by kernel_rfl) (by assumption) ?_ ?_
          rotate_left
          · (intro w hSw; (try dsimp only at hSw); go_simp; try with_reducible rfl)
          simp only [Act.put, List.setIfInBounds_toArray, List.set_cons_zero, List.set_cons_succ]
          refine take_at (i := 8) (v := ?_) rfl (by kernel_rfl) (by kernel_rfl) (by kernel_rfl) (fun _ _ _ h => h) (by kernel_rfl) (by assumption) ?_ ?_
          rotate_left
          · (intro w hSw; (try dsimp only at hSw); go_simp; try with_reducible rfl)
          simp only [Act.put, List.setIfInBounds_toArray, List.set_cons_zero, List.set_cons_succ]
          refine take_at (i := 9) (v := ?_) rfl (by kernel_rfl) (by kernel_rfl) (by kernel_rfl) (fun _ _ _ h => h) (by kernel_rfl) (by assumption) ?_ ?_
          rotate_left
          · (intro w hSw; (try dsimp only at hSw); go_simp; try with_reducible rfl)
          simp only [Act.put, List.setIfInBounds_toArray, List.set_cons_zero, List.set_cons_succ]
          refine take_at (i := 10) (v := ?_) rfl (by kernel_rfl) (by kernel_rfl) (by kernel_rfl) (fun _ _ _ h => h) (by kernel_rfl) (by assumption) ?_ ?_
          rotate_left
          · (intro w hSw; (try dsimp only at hSw); go_simp; try with_reducible rfl)
          simp only [Act.put, List.setIfInBounds_toArray, List.set_cons_zero, List.set_cons_succ]
          refine take_at (i := 11) (v := ?_) rfl (by kernel_rfl) (by kernel_rfl) (by kernel_rfl) (fun _ _ _ h => h) (by kernel_rfl) (by assumption) ?_ ?_
          rotate_left
          · (intro w hSw; (try dsimp only at hSw); go_simp; try with_reducible rfl)
          simp only [Act.put, List.setIfInBounds_toArray, List.set_cons_zero, List.set_cons_succ]
          refine do_at (i := 12) rfl (by kernel_rfl) (by kernel_rfl) (fun K hK => ?_)
          go_simp
          refine (same_other t Pz va ua vn vc vn uc _ (ZA.out.mat.below BB) (HZ.out.mat.below BB) HNE.out).mono ?_
          rintro e y2 ⟨rfl, bb⟩
          replace BB := BB.trans (bb.mono BB.size)
          clear bb hHeld
          go_wp2_with fail
          refine hK.out _ _ ?_ (fun hHeld => ?_)
          · exact ⟨(Z5.out.below BB).2.1, (HZ7.out.below BB).2.1, (ZD.out.below BB).2.1⟩
          clear hK K
          try simp only [Act.put, List.setIfInBounds_toArray, List.set_cons_zero, List.set_cons_succ]
          refine take_at (i := 13) (v := ?_) rfl (by kernel_rfl) (by kernel_rfl) (by kernel_rfl) (fun _ _ _ h => h) (by kernel_rfl) (by assumption) ?_ ?_
          rotate_left
          · (intro w hSw; (try dsimp only at hSw); go_simp; try with_reducible rfl)
          simp only [Act.put, List.setIfInBounds_toArray, List.set_cons_zero, List.set_cons_succ]
          refine take_at (i := 14) (v := ?_) rfl (by kernel_rfl) (by kernel_rfl) (by kernel_rfl) (fun _ _ _ h => h) (by kernel_rfl) (by assumption) ?_ ?_
          rotate_left
          · (intro w hSw; (try dsimp only at hSw); go_simp; try with_reducible rfl)
          simp only [Act.put, List.setIfInBounds_toArray, List.set_cons_zero, List.set_cons_succ]
          refine take_at (i := 15) (v := ?_) rfl (by kernel_rfl) (by kernel_rfl) (by kernel_rfl) (fun _ _ _ h => h) (by kernel_rfl) (by assumption) ?_ ?_
          rotate_left
          · (intro w hSw; (try dsimp only at hSw); go_simp; try with_reducible rfl)
          simp only [Act.put, List.setIfInBounds_toArray, List.set_cons_zero, List.set_cons_succ]
          refine do_at (i := 16) rfl (by kernel_rfl) (by kernel_rfl) (fun K hK => ?_)
          go_simp
          refine (bad_yes t.kind t.rune t.priv t.fin ua vn uc Pz t.inter t.data _ (HZ.out.mat.below BB) HOZ.out HBAD.out (HP.out.on (HWX.out.trans (BB.mono HWX.out.size)))).mono ?_
          rintro e y3 ⟨rfl, bb⟩
          replace BB := BB.trans (bb.mono BB.size)
          clear bb hHeld
          go_wp2_with fail
          refine hK.out _ _ ?_ (fun hHeld => ?_)
          · exact ⟨(Z5.out.below BB).2.1, (HZ7.out.below BB).2.1, (ZD.out.below BB).2.1⟩
          clear hK K
          try simp only [Act.put, List.setIfInBounds_toArray, List.set_cons_zero, List.set_cons_succ]
          refine take_at (i := 17) (v := ?_) rfl (by kernel_rfl) (by kernel_rfl) (by kernel_rfl) (fun _ _ _ h => h) (by kernel_rfl) (by assumption) ?_ ?_
          rotate_left
          · (intro w hSw; (try dsimp only at hSw); go_simp; try with_reducible rfl)
          simp only [Act.put, List.setIfInBounds_toArray, List.set_cons_zero, List.set_cons_succ]
          refine take_at (i := 18) (v := ?_) rfl (by kernel_rfl) (by kernel_rfl) (by kernel_rfl) (fun _ _ _ h => h) (by kernel_rfl) (by assumption) ?_ ?_
          rotate_left
          · (intro w hSw; (try dsimp only at hSw); go_simp; try with_reducible rfl)
          simp only [Act.put, List.setIfInBounds_toArray, List.set_cons_zero, List.set_cons_succ]
          refine take_at (i := 19) (v := ?_) rfl (by kernel_rfl) (by kernel_rfl) (by kernel_rfl) (fun _ _ _ h => h) (by kernel_rfl) (by assumption) ?_ ?_
          rotate_left
          · (intro w hSw; (try dsimp only at hSw); go_simp; try with_reducible rfl)
          simp only [Act.put, List.setIfInBounds_toArray, List.set_cons_zero, List.set_cons_succ]
          refine take_at (i := 20) (v := ?_) rfl (by kernel_rfl) (by kernel_rfl) (by kernel_rfl) (fun _ _ _ h => h) (by kernel_rfl) (by assumption) ?_ ?_
          rotate_left
          · (intro w hSw; (try dsimp only at hSw); go_simp; try with_reducible rfl)
          simp only [Act.put, List.setIfInBounds_toArray, List.set_cons_zero, List.set_cons_succ]
          refine wpAnyH_done (by kernel_rfl) ?_ _
          have HBF := Lib.hid (HWX.out.trans (BB.mono HWX.out.size))
          clear BB hHeld
          go_wp2_with fail
          go_ret
          exact ⟨by simp, HBF.out⟩
end Go.Proofs.YtclaopidjfekmaaDoor.Lab
