/- The acts of the statements of package tabs: by, cols, level, does. -/
import Derived.Test.YtmfbknmcmopjnaaTbRes
set_option linter.unusedVariables false
namespace Go.Proofs.Ytmfbknmcmopjnaa.Lab
open Go Go.RowKit Go.Shelf

theorem info16 : (Try.prog.info? 3).map (fun i => (i.zero, i.size, i.bytes)) = some (some (.int .i64 0), 1, 8) := infoInt
/-- Numbers of sixteen bits, as they can be read. -/
def S16 (w : World) (v : Value) (l : List Int) : Prop :=
  ∃ a c, v = .slice a l.length c ∧ l.length ≤ maxLen ∧ (∀ x ∈ l, -32768 ≤ x ∧ x ≤ 32767) ∧ (0 < l.length → ∃ g o, a = some ⟨g, o, none⟩ ∧ g < w.heap.size ∧ ∀ j, j < l.length → w.cell? ⟨g, o + j, none⟩ = some (.int .i16 (l.getD j 0)))
theorem S16.below {w w' : World} {v : Value} {l : List Int} (h : S16 w v l) (hb : Below w.heap.size w w') : S16 w' v l := by
  obtain ⟨a, c, e, hm, hx, h⟩ := h
  refine ⟨a, c, e, hm, hx, fun h0 => ?_⟩
  obtain ⟨g, o, ea, hg, hc⟩ := h h0
  exact ⟨g, o, ea, Nat.lt_of_lt_of_le hg hb.size, fun j hj => (hb.cell (p := ⟨g, o + j, none⟩) hg).trans (hc j hj)⟩
theorem S16.nil (w : World) : S16 w (.slice none 0 0) [] := ⟨none, 0, rfl, Nat.zero_le _, (fun x hx => by cases hx), fun h => by simp at h⟩
structure Ac where
  what : Nat
  high : Bool
  l : List Int
  cols : Int
abbrev acV (a : Ac) (u : Value) : Value := .agg #[.int .u8 (a.what : Nat), .bool a.high, u, .int .i16 a.cols]
def Ac.Ok (a : Ac) : Prop := a.what < 256 ∧ -32768 ≤ a.cols ∧ a.cols ≤ 32767
def AcAt (w : World) (b : Nat) (a : Ac) (u : Value) : Prop := b < w.heap.size ∧ w.cell? ⟨b, 0, none⟩ = some (.int .u8 (a.what : Nat)) ∧ w.cell? ⟨b, 1, none⟩ = some (.bool a.high) ∧ w.cell? ⟨b, 2, none⟩ = some u ∧ w.cell? ⟨b, 3, none⟩ = some (.int .i16 a.cols)
theorem AcAt.below {w w' : World} {b : Nat} {a : Ac} {u : Value} (h : AcAt w b a u) (k : Below w.heap.size w w') : AcAt w' b a u := by
  obtain ⟨h0, h1, h2, h3, h4⟩ := h
  exact ⟨Nat.lt_of_lt_of_le h0 k.size, (k.cell (p := ⟨b, 0, none⟩) h0).trans h1, (k.cell (p := ⟨b, 1, none⟩) h0).trans h2, (k.cell (p := ⟨b, 2, none⟩) h0).trans h3, (k.cell (p := ⟨b, 3, none⟩) h0).trans h4⟩
theorem AcAt.newAt (w : World) (n : Nat) (hn : n = w.heap.size) (a : Ac) (u : Value) (T : TypeId) : AcAt (w.alloc (.cells #[.int .u8 (a.what : Nat), .bool a.high, u, .int .i16 a.cols] T)) n a u := by
  subst hn
  exact ⟨by simp, by simp, by simp, by simp, by simp⟩
def lvN (h : Bool) : Nat := if h = true then 1 else 0
theorem lvN_le (h : Bool) : lvN h ≤ 1 := by cases h <;> decide
theorem by_any (a : Ac) (u : Value) (w : World) : Calls Try.prog 27 #[acV a u] w fun e w' => e = .returned (.int .u8 (lvN a.high : Nat)) ∧ Below w.heap.size w w' := by
  obtain ⟨what, high, l, cols⟩ := a
  cases high
  all_goals
    go_enter Try.func27, Try.ntmps27
    go_wp2
    go_ret
    exact ⟨rfl, (Below.refl _ _).alloc (Nat.le_refl _) _⟩
theorem level_any (h : Bool) (w : World) : Calls Try.prog 10 #[.bool h] w fun e w' => e = .returned (.int .u8 (lvN h : Nat)) ∧ Below w.heap.size w w' := by
  have HB := Lib.hid (fun w => by_any ⟨0, h, [], 0⟩ (.slice none 0 0) w)
  go_enter Try.func10, Try.ntmps10
  go_wp2_with fail
  refine (HB.out _).mono ?_
  rintro e w2 ⟨rfl, b2⟩
  have H2 := Lib.hid b2
  clear b2 HB
  go_wp2
  go_ret
  exact ⟨rfl, H2.out⟩
abbrev iV (n : Int) : Value := .int .i64 n
abbrev iVs (Q : List Int) : List Value := Q.map iV
/-- A row of numbers of the call's own can be read. -/
theorem isIn_own {w : World} {lo : Nat} {v : Value} {K : List Int} (h : w.ownsRow lo 3 1 v K.length (iVs K)) : IsIn w v K := by
  obtain ⟨a, c, e⟩ := own_shape h
  refine ⟨a, c, e, fun h0 => ?_⟩
  rcases h.2 with ⟨_, h1⟩ | ⟨g, cap, cur, ev, _, hg, _⟩
  · omega
  · rw [e] at ev
    injection ev with e1 _ _
    refine ⟨g, 0, e1, (Array.getElem?_eq_some_iff.1 hg).1, fun i hi => ?_⟩
    have := World.ownsRow.cells h (g := g) (by rw [e, e1]; rfl) i (iV K[i]) (by simp [iVs, hi])
    rw [Addr.add_mid] at this
    exact this
set_option maxHeartbeats 4000000 in
theorem actcols_any (a : Ac) (u : Value) (w : World) (h : S16 w u a.l) : Calls Try.prog 25 #[acV a u] w fun e w' => ∃ v, e = .returned v ∧ IsIn w' v (a.l.take 10) ∧ Below w.heap.size w w' := by
  obtain ⟨ua, uc, rfl, hm, hx, hcell⟩ := h
  obtain ⟨L, hL⟩ : ∃ L, L = a.l := ⟨_, rfl⟩
  rw [← hL] at hm hx hcell ⊢
  obtain ⟨n, hn⟩ : ∃ n, n = L.length := ⟨_, rfl⟩
  have HN := Lib.hid hn
  have HX := Lib.hid hx
  have HC := Lib.hid hcell
  have HM := Lib.hid (show n ≤ maxLen by rw [hn]; exact hm)
  rw [← hn]
  obtain ⟨w1, hw1⟩ : ∃ x, x = w.alloc (.cells #[.int .u8 (a.what : Nat), .bool a.high, .slice ua n uc, .int .i16 a.cols] 37) := ⟨_, rfl⟩
  obtain ⟨b, hb⟩ : ∃ b, b = w.heap.size := ⟨_, rfl⟩
  have HB1 := Lib.hid (show Below w.heap.size w w1 by rw [hw1]; exact (Below.refl _ _).alloc (Nat.le_refl _) _)
  have HA := Lib.hid (show AcAt w1 b a (.slice ua n uc) by rw [hw1]; exact AcAt.newAt w b hb a _ _)
  clear hn hm hx hcell hL
  go_enter Try.func25, Try.ntmps25
  go_wp2
  rw [← hw1, ← hb]
  clear hw1 hb
  go_loopw [3, 4] (fun x y wr => ∃ k : Nat, y = .int .i64 (k : Nat) ∧ Hid (k ≤ n ∧ k ≤ 10) ∧ Hid (Below w1.heap.size w1 wr ∧ wr.ownsRow w1.heap.size 3 1 x k (iVs (L.take k)))) (fun x y wr => 12 - (intOf y).toNat)
  case atStart => exact ⟨0, rfl, Lib.hid ⟨Nat.zero_le _, Nat.zero_le _⟩, Lib.hid ⟨Below.refl _ _, World.ownsRow_nil _ _ _ 1⟩⟩
  case round =>
    rename_i x y
    obtain ⟨k, rfl, HI, HK⟩ := hrel
    obtain ⟨xa, xc, hxs⟩ := own_shape HK.out.2
    subst hxs
    have HAr := Lib.hid (HA.out.below HK.out.1)
    obtain ⟨_, a0, a1, a2, a3⟩ := HAr.out
    by_cases h1 : k < n
    · by_cases h2 : k < 10
      · obtain ⟨g, o, hua, hg, hc⟩ := HC.out (by have := HN.out; omega)
        subst hua
        obtain ⟨x, hxx⟩ : ∃ x, x = L.getD k 0 := ⟨_, rfl⟩
        have hkL : k < L.length := by rw [← HN.out]; exact h1
        have hc0 : wr.cell? ⟨g, o + k, none⟩ = some (.int .i16 x) := by
          rw [hxx]
          exact ((HB1.out.trans (HK.out.1.mono HB1.out.size)).cell (p := ⟨g, o + k, none⟩) hg).trans (hc k hkL)
        have HXX := Lib.hid (show -32768 ≤ x ∧ x ≤ 32767 by
          rw [hxx, List.getD_eq_getElem?_getD, List.getElem?_eq_getElem hkL]
          exact HX.out _ (List.getElem_mem hkL))
        have u1 : IntKind.i64.wrap x = x := by rw [IntKind.wrap_i64]; have := HXX.out; omega
        have HTK := Lib.hid (show L.take (k + 1) = L.take k ++ [x] by rw [hxx, List.getD_eq_getElem?_getD, List.getElem?_eq_getElem hkL, List.take_succ_eq_append_getElem hkL]; rfl)
        have u2 : IntKind.i64.wrap ((k : Int) + 1) = ((k + 1 : Nat) : Int) := by rw [IntKind.wrap_i64]; omega
        obtain ⟨us, hus⟩ : ∃ us, us = iVs (L.take k) := ⟨_, rfl⟩
        have HUS := Lib.hid hus
        have hO := HK.out.2
        rw [← hus] at hO
        obtain ⟨ib, hi, hz0, hz1, hz2⟩ := info_parts infoInt
        have H12 := Lib.hid (And.intro h1 h2)
        clear hxx hkL hc hg hus
        go_wp2_with (at_builtin; refine wpList_append_own _ rfl (.tmp 16) (.tmp 23) 41 rfl w1.heap.size 3 ib (.int .i64 0) 1 8 Try.underlying41 hi hz0 hz1 hz2 rfl (by decide) (.slice xa k xc) k us rfl (hO.alloc _) ⟨wr.heap.size, 0, none⟩ 1 1 [iV x] rfl rfl ?c1 ?c2 ?c3 ?c4 ?c5 ?_)
        case c1 =>
          intro j y hj
          cases j with
          | zero =>
            obtain rfl : iV x = y := by simpa using hj
            rw [Addr.add_mid, World.cell?_alloc_at _ _ _ _ rfl]
            rfl
          | succ j => simp at hj
        case c2 =>
          intro u hu
          obtain rfl : u = iV x := by simpa using hu
          rfl
        case c3 => unfold maxLen; omega
        case c4 => omega
        case c5 => have := HK.out.1.size; simp; omega
        intro v' wa ga growa hne
        obtain ⟨a5, c5, hv5⟩ := own_shape ga
        subst hv5
        have HGA := Lib.hid ga
        have HBW := Lib.hid (show Below w1.heap.size w1 wa from (HK.out.1.alloc HK.out.1.size _).grown growa (by have := HK.out.1.size; simp; omega) (fun j hj => (HK.out.2.lt j hj).1))
        clear ga growa hne hO
        go_wp2
        go_roundw
        case rel =>
          refine ⟨k + 1, by go_num, Lib.hid ⟨by have := H12.out; omega, by have := H12.out; omega⟩, Lib.hid ⟨HBW.out, ?_⟩⟩
          rw [HTK.out, show iVs (L.take k ++ [x]) = iVs (L.take k) ++ [iV x] by simp [iVs], ← HUS.out]
          exact HGA.out
        case measure => simp only [intOf]; have := H12.out; omega
      · have HE := Lib.hid (show k = (L.take 10).length ∧ L.take k = L.take 10 by
          have := HI.out
          have := HN.out
          obtain rfl : k = 10 := by omega
          exact ⟨by rw [List.length_take]; omega, rfl⟩)
        have g2 : ¬ (k : Int) < 10 := by omega
        go_wp2
        go_ret
        have hO := HK.out.2
        rw [HE.out.2] at hO
        rw [HE.out.1] at hO ⊢
        exact ⟨_, rfl, isIn_own hO, HB1.out.trans (HK.out.1.mono HB1.out.size)⟩
    · have HE := Lib.hid (show k = (L.take 10).length ∧ L.take k = L.take 10 by
        have := HI.out
        have := HN.out
        refine ⟨by rw [List.length_take]; omega, ?_⟩
        rw [List.take_of_length_le (by omega), List.take_of_length_le (by omega)])
      go_wp2
      go_ret
      have hO := HK.out.2
      rw [HE.out.2] at hO
      rw [HE.out.1] at hO ⊢
      exact ⟨_, rfl, isIn_own hO, HB1.out.trans (HK.out.1.mono HB1.out.size)⟩
end Go.Proofs.Ytmfbknmcmopjnaa.Lab
