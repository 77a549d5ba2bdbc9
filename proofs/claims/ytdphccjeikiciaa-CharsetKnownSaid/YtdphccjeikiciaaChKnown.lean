/- The Go law CharsetKnown: its walk. -/
import Derived.Test.YtdphccjeikiciaaChWorks
import Derived.Deep.RegionHeld3
import Derived.Maps.OwnOps
namespace Go.Proofs.Ytdphccjeikiciaa.Lab
open Go.RowKit

abbrev boxS : ByteArray := ⟨#[108, 113, 113, 107, 120, 126, 120, 109, 106, 116, 117, 118, 119, 110]⟩
abbrev wantA : Array Value := #[.int .i32 0x250c, .int .i32 0x2500, .int .i32 0x2500, .int .i32 0x2510, .int .i32 0x2502, .int .i32 0xb7, .int .i32 0x2502, .int .i32 0x2514, .int .i32 0x2518, .int .i32 0x251c, .int .i32 0x2524, .int .i32 0x2534, .int .i32 0x252c, .int .i32 0x253c]
def boxL : List Nat := [108, 113, 113, 107, 120, 126, 120, 109, 106, 116, 117, 118, 119, 110]

theorem box_at (k : Nat) (h : k < 14) (w : World) : (Instr.index 9 (.string boxS) (.int .i64 k)).run Try.prog w = .ok (.int .u8 (boxL.getD k 0)) w ∧ wantA[k]? = some (.int .i32 (ofM 1 (boxL.getD k 0))) ∧ boxL.getD k 0 < 256 := by
  rw [run_index_string _ _ _ _ _ Try.underlying9]
  obtain rfl | rfl | rfl | rfl | rfl | rfl | rfl | rfl | rfl | rfl | rfl | rfl | rfl | rfl : k = 0 ∨ k = 1 ∨ k = 2 ∨ k = 3 ∨ k = 4 ∨ k = 5 ∨ k = 6 ∨ k = 7 ∨ k = 8 ∨ k = 9 ∨ k = 10 ∨ k = 11 ∨ k = 12 ∨ k = 13 := by omega
  all_goals exact ⟨rfl, rfl, by decide⟩

/-- The wanted row lies in the block behind all elder ones. -/
def Wanted (w0 w : World) : Prop := Below w0.heap.size w0 w ∧ w0.heap.size < w.heap.size ∧ ∀ k : Nat, k < 14 → w.cell? ⟨w0.heap.size, k, none⟩ = some (.int .i32 (ofM 1 (boxL.getD k 0)))
theorem Wanted.below {w0 w w' : World} (h : Wanted w0 w) (hb : Below w.heap.size w w') : Wanted w0 w' :=
  ⟨bstep h.1 hb, Nat.lt_of_lt_of_le h.2.1 hb.size, fun k hk => (hb.cell (p := ⟨w0.heap.size, k, none⟩) h.2.1).trans (h.2.2 k hk)⟩
theorem Wanted.drew {w0 w : World} (h : Wanted w0 w) : Wanted w0 w.drew := h.below (Below.refl _ _).drew
theorem Wanted.made (w : World) (T : TypeId) : Wanted w (w.alloc (.cells wantA T)) :=
  ⟨(Below.refl _ _).alloc (Nat.le_refl _) _, by simp, fun k hk => by rw [World.cell?_alloc_at _ _ _ _ rfl]; exact (box_at k hk w).2.1⟩

theorem keyed32 : Maps.Keyed Try.prog 21 := Maps.int_keyed Try.underlying21
abbrev lit64 (n : Int) : DataW Unit := .lit (.int .i64 n)
theorem lit64_inj {c d : Int} (h : lit64 c = lit64 d) : c = d := by
  injection h with h
  injection h

/-- What Graphics makes of 60 and so on, up to 7E. -/
def gx (k : Nat) : Int := ofM 1 (96 + (k : Int))
theorem gx_bd (k : Nat) (h : k < 31) : 128 ≤ gx k ∧ gx k < 65536 := by
  have : ∀ k : Fin 31, 128 ≤ gx k.val ∧ gx k.val < 65536 := by decide +kernel
  exact this ⟨k, h⟩
theorem gx_ne (j k : Nat) (hj : j < 31) (hk : k < 31) (h : gx j = gx k) : j = k := by
  have : ∀ j k : Fin 31, gx j.val = gx k.val → j.val = k.val := by decide +kernel
  exact this ⟨j, hj⟩ ⟨k, hk⟩ h

/-- The map 'seen' holds none of the runes to come. -/
def Seen (w0 w : World) (B k : Nat) : Prop := ∃ (D : DataW Unit) (n : Nat), n ≤ k ∧ w.ownsMap Try.prog 21 (plainElem (H := Unit) Try.prog 3) B n D ∧ w0.heap.size ≤ B ∧ Below w0.heap.size w0 w ∧ ∀ j, k ≤ j → j < 31 → D.atKey (.int .i32 (gx j)) (lit64 0) = lit64 0
theorem owns_below {w w' : World} {B n : Nat} {D : DataW Unit} (h : w.ownsMap Try.prog 21 (plainElem (H := Unit) Try.prog 3) B n D) (hb : Below w.heap.size w w') : w'.ownsMap Try.prog 21 (plainElem (H := Unit) Try.prog 3) B n D := by
  have hlt := h.lt
  obtain ⟨es, clock, h1, r⟩ := h
  exact ⟨es, clock, (hb.block B hlt).trans h1, r⟩
theorem Seen.below {w0 w w' : World} {B k : Nat} (h : Seen w0 w B k) (hb : Below w.heap.size w w') : Seen w0 w' B k := by
  obtain ⟨D, n, h1, h2, h3, h4, h5⟩ := h
  exact ⟨D, n, h1, owns_below h2 hb, h3, bstep h4 hb, h5⟩
theorem Seen.start {w0 w : World} (h : Below w0.heap.size w0 w) : Seen w0 (w.alloc (.map #[] 0)) w.heap.size 0 :=
  ⟨.map [], 0, Nat.le_refl _, World.ownsMap_made w _ _ _, h.size, h.alloc h.size _, fun _ _ _ => rfl⟩
theorem Seen.step {w0 w w' : World} {B n k : Nat} {D : DataW Unit} (hk : k < 31) (hn : n ≤ k) (hB : w0.heap.size ≤ B) (hb : Below w0.heap.size w0 w) (hat : ∀ j, k ≤ j → j < 31 → D.atKey (.int .i32 (gx j)) (lit64 0) = lit64 0)
    (o : w'.ownsMap Try.prog 21 (plainElem (H := Unit) Try.prog 3) B (n + 1) (D.put (.int .i32 (gx k)) (lit64 1))) (g : w.grownBy w' (some B)) : Seen w0 w' B (k + 1) := by
  refine ⟨_, _, Nat.succ_le_succ hn, o, hB, Below.grown hb g hb.size (by intro m hm; cases hm; exact hB), fun j h1 h2 => ?_⟩
  rw [Maps.atKey_put_other (fun e => ?_)]
  · exact hat j (by omega) h2
  · injection e with _ e
    have := gx_ne j k h2 hk e
    omega

set_option maxRecDepth 100000 in
set_option maxHeartbeats 4000000 in
theorem charsetKnown_walk (w : World) : Calls Try.prog 8 #[] w fun e w' => e = .returned (.bool true) ∧ Below w.heap.size w w' := by
  have H0 := Lib.hid (Wanted.made w 21)
  go_enter Try.func8, Try.ntmps8
  go_upto_region 3 with (fail)
  obtain ⟨s, hs⟩ : ∃ s : ByteArray, s = (⟨#[108, 113, 113, 107, 120, 126, 120, 109, 106, 116, 117, 118, 119, 110]⟩ : ByteArray) := ⟨_, rfl⟩
  obtain ⟨w1, hw1⟩ : ∃ w1 : World, w1 = w.alloc (.cells #[.int .i32 0x250c, .int .i32 0x2500, .int .i32 0x2500, .int .i32 0x2510, .int .i32 0x2502, .int .i32 0xb7, .int .i32 0x2502, .int .i32 0x2514, .int .i32 0x2518, .int .i32 0x251c, .int .i32 0x2524, .int .i32 0x2534, .int .i32 0x252c, .int .i32 0x253c] 21) := ⟨_, rfl⟩
  have hz : s.size = 14 := by rw [hs]; rfl
  have HX : Hid (∀ k, k < 14 → ∀ w, (Instr.index 9 (.string s) (.int .i64 (k : Nat))).run Try.prog w = .ok (.int .u8 (boxL.getD k 0)) w ∧ boxL.getD k 0 < 256) := Lib.hid (by rw [hs]; exact fun k hk w => ⟨(box_at k hk w).1, (box_at k hk w).2.2⟩)
  have H1 : Hid (Wanted w w1) := Lib.hid (by rw [hw1]; exact H0.out)
  rw [← hs, ← hw1]
  clear hs hw1 H0
  have H0 := H1
  clear H1
  go_wp2_with fail
  go_loopg [3] 14 (fun g v wr => ∃ k : Nat, g + k = 14 ∧ v = .int .i64 k ∧ Hid (Wanted w wr))
  case atStart => exact ⟨0, by omega, rfl, H0⟩
  case round =>
    obtain ⟨k, hgk, rfl, H1⟩ := hrel
    clear H0
    obtain ⟨wo, rfl⟩ : ∃ wo : World, wo = wr := ⟨_, rfl⟩
    by_cases hk : k < 14
    · have hlt : (k : Int) < 14 := by omega
      have hx := fun w => (HX.out k hk w).1
      have y1 := (HX.out k hk w).2
      have HC : Hid (∀ w', Wanted w w' → w'.cell? ⟨w.heap.size, k, none⟩ = some (.int .i32 (ofM 1 (boxL.getD k 0)))) := Lib.hid (fun w' h => h.2.2 k hk)
      clear HX
      generalize boxL.getD k 0 = y at *
      have W1 : IntKind.i32.wrap (y : Int) = y := by rw [IntKind.wrap_i32]; omega
      go_upto_region 6 with (fail)
      go_cut [28] (fun x wc => x = .bool false ∧ Hid (Wanted w wc))
      case first =>
        have RQ := H1.out.drew
        clear H1
        go_region_held3 (fun w' => w'.cell? ⟨w.heap.size, k, none⟩ = some (.int .i32 (ofM 1 y)))
          (exact HC.out _ RQ)
          ((go_at_call 21; ((with_reducible refine Calls.mono (of_any _ _ _) ?_)); rintro e w6 ⟨rfl, hb6⟩; have RQ' := RQ.below hb6; clear RQ hb6; have RQ := RQ'; clear RQ'))
        all_goals
          go_wp2_with fail
          go_meet
          case rel => exact ⟨by simp, Lib.hid RQ⟩
      case rest =>
        obtain ⟨rfl, H2⟩ := hcut
        obtain ⟨wp, rfl⟩ : ∃ wp : World, wp = wc := ⟨_, rfl⟩
        clear H1 HC hx
        go_wp2
        go_roundg (gk - 1)
        case measure => omega
        case rel => exact ⟨k + 1, by omega, by simp, H2⟩
    · obtain rfl : k = 14 := by omega
      have H2 := Lib.hid H1.out.1
      clear H1 HX hk
      have hmm := @run_makeMap Try.prog
      go_wp2_with fail
      clear hmm
      have H3 := Lib.hid (Seen.start H2.out)
      clear H2
      generalize wo.heap.size = B at *
      generalize wo.alloc (.map #[] 0) = w2 at *
      go_loopg [5] 31 (fun g v wr => ∃ k : Nat, g + k = 31 ∧ v = .int .i32 (96 + (k : Int)) ∧ Hid (Seen w wr B k))
      case atStart => exact ⟨0, by omega, rfl, H3⟩
      case round =>
        obtain ⟨k, hgk2, rfl, H4⟩ := hrel
        clear H3
        obtain ⟨wo2, rfl⟩ : ∃ wo : World, wo = wr := ⟨_, rfl⟩
        by_cases hk : k < 31
        · have hlt : 96 + (k : Int) ≤ 126 := by omega
          have C := of_lit 1 (96 + (k : Int)) (gx k) rfl
          have hx := gx_bd k hk
          have SS := Lib.hid (fun (w' w'' : World) (D : DataW Unit) (n : Nat) => Seen.step (w0 := w) (w := w') (w' := w'') (B := B) (n := n) (k := k) (D := D) hk)
          have HT := Lib.hid (show ∀ D : DataW Unit, (∀ j, k ≤ j → j < 31 → D.atKey (.int .i32 (gx j)) (lit64 0) = lit64 0) → D.atKey (.int .i32 (gx k)) (lit64 0) = lit64 0 from fun D h => h k (Nat.le_refl _) hk)
          have hkey : keyOf Try.prog 21 (.int .i32 (gx k)) = some (.int .i32 (gx k)) := Maps.keyOf_int_mk Try.underlying21 (by
            have m1 : IntKind.i32.min = -2147483648 := by decide
            have m2 : IntKind.i32.max = 2147483647 := by decide
            simp only [Lit.wf, Bool.and_eq_true, decide_eq_true_eq]
            omega)
          have HK := Lib.hid hkey
          clear hkey
          generalize gx k = x at *
          have x1 : ¬ x < 128 := by omega
          clear hx
          go_wp2_with fail
          refine (C _).mono ?_
          rintro e w5 ⟨rfl, hb⟩
          have H5 := Lib.hid (H4.out.below hb)
          clear hb H4 C
          obtain ⟨D, n, hn, hown, hB, hbel, hat⟩ := H5.out
          have HN := Lib.hid hn
          have HO := Lib.hid hown
          have HB := Lib.hid hB
          have HBL := Lib.hid hbel
          have HA := Lib.hid hat
          clear H5 hn hown hB hbel hat
          go_wp2_with (first
            | (at_lookup; refine wpList_lookup_own_int _ rfl (.tmp 36) (.tmp 37) 58 rfl 21 3 .i64 keyed32 Try.underlying58 Try.underlying3 (by kernel_rfl) B n D (by simp [Act.eval]) HO.out (.int .i32 x) _ (by simp [Act.eval]) HK.out ?_; intro c hc hwc; obtain rfl : c = 0 := lit64_inj (hc.symm.trans (HT.out D HA.out)); clear hc hwc)
            | (at_mapUpdate; refine wpList_mapUpdate_own _ rfl (.tmp 44) (.tmp 45) (.const (.int .i64 1)) 58 rfl 21 3 keyed32 Try.underlying58 (plainElem Try.prog 3) B n D (by simp [Act.eval]) HO.out (by have := HN.out; unfold maxLen; omega) (.int .i32 x) (.int .i64 1) _ (by simp [Act.eval]) (by simp [Act.eval]) HK.out (lit64 1) [] (plainElem_int Try.underlying3 (by decide)) ?_; intro w6 o6 g6; have H6 := Lib.hid (SS.out _ _ _ _ HN.out HB.out HBL.out HA.out o6 g6); clear o6 g6))
          go_roundg (gk - 1)
          case measure => omega
          case rel => exact ⟨k + 1, by omega, by simp; omega, H6⟩
        · obtain ⟨D, n, hn, hown, hB, hbel, hat⟩ := H4.out
          have H5X := Lib.hid hbel
          clear hat hown hn hB H4
          go_upto_region 16 with (fail)
          have H0 := Lib.hid (Lies.start wo2)
          go_wp2_with fail
          refine (des_lit 0 0 0 0 0 0 (-1) 66 0 0 0 0 0 0 false (by rfl) _).mono ?_
          rintro e w1 ⟨rfl, hb⟩
          have H1 := Lib.hid (H0.out.on_new hb)
          clear hb H0
          obtain ⟨⟨cz1, cz2, cz3, cz4, cz5, cz6⟩, fz1, fz2, fz3, fz4, fz5, fz6⟩ := H1.out.get 0 rfl
          have lz := (H1.out.at 0 rfl).2.1
          go_wp2_with fail
          refine (one_lit 0 0 0 0 0 0 4 0 0 0 0 0 0 false (by rfl) _).mono ?_
          rintro e w2 ⟨rfl, hb⟩
          have H2 := Lib.hid (H1.out.on_new hb)
          clear cz1 cz2 cz3 cz4 cz5 cz6 fz1 fz2 fz3 fz4 fz5 fz6 lz
          clear hb H1
          go_wp2_with fail
          refine (works_any _).mono ?_
          rintro e w3 ⟨rfl, hb⟩
          have H3 := Lib.hid (H2.out.on_new hb)
          clear hb H2
          go_wp2_with fail
          refine (of_lit 1 95 32 (by decide) _).mono ?_
          rintro e w4 ⟨rfl, hb⟩
          have H4 := Lib.hid (H3.out.on hb)
          clear hb H3
          go_wp2_with fail
          refine (of_lit 1 94 94 (by decide) _).mono ?_
          rintro e w5 ⟨rfl, hb⟩
          have H5 := Lib.hid (H4.out.on hb)
          clear hb H4
          go_wp2_with fail
          refine (of_lit 1 127 127 (by decide) _).mono ?_
          rintro e w6 ⟨rfl, hb⟩
          have H6 := Lib.hid (H5.out.on hb)
          clear hb H5
          go_wp2_with fail
          refine (of_lit 2 36 36 (by decide) _).mono ?_
          rintro e w7 ⟨rfl, hb⟩
          have H7 := Lib.hid (H6.out.on hb)
          clear hb H6
          go_wp2_with fail
          refine (of_lit 3 35 35 (by decide) _).mono ?_
          rintro e w8 ⟨rfl, hb⟩
          have H8 := Lib.hid (H7.out.on hb)
          clear hb H7
          go_wp2_with fail
          refine (of_lit (-1) 113 113 (by decide) _).mono ?_
          rintro e w9 ⟨rfl, hb⟩
          have H9 := Lib.hid (H8.out.on hb)
          clear hb H8
          have hq := fun w => eqVal Ch.zero Ch.zero w
          rw [show eqC Ch.zero Ch.zero = true from rfl] at hq
          have hq2 := fun w => eqSets Ch.zero Ch.zero w
          obtain ⟨⟨cz1, cz2, cz3, cz4, cz5, cz6⟩, fz1, fz2, fz3, fz4, fz5, fz6⟩ := H9.out.get 2 rfl
          obtain ⟨⟨ca1, ca2, ca3, ca4, ca5, ca6⟩, fa1, fa2, fa3, fa4, fa5, fa6⟩ := H9.out.get 1 rfl
          obtain ⟨⟨cc1, cc2, cc3, cc4, cc5, cc6⟩, fc1, fc2, fc3, fc4, fc5, fc6⟩ := H9.out.get 0 rfl
          go_wp2_with fail
          refine (sets_lit 0 0 0 0 0 0 _).mono ?_
          rintro e w10 ⟨rfl, hb⟩
          have H10 := Lib.hid (H9.out.on hb)
          clear cz1 cz2 cz3 cz4 cz5 cz6 fz1 fz2 fz3 fz4 fz5 fz6
          clear ca1 ca2 ca3 ca4 ca5 ca6 fa1 fa2 fa3 fa4 fa5 fa6
          clear cc1 cc2 cc3 cc4 cc5 cc6 fc1 fc2 fc3 fc4 fc5 fc6
          clear hb H9
          skip
          go_wp2_with fail
          refine (of_lit 1 102 176 (by decide) _).mono ?_
          rintro e w11 ⟨rfl, hb⟩
          have H11 := Lib.hid (H10.out.on hb)
          clear hb H10
          go_wp2_with fail
          refine (of_lit 1 123 960 (by decide) _).mono ?_
          rintro e w12 ⟨rfl, hb⟩
          have H12 := Lib.hid (H11.out.on hb)
          clear hb H11
          go_wp2
          go_ret
          exact ⟨rfl, bstep H5X.out H12.out.1⟩
end Go.Proofs.Ytdphccjeikiciaa.Lab
