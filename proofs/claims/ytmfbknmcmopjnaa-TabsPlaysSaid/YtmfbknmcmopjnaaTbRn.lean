/- The reference's New. -/
import Derived.Test.YtmfbknmcmopjnaaTbRef
set_option linter.unusedVariables false
namespace Go.Proofs.Ytmfbknmcmopjnaa.Lab
open Go Go.RowKit Go.Shelf

abbrev RT : TypeId := 33
theorem wp_append_bool {o : Oper} {a : Act} {w : World} {K : Act → World → Prop} {Q : Exit → Act → World → Prop} (s x : Operand)
    (hop : o.op = Op.call { callee := Callee.builtin Builtin.append, args := #[s, x], argTypes := #[31, 31] })
    (base : Nat) (v : Value) (n : Nat) (l : List Bool) (hs : a.eval s = v) (hown : w.ownsRow base 4 1 v n (bVs l))
    (q : Nat) (u : Bool) (hx : a.eval x = .slice (some ⟨q, 0, none⟩) 1 1) (hr : w.cell? ⟨q, 0, none⟩ = some (.bool u)) (hnr : n ≤ 100000) (hb : base ≤ w.heap.size)
    (hK : ∀ v' w', w'.ownsRow base 4 1 v' (n + 1) (bVs (l ++ [u])) → w.grownBy w' v.ownBlock → K (a.put o.dst v') w') :
    Oper.wp Try.prog o a w K Q := by
  obtain ⟨ib, hi, hz0, hz1, hz2⟩ := info_parts infoBool
  refine wp_append_own w s x 31 hop base 4 ib (.bool false) 1 1 Try.underlying31 hi hz0 hz1 hz2 rfl (by decide) v n (bVs l) hs hown ⟨q, 0, none⟩ 1 1 [.bool u] hx rfl (fun j y hj => ?_) (fun y hy => by rw [List.mem_singleton.1 hy]; rfl) (by unfold maxLen; omega) (by omega) hb (fun v' w' h1 h2 _ => hK v' w' (by have h1' := h1; simpa [bVs] using h1') h2)
  have : j < 1 := (List.getElem?_eq_some_iff.1 hj).1
  obtain rfl : j = 0 := by omega
  obtain rfl : Value.bool u = y := by simpa using hj
  exact hr
/-- A reference's columns behind a block c of the call's own, its result's block b. -/
def NSt (w wr : World) (b c : Nat) (l bs : Nat) (L : List Bool) : Prop :=
  ∃ cv, wr.heap[b]? = some (.cells #[.slice none 0 0, .int .u8 0, .int .u8 0] RT (0, 0)) ∧ wr.heap[c]? = some (.cells #[cv, .int .u8 (l : Nat), .int .u8 (bs : Nat)] RT (0, 0)) ∧ wr.ownsRow w.heap.size 4 1 cv L.length (bVs L) ∧ Below w.heap.size w wr
theorem own_ne {w : World} {lo n g : Nat} {v : Value} {xs : List Value} {cs : Array Value} (h : w.ownsRow lo 4 1 v n xs) (hg : w.heap[g]? = some (.cells cs RT (0, 0))) (hb : v.ownBlock = some g) : False := by
  obtain ⟨cu, hc⟩ := own_type h hb
  exact type_ne hg hc (by decide) rfl
theorem own_set {w : World} {lo n g k : Nat} {v u : Value} {xs : List Value} {cs : Array Value} (h : w.ownsRow lo 4 1 v n xs) (hg : w.heap[g]? = some (.cells cs RT (0, 0))) : (w.setCell ⟨g, k, none⟩ u).ownsRow lo 4 1 v n xs := by
  refine World.ownsRow.kept h (But.set w g k u) ?_
  cases hb : v.ownBlock with
  | none => exact .inl rfl
  | some b =>
    refine .inr fun e => ?_
    injection e with e
    subst e
    exact own_ne h hg hb
set_option maxHeartbeats 4000000 in
set_option maxRecDepth 100000 in
theorem rnew_any (c : Int) (bs : Nat) (w : World) : Calls Try.prog 11 #[.int .i64 c, .int .u8 (bs : Nat)] w (RAns w (newM c bs)) := by
  obtain ⟨n, hn⟩ : ∃ n, n = szN c := ⟨_, rfl⟩
  have HW := Lib.hid (fun w => show Calls Try.prog 35 #[.int .i64 c] w fun e w' => e = .returned (.int .i64 (n : Nat)) ∧ w = w' by rw [hn]; exact size_any c w)
  have HN := Lib.hid (show n ≤ 512 by rw [hn]; exact szN_le c)
  have HE := Lib.hid (show newM c bs = ⟨(List.range n).map firstB, bs, bs⟩ by rw [hn]; rfl)
  rw [HE.out]
  clear hn HE
  obtain ⟨b, hb⟩ : ∃ b, b = w.heap.size := ⟨_, rfl⟩
  obtain ⟨w2, hw2⟩ : ∃ x, x = (w.alloc (.cells #[.slice none 0 0, .int .u8 0, .int .u8 0] RT)).alloc (.cells #[.slice none 0 0, .int .u8 (bs : Nat), .int .u8 (bs : Nat)] RT) := ⟨_, rfl⟩
  have HB2 := Lib.hid (show Below w.heap.size w w2 by rw [hw2]; exact two_allocs w _ _)
  have HS := Lib.hid (show b = w.heap.size ∧ w2.heap.size = b + 2 from ⟨hb, by rw [hw2, hb]; simp⟩)
  have HZ := Lib.hid (show NSt w w2 b (b + 1) bs bs ((List.range 0).map firstB) by
    refine ⟨.slice none 0 0, ?_, ?_, ?_, HB2.out⟩
    · rw [hw2, Below.heap_alloc _ _ _ (by rw [hb]; simp), hb]
      exact World.alloc_heap_new w _
    · have := World.alloc_heap_new (w.alloc (.cells #[.slice none 0 0, .int .u8 0, .int .u8 0] RT)) (.cells #[.slice none 0 0, .int .u8 (bs : Nat), .int .u8 (bs : Nat)] RT)
      rw [World.size_alloc, ← hw2, ← hb] at this
      exact this
    · exact ⟨rfl, .inl ⟨rfl, rfl⟩⟩)
  go_enter Try.func11, Try.ntmps11
  go_wp2_with fail
  rw [← hw2, ← hb]
  clear hw2 hb
  go_loopw [6] (fun v wr => ∃ k : Nat, v = .int .i64 (k : Nat) ∧ Hid (k ≤ n) ∧ Hid (NSt w wr b (b + 1) bs bs ((List.range k).map firstB))) (fun v wr => 600 - (intOf v).toNat)
  case atStart => exact ⟨0, rfl, Lib.hid (Nat.zero_le _), HZ⟩
  case round =>
    obtain ⟨k, rfl, HK, HP⟩ := hrel
    clear HZ HB2
    obtain ⟨L, hL⟩ : ∃ L, L = (List.range k).map firstB := ⟨_, rfl⟩
    have HLE := Lib.hid hL
    have HLK := Lib.hid (show L.length = k by rw [hL]; simp)
    rw [← hL] at HP
    clear hL
    obtain ⟨cv, p1, p2, p3, p4⟩ := HP.out
    rw [HLK.out] at p3
    obtain ⟨ca, cc, ecv⟩ := own_shape p3
    subst ecv
    have HB1 := Lib.hid p1
    have HC1 := Lib.hid p2
    have HOW := Lib.hid p3
    have HBW := Lib.hid p4
    have c0 : wr.cell? ⟨b + 1, 0, none⟩ = some (.slice ca k cc) := by rw [cell_of_row wr (b + 1) 0 _ _ _ p2]; simp
    have HSZ := Lib.hid (show b + 1 < wr.heap.size from (Array.getElem?_eq_some_iff.1 p2).1)
    clear p1 p2 p3 p4
    by_cases hlt : k < n
    · have HLT := Lib.hid hlt
      have u1 : IntKind.i64.wrap ((k : Int) + 1) = ((k + 1 : Nat) : Int) := by rw [IntKind.wrap_i64]; have := HN.out; omega
      have KEEP := Lib.hid (show ∀ W', Below wr.heap.size wr W' → (fun wx => wx.cell? ⟨b + 1, 0, none⟩ = some (.slice ca k cc)) W' from fun W' kb => (kb.cell (World.block_lt_of_cell? wr _ c0)).trans c0)
      go_wp2_with fail
      refine (HW.out _).mono ?_
      rintro e w' ⟨rfl, rfl⟩
      go_upto_region 5 with (fail)
      clear c0
      refine region_but (S := (fun wx => wx.cell? ⟨b + 1, 0, none⟩ = some (.slice ca k cc))) 7 (by kernel_rfl) (KEEP.out _ ((Below.refl _ _).drew)) (fun hHeld => ?_)
      obtain ⟨wd, hwd⟩ : ∃ X, X = wr.drew := ⟨_, rfl⟩
      have HX := Lib.hid (show Below wr.heap.size wr wd by rw [hwd]; exact (Below.refl _ _).drew)
      replace hHeld := KEEP.out _ HX.out
      rw [← hwd]
      clear hwd
      refine ti 0 rfl (fun w hSw => by (try dsimp only at hSw); go_simp; try with_reducible rfl) ?_
      go_frame
      refine ti 1 rfl (fun w hSw => by (try dsimp only at hSw); go_simp; try with_reducible rfl) ?_
      go_frame
      refine ti 2 rfl (fun w hSw => by (try dsimp only at hSw); go_simp; try with_reducible rfl) ?_
      go_frame
      refine th 3 rfl (by kernel_rfl) (by decide) (by kernel_rfl) (fun K hK => ?_)
      go_simp
      refine (first_any k _).mono ?_
      rintro e w3 ⟨rfl, rfl⟩
      go_wp2_with fail
      refine hK.out _ _ (KEEP.out _ HX.out) (fun hHeld => ?_)
      clear hK K
      try go_frame
      obtain ⟨q, hq⟩ : ∃ q, q = wd.heap.size := ⟨_, rfl⟩
      obtain ⟨we, hwe⟩ : ∃ X, X = wd.alloc (.cells #[.bool (firstB k)] 4) := ⟨_, rfl⟩
      have HBE1 := Lib.hid (show Below wd.heap.size wd we by rw [hwe]; exact (Below.refl _ _).alloc (Nat.le_refl _) _)
      have HQ := Lib.hid (show we.cell? ⟨q, 0, none⟩ = some (.bool (firstB k)) by rw [hwe, hq]; simp)
      replace HX := Lib.hid (HX.out.trans (HBE1.out.mono HX.out.size))
      refine th 4 rfl (by kernel_rfl) (by decide) (by kernel_rfl) (fun K hK => ?_)
      go_simp
      rw [← hwe, ← hq]
      clear hwe hq
      refine hK.out _ _ (KEEP.out _ HX.out) (fun hHeld => ?_)
      clear hK K
      try go_frame
      refine th 5 rfl (by kernel_rfl) (by decide) (by kernel_rfl) (fun K hK => ?_)
      refine wp_append_bool (.tmp 17) (.tmp 20) rfl w.heap.size (.slice ca k cc) k L rfl (own_below HOW.out HX.out) q (firstB k) rfl HQ.out (by have := HN.out; have := HLT.out; omega) (Nat.le_trans HBW.out.size HX.out.size) ?_
      intro v9 w9 ow9 gr9
      obtain ⟨a9, c9, e9⟩ := own_shape ow9
      subst e9
      have HO9 := Lib.hid ow9
      have HG := Lib.hid (show ∀ g cs, we.heap[g]? = some (.cells cs RT (0, 0)) → w9.heap[g]? = some (.cells cs RT (0, 0)) from fun g cs hg => (gr9.block g (Array.getElem?_eq_some_iff.1 hg).1 (fun e => own_ne (own_below HOW.out HX.out) hg e.symm)).trans hg)
      have HC9 := Lib.hid (HG.out _ _ ((HX.out.block (b + 1) HSZ.out).trans HC1.out))
      have HB9 := Lib.hid (HG.out _ _ ((HX.out.block b (by have := HSZ.out; omega)).trans HB1.out))
      have HW9 := Lib.hid (show Below w.heap.size w w9 from (HBW.out.trans (HX.out.mono HBW.out.size)).grown gr9 (Nat.le_trans HBW.out.size HX.out.size) (fun j hj => (World.ownsRow.lt HOW.out j hj).1))
      clear ow9 gr9
      refine hK.out _ _ ?_ (fun hHeld => ?_)
      · show w9.cell? ⟨b + 1, 0, none⟩ = _
        rw [cell_of_row w9 (b + 1) 0 _ _ _ HC9.out]
        simp
      clear hK K
      try go_frame
      refine ti 6 rfl (fun w hSw => by (try dsimp only at hSw); go_simp; try with_reducible rfl) ?_
      go_frame
      obtain ⟨wA, hwA⟩ : ∃ X, X = w9.setCell ⟨b + 1, 0, none⟩ (.slice a9 (k + 1) c9) := ⟨_, rfl⟩
      have HWA := Lib.hid hwA
      have hc9 : w9.cell? ⟨b + 1, 0, none⟩ = some (.slice ca k cc) := by rw [cell_of_row w9 (b + 1) 0 _ _ _ HC9.out]; simp
      have hf9 : w9.frozen? ⟨b + 1, 0, none⟩ = false := frozen_of_row w9 (b + 1) 0 _ _ HC9.out
      refine tx rfl (by kernel_rfl) (by kernel_rfl) (by kernel_rfl) (fun K hK => ?_)
      go_simp
      rw [← hwA]
      refine hK.out _ _ ?_
      clear hK K hwA hc9 hf9 hHeld KEEP
      try go_frame
      go_wp2
      go_roundw
      case rel =>
        refine ⟨k + 1, by go_num, Lib.hid HLT.out, Lib.hid ?_⟩
        have kb := But.set w9 (b + 1) 0 (.slice a9 (k + 1) c9)
        have hs := heap_setCell_same w9 (b + 1) 0 _ _ (.slice a9 (k + 1) c9) HC9.out
        have e : (List.range (k + 1)).map firstB = L ++ [firstB k] := by rw [List.range_succ, List.map_append, HLE.out]; rfl
        rw [HWA.out, e]
        refine ⟨_, (kb.block b (Array.getElem?_eq_some_iff.1 HB9.out).1 (by simp)).trans HB9.out, hs, ?_, HW9.out.trans (kb.below (C := w.heap.size) (by have := HS.out; omega) HW9.out.size)⟩
        rw [List.length_append, HLK.out]
        exact own_set HO9.out HC9.out
      case measure => simp only [intOf]; have := HN.out; have := HLT.out; omega
    · have hkn : k = n := by have := HK.out; omega
      have c1 : wr.cell? ⟨b + 1, 1, none⟩ = some (.int .u8 (bs : Nat)) := by rw [cell_of_row wr (b + 1) 1 _ _ _ HC1.out]; simp
      have c2 : wr.cell? ⟨b + 1, 2, none⟩ = some (.int .u8 (bs : Nat)) := by rw [cell_of_row wr (b + 1) 2 _ _ _ HC1.out]; simp
      have e0 : wr.cell? ⟨b, 0, none⟩ = some (.slice none 0 0) := by rw [cell_of_row wr b 0 _ _ _ HB1.out]; simp
      have e1 : wr.cell? ⟨b, 1, none⟩ = some (.int .u8 0) := by rw [cell_of_row wr b 1 _ _ _ HB1.out]; simp
      have e2 : wr.cell? ⟨b, 2, none⟩ = some (.int .u8 0) := by rw [cell_of_row wr b 2 _ _ _ HB1.out]; simp
      have f0 := frozen_of_row wr b 0 _ _ HB1.out
      have f1 := frozen_of_row wr b 1 _ _ HB1.out
      have f2 := frozen_of_row wr b 2 _ _ HB1.out
      have HKN := Lib.hid hkn
      obtain ⟨wz, hwz⟩ : ∃ x, x = ((wr.setCell ⟨b, 0, none⟩ (.slice ca k cc)).setCell ⟨b, 1, none⟩ (.int .u8 (bs : Nat))).setCell ⟨b, 2, none⟩ (.int .u8 (bs : Nat)) := ⟨_, rfl⟩
      have a0 := heap_setCell_same wr b 0 _ _ (.slice ca k cc) HB1.out
      have a1 := heap_setCell_same _ b 1 _ _ (.int .u8 (bs : Nat)) a0
      have a2 := heap_setCell_same _ b 2 _ _ (.int .u8 (bs : Nat)) a1
      rw [← hwz] at a2
      have hbt : But b wr wz := by rw [hwz]; exact ((But.set wr b 0 _).trans (But.set _ b 1 _)).trans (But.set _ b 2 _)
      have k0 : wz.cell? ⟨b, 0, none⟩ = some (.slice ca k cc) := by rw [cell_of_row wz b 0 _ _ _ a2]; simp
      have k1 : wz.cell? ⟨b, 1, none⟩ = some (.int .u8 (bs : Nat)) := by rw [cell_of_row wz b 1 _ _ _ a2]; simp
      have k2 : wz.cell? ⟨b, 2, none⟩ = some (.int .u8 (bs : Nat)) := by rw [cell_of_row wz b 2 _ _ _ a2]; simp
      have HBZ := Lib.hid (show Below w.heap.size w wz from HBW.out.trans (hbt.below (C := w.heap.size) (by have := HS.out; omega) HBW.out.size))
      have HOZ := Lib.hid (show wz.ownsRow w.heap.size 4 1 (.slice ca k cc) k (bVs L) from by
        rw [hwz]
        exact own_set (own_set (own_set HOW.out HB1.out) a0) a1)
      have HKK := Lib.hid (And.intro k0 (And.intro k1 k2))
      clear a0 a1 a2 hbt k0 k1 k2 hkn
      go_wp2_with fail
      refine (HW.out _).mono ?_
      rintro e w' ⟨rfl, rfl⟩
      go_wp2
      rw [← hwz]
      clear hwz
      obtain ⟨k0, k1, k2⟩ := HKK.out
      refine bodyPost_ret (v := rV (.slice ca k cc) ⟨(List.range n).map firstB, bs, bs⟩) (by simp [results, Try.results11, go_sem, k0, k1, k2]) rfl ⟨_, rfl, ?_, HBZ.out⟩
      show BIn wz (.slice ca k cc) ((List.range n).map firstB)
      rw [← HKN.out, ← HLE.out]
      have := HOZ.out
      rw [← HLK.out] at this ⊢
      exact bIn_own this
end Go.Proofs.Ytmfbknmcmopjnaa.Lab
