/- The reference's Resize. -/
import Derived.Test.YtmfbknmcmopjnaaTbRq
set_option linter.unusedVariables false
namespace Go.Proofs.Ytmfbknmcmopjnaa.Lab
open Go Go.RowKit Go.Shelf

theorem wpList_append_bool1 {ops : Array Oper} {rest : List Oper} {o : Oper} {a : Act} {w : World} {Q : Exit → Act → World → Prop} (hgd : o.guard = none) (s x : Operand)
    (hop : o.op = Op.call { callee := Callee.builtin Builtin.append, args := #[s, x], argTypes := #[31, 31] })
    (base : Nat) (v : Value) (n : Nat) (l : List Bool) (hs : a.eval s = v) (hown : w.ownsRow base 4 1 v n (bVs l))
    (q : Nat) (u : Bool) (hx : a.eval x = .slice (some ⟨q, 0, none⟩) 1 1) (hr : w.cell? ⟨q, 0, none⟩ = some (.bool u)) (hnr : n ≤ 100000) (hb : base ≤ w.heap.size)
    (hK : ∀ v' w', w'.ownsRow base 4 1 v' (n + 1) (bVs (l ++ [u])) → w.grownBy w' v.ownBlock → wpList Try.prog ops Q rest (a.put o.dst v') w') :
    wpList Try.prog ops Q (o :: rest) a w :=
  wpList_plain hgd fun _ hK' => wp_append_bool s x hop base v n l hs hown q u hx hr hnr hb fun v' w' h1 h2 => hK' _ _ (hK v' w' h1 h2)
abbrev resF (L : List Bool) (i : Nat) : Bool := if i < L.length then L.getD i false else firstB i
theorem resL_succ (L : List Bool) (k : Nat) : resL L (k + 1) = resL L k ++ [resF L k] := by
  unfold resL
  rw [List.range_succ, List.map_append]
  rfl
theorem len_resL' (L : List Bool) (k : Nat) : (resL L k).length = k := by simp [resL]
set_option maxHeartbeats 4000000 in
set_option maxRecDepth 100000 in
theorem rres_any (v : Value) (t : Tb) (c : Int) (w : World) (h : BIn w v t.L) (hl : t.L.length ≤ 512) : Calls Try.prog 41 #[rV v t, .int .i64 c] w (RAns w (t.res c)) := by
  obtain ⟨va, vc, rfl⟩ := h.shape
  obtain ⟨L, hL⟩ : ∃ L, L = t.L := ⟨_, rfl⟩
  obtain ⟨m, hm⟩ : ∃ m, m = szN c := ⟨_, rfl⟩
  have HE := Lib.hid (show t.res c = ⟨resL L m, t.b, t.l⟩ by rw [hL, hm]; rfl)
  have HW := Lib.hid (fun w => show Calls Try.prog 35 #[.int .i64 c] w fun e w' => e = .returned (.int .i64 (m : Nat)) ∧ w = w' by rw [hm]; exact size_any c w)
  have HM := Lib.hid (show m ≤ 512 by rw [hm]; exact szN_le c)
  rw [HE.out]
  rw [← hL] at h hl ⊢
  clear hL hm HE
  obtain ⟨n, hn⟩ : ∃ n, n = L.length := ⟨_, rfl⟩
  rw [← hn] at h hl ⊢
  have HI := Lib.hid h
  have HN := Lib.hid hn
  have HL := Lib.hid hl
  clear h hn hl
  obtain ⟨b, hb⟩ : ∃ b, b = w.heap.size := ⟨_, rfl⟩
  obtain ⟨w1, hw1⟩ : ∃ x, x = (w.alloc (.cells #[.slice va n vc, .int .u8 (t.l : Nat), .int .u8 (t.b : Nat)] RT)).alloc (.cells #[.slice none 0 0, .int .u8 0, .int .u8 0] RT) := ⟨_, rfl⟩
  have HB1 := Lib.hid (show Below w.heap.size w w1 by rw [hw1]; exact two_allocs w _ _)
  have HB0 := Lib.hid (show w1.heap[b]? = some (.cells #[.slice va n vc, .int .u8 (t.l : Nat), .int .u8 (t.b : Nat)] RT (0, 0)) by
    rw [hw1, Below.heap_alloc _ _ _ (by rw [hb]; simp), hb]
    exact World.alloc_heap_new w _)
  have HR0 := Lib.hid (show w1.heap[b + 1]? = some (.cells #[.slice none 0 0, .int .u8 0, .int .u8 0] RT (0, 0)) by
    have := World.alloc_heap_new (w.alloc (.cells #[.slice va n vc, .int .u8 (t.l : Nat), .int .u8 (t.b : Nat)] RT)) (.cells #[.slice none 0 0, .int .u8 0, .int .u8 0] RT)
    rw [World.size_alloc, ← hw1, ← hb] at this
    exact this)
  have HBE := Lib.hid hb
  go_enter Try.func41, Try.ntmps41
  go_wp2
  rw [← hw1, ← hb]
  clear hw1 hb
  go_loopw [5, 6] (fun u i wr => ∃ k : Nat, k ≤ m ∧ i = .int .i64 (k : Nat) ∧ Hid (wr.ownsRow w1.heap.size 4 1 u k (bVs (resL L k))) ∧ Hid (Below w1.heap.size w1 wr)) (fun _ i wr => 600 - (intOf i).toNat)
  case atStart => exact ⟨0, Nat.zero_le _, rfl, Lib.hid ⟨rfl, .inl ⟨rfl, rfl⟩⟩, Lib.hid (Below.refl _ _)⟩
  case round =>
    rename_i u i
    obtain ⟨k, hk, rfl, HO, HB⟩ := hrel
    have HD := Lib.hid ((HB.out.block b (Array.getElem?_eq_some_iff.1 HB0.out).1).trans HB0.out)
    have HR := Lib.hid ((HB.out.block (b + 1) (Array.getElem?_eq_some_iff.1 HR0.out).1).trans HR0.out)
    have hmm := HM.out
    obtain ⟨ua, uc, hu⟩ := own_shape HO.out
    subst hu
    by_cases hlt : k < m
    · have u1 : IntKind.i64.wrap ((k : Int) + 1) = ((k + 1 : Nat) : Int) := by rw [IntKind.wrap_i64]; omega
      have hs := resL_succ L k
      obtain ⟨x, hx⟩ : ∃ x, x = resF L k := ⟨_, rfl⟩
      have HZ := Lib.hid (show resL L (k + 1) = resL L k ++ [x] by rw [hs, hx])
      have hx' := hx
      unfold resF at hx'
      obtain ⟨c0, c1, c2, f0, f1, f2⟩ := cells3 HD.out
      obtain ⟨q, hq⟩ : ∃ q, q = wr.heap.size := ⟨_, rfl⟩
      obtain ⟨we, hwe⟩ : ∃ X, X = wr.alloc (.cells #[.bool x] 4) := ⟨_, rfl⟩
      have HBX := Lib.hid (show Below wr.heap.size wr we by rw [hwe]; exact (Below.refl _ _).alloc (Nat.le_refl _) _)
      have HQ := Lib.hid (show we.cell? ⟨q, 0, none⟩ = some (.bool x) by rw [hwe, hq]; simp)
      clear hs hx
      by_cases hkn : k < n
      · have hkL : k < L.length := by rw [← HN.out]; exact hkn
        rw [if_pos hkL] at hx'
        obtain ⟨g, o, hva, hc⟩ := ((HI.out.below HB1.out).below HB.out).get hkL
        rw [← hx'] at hc
        subst hva
        clear hkL hx'
        go_wp2_with fail
        refine (HW.out _).mono ?_
        rintro e w' ⟨rfl, rfl⟩
        go_wp2_with (at_builtin; rw [← hwe, ← hq]; clear hwe hq; refine wpList_append_bool1 rfl (.tmp 18) (.tmp 24) rfl w1.heap.size (.slice ua k uc) k (resL L k) rfl (own_below HO.out HBX.out) q x rfl HQ.out (by omega) (Nat.le_trans HB.out.size HBX.out.size) ?_)
        intro v9 w9 ow9 gr9
        have HO9 := Lib.hid ow9
        have HW9 := Lib.hid (show Below w1.heap.size w1 w9 from (HB.out.trans (HBX.out.mono HB.out.size)).grown gr9 (Nat.le_trans HB.out.size HBX.out.size) (fun j hj => (World.ownsRow.lt HO.out j hj).1))
        clear ow9 gr9 c0 c1 c2 f0 f1 f2 hc
        go_wp2
        go_roundw
        case rel =>
          refine ⟨k + 1, hlt, by go_num, Lib.hid ?_, HW9⟩
          rw [HZ.out]
          first
          | exact HO9.out
          | (rw [show bVs (resL L k ++ [x]) = List.map bV (resL L k) ++ [bV x] by simp]; exact HO9.out)
        case measure => simp only [intOf]; omega
      · rw [if_neg (by rw [← HN.out]; exact hkn)] at hx'
        go_wp2_with fail
        refine (HW.out _).mono ?_
        rintro e w' ⟨rfl, rfl⟩
        go_wp2_with fail
        refine (first_any k _).mono ?_
        rintro e w' ⟨rfl, rfl⟩
        rw [← hx']
        clear hx'
        go_wp2_with (at_builtin; rw [← hwe, ← hq]; clear hwe hq; refine wpList_append_bool1 rfl (.tmp 26) (.tmp 29) rfl w1.heap.size (.slice ua k uc) k (resL L k) rfl (own_below HO.out HBX.out) q x rfl HQ.out (by omega) (Nat.le_trans HB.out.size HBX.out.size) ?_)
        intro v9 w9 ow9 gr9
        have HO9 := Lib.hid ow9
        have HW9 := Lib.hid (show Below w1.heap.size w1 w9 from (HB.out.trans (HBX.out.mono HB.out.size)).grown gr9 (Nat.le_trans HB.out.size HBX.out.size) (fun j hj => (World.ownsRow.lt HO.out j hj).1))
        clear ow9 gr9 c0 c1 c2 f0 f1 f2
        go_wp2
        go_roundw
        case rel =>
          refine ⟨k + 1, hlt, by go_num, Lib.hid ?_, HW9⟩
          rw [HZ.out]
          first
          | exact HO9.out
          | (rw [show bVs (resL L k ++ [x]) = List.map bV (resL L k) ++ [bV x] by simp]; exact HO9.out)
        case measure => simp only [intOf]; omega
    · have HKM := Lib.hid (show k = m by omega)
      have HBW := Lib.hid (HB1.out.trans (HB.out.mono HB1.out.size))
      obtain ⟨w4, hw4⟩ : ∃ x, x = wr.setCell ⟨b, 0, none⟩ (.slice ua k uc) := ⟨_, rfl⟩
      have a0 := heap_setCell_same wr b 0 _ _ (.slice ua k uc) HD.out
      have hbt : But b wr w4 := by rw [hw4]; exact But.set wr b 0 _
      have HO4 := Lib.hid (show w4.ownsRow w1.heap.size 4 1 (.slice ua k uc) k (bVs (resL L k)) by rw [hw4]; exact own_set HO.out HD.out)
      rw [← hw4] at a0
      have HD4 := Lib.hid (show w4.heap[b]? = some (.cells #[.slice ua k uc, .int .u8 (t.l : Nat), .int .u8 (t.b : Nat)] RT (0, 0)) from a0)
      have HR4 := Lib.hid ((hbt.block (b + 1) (Array.getElem?_eq_some_iff.1 HR.out).1 (by simp)).trans HR.out)
      have HB4 := Lib.hid (HBW.out.trans (hbt.below (C := w.heap.size) (by rw [HBE.out]; exact Nat.le_refl _) HBW.out.size))
      clear a0 hbt
      obtain ⟨c0, c1, c2, f0, f1, f2⟩ := cells3 HD.out
      go_wp2_with fail
      refine (HW.out _).mono ?_
      rintro e w' ⟨rfl, rfl⟩
      go_upto_region 9 with (fail)
      rw [← hw4]
      clear hw4 c0 c1 c2 f0 f1 f2
      obtain ⟨d0, d1, d2, _⟩ := cells3 HD4.out
      obtain ⟨e0, e1, e2, f0, f1, f2⟩ := cells3 HR4.out
      obtain ⟨wz, hwz⟩ : ∃ x, x = ((w4.setCell ⟨b + 1, 0, none⟩ (.slice ua k uc)).setCell ⟨b + 1, 1, none⟩ (.int .u8 (t.l : Nat))).setCell ⟨b + 1, 2, none⟩ (.int .u8 (t.b : Nat)) := ⟨_, rfl⟩
      have HF := Lib.hid (fin3 HR4.out HO4.out HB4.out (by rw [HBE.out]; omega) hwz)
      go_wp2
      rw [← hwz]
      clear hwz d0 d1 d2 e0 e1 e2 f0 f1 f2
      obtain ⟨k0, k1, k2, _⟩ := cells3 HF.out.1
      refine bodyPost_ret (v := rV (.slice ua k uc) ⟨resL L m, t.b, t.l⟩) (by simp [results, Try.results41, go_sem, k0, k1, k2]) rfl ⟨_, rfl, ?_, HF.out.2.1⟩
      have := HF.out.2.2
      show BIn wz (.slice ua k uc) (resL L m)
      rw [← HKM.out]
      exact bIn_own (L := resL L k) (by rw [len_resL']; exact this)
end Go.Proofs.Ytmfbknmcmopjnaa.Lab
