/- The reference's put, Set, Clear. -/
import Derived.Test.YtmfbknmcmopjnaaTbRo
import Derived.Test.YtmfbknmcmopjnaaTbInts
set_option linter.unusedVariables false
namespace Go.Proofs.Ytmfbknmcmopjnaa.Lab
open Go Go.RowKit Go.Shelf

section
variable {P : Program}
theorem run_append_none_c {w : World} (base : Nat) (t ty e : TypeId) (i : TypeInfo) (size c : Nat) (ht : P.underlying t = some (.slice e)) (hi : P.info? e = some i)
    (v : Value) (n : Nat) (xs : List Value) (hown : w.ownsRow base e size v n xs) :
    (Builtin.append_ #[t, t] ty #[v, .slice none 0 c]).run P w = .ok v w := by
  rcases hown.2 with ⟨rfl, rfl⟩ | ⟨g, cap, cur, rfl, _, _, hnc, _⟩
  · simp [Builtin.append_, run_underlying ht, sizeOf, typeInfo, hi, Builtin.lenOf, Builtin.firstCells]
  · simp [Builtin.append_, run_underlying ht, sizeOf, typeInfo, hi, Builtin.lenOf, Builtin.firstCells, hnc, storeCells]
end
/-- Truths that lie anywhere, appended to truths of the call's own. -/
theorem wpList_append_bools {ops : Array Oper} {rest : List Oper} {o : Oper} {a : Act} {w : World} {Q : Exit → Act → World → Prop} (hgd : o.guard = none) (s x : Operand)
    (hop : o.op = Op.call { callee := Callee.builtin Builtin.append, args := #[s, x], argTypes := #[31, 31] })
    (base : Nat) (v : Value) (n : Nat) (us : List Value) (hs : a.eval s = v) (hown : w.ownsRow base 4 1 v n us)
    (u : Value) (H : List Bool) (hx : a.eval x = u) (hr : BIn w u H) (hnr : n + H.length ≤ 1000000) (hb : base ≤ w.heap.size)
    (hK : ∀ v' w', w'.ownsRow base 4 1 v' (n + H.length) (us ++ bVs H) → w.grownBy w' v.ownBlock → wpList Try.prog ops Q rest (a.put o.dst v') w') :
    wpList Try.prog ops Q (o :: rest) a w := by
  obtain ⟨ib, hi, hz0, hz1, hz2⟩ := info_parts infoBool
  obtain ⟨ua, uc, e, hh, _⟩ := hr
  subst e
  cases ua with
  | none =>
    have h0 : H = [] := by
      by_cases h : 0 < H.length
      · obtain ⟨_, _, e, _⟩ := hh h
        cases e
      · exact List.length_eq_zero_iff.1 (by omega)
    subst h0
    have hrun := run_append_none_c (P := Try.prog) (w := w) base 31 o.type 4 ib 1 uc Try.underlying31 hi v _ _ hown
    refine wpList_plain hgd fun _ hK' => ?_
    unfold Oper.wp
    simp only [List.length_nil] at hx
    simp [execOp, hop, resolve, invoke, builtin, hs, hx, hrun, Result.andThen]
    exact hK' _ _ (hK v w (by simpa using hown) ⟨rfl, rfl, rfl, Nat.le_refl _, fun _ _ _ => rfl⟩)
  | some ad =>
    refine wpList_append_own w hgd s x 31 hop base 4 ib (.bool false) 1 1 Try.underlying31 hi hz0 hz1 hz2 rfl (by decide) v n us hs hown ad H.length uc (bVs H) hx (by simp) (fun j y hj => ?_) (fun y hy => ?_) (by unfold maxLen; omega) (by omega) hb (fun v' w' h1 h2 _ => hK v' w' h1 h2)
    · have hjl : j < H.length := by
        have := (List.getElem?_eq_some_iff.1 hj).1
        simpa using this
      obtain ⟨g, o', e, _, hC⟩ := hh (by omega)
      obtain rfl := Option.some.inj e
      rw [Addr.add_mid, hC j hjl]
      simpa [bVs, hjl] using hj
    · obtain ⟨z, hz, rfl⟩ := List.mem_map.1 hy
      rfl
theorem NSt.drewN {w wr : World} {b c l bs : Nat} {L : List Bool} (h : NSt w wr b c l bs L) (q : Nat) : NSt w (wr.drewN q) b c l bs L := by
  obtain ⟨cv, p1, p2, p3, p4⟩ := h
  exact ⟨cv, p1, p2, p3, below_drewN p4 q⟩
theorem NSt.drew {w wr : World} {b c l bs : Nat} {L : List Bool} (h : NSt w wr b c l bs L) : NSt w wr.drew b c l bs L := by
  obtain ⟨cv, p1, p2, p3, p4⟩ := h
  exact ⟨cv, p1, p2, p3, p4.drew⟩
theorem NSt.grown {w wr w' : World} {b c l bs g ln cap : Nat} {L L' : List Bool} (h : NSt w wr b c l bs L) (ho : wr.ownsRow w.heap.size 4 1 (.slice (some ⟨g, 0, none⟩) ln cap) ln (bVs L)) (hc : wr.heap[c]? = some (.cells #[.slice (some ⟨g, 0, none⟩) ln cap, .int .u8 (l : Nat), .int .u8 (bs : Nat)] RT (0, 0))) (hl : L'.length = ln)
    (hg : wr.grownBy w' (some g)) (ho' : w'.ownsRow w.heap.size 4 1 (.slice (some ⟨g, 0, none⟩) ln cap) ln (bVs L')) : NSt w w' b c l bs L' := by
  obtain ⟨cv, p1, p2, p3, p4⟩ := h
  have ne : ∀ (r : Nat) (cs : Array Value), wr.heap[r]? = some (.cells cs RT (0, 0)) → w'.heap[r]? = some (.cells cs RT (0, 0)) := fun r cs hr => (hg.block r (Array.getElem?_eq_some_iff.1 hr).1 (fun e => own_ne ho hr (by rw [e]; rfl))).trans hr
  refine ⟨_, ne _ _ p1, ne _ _ hc, by rw [hl]; exact ho', p4.grown hg p4.size (fun j hj => (World.ownsRow.lt ho j (by rw [← hj]; rfl)).1)⟩
set_option maxHeartbeats 4000000 in
set_option maxRecDepth 100000 in
theorem rput_any (v : Value) (t : Tb) (l : Nat) (cv : Value) (cs : List Int) (x : Bool) (w : World) (h : BIn w v t.L) (hl : t.L.length ≤ 512) (hcs : IsIn w cv cs) (hcl : cs.length ≤ 1000) :
    Calls Try.prog 51 #[rV v t, .int .u8 (l : Nat), cv, .bool x] w (RAns w (t.put x l cs)) := by
  obtain ⟨va, vc, rfl⟩ := h.shape
  obtain ⟨ca, cc, rfl⟩ := hcs.shape
  obtain ⟨n, hn⟩ : ∃ n, n = t.L.length := ⟨_, rfl⟩
  obtain ⟨m, hm⟩ : ∃ m, m = cs.length := ⟨_, rfl⟩
  have HN := Lib.hid hn
  have HM := Lib.hid hm
  rw [← hn] at h hl ⊢
  rw [← hm] at hcs hcl ⊢
  have HI := Lib.hid h
  have HC := Lib.hid hcs
  have HL := Lib.hid hl
  have HCL := Lib.hid hcl
  obtain ⟨lm, hlm⟩ : ∃ x, x = max t.l l := ⟨_, rfl⟩
  have hmx : ∀ w, (Builtin.max_ #[26, 26] 26 #[.int .u8 (t.l : Nat), .int .u8 (l : Nat)]).run Try.prog w = .ok (.int .u8 (lm : Nat)) w := fun w => by
    rw [run_max_int2, hlm]
    congr 2
    split <;> omega
  have HLM := Lib.hid hlm
  clear h hcs hl hcl hn hm hlm
  obtain ⟨b, hb⟩ : ∃ b, b = w.heap.size := ⟨_, rfl⟩
  obtain ⟨w1, hw1⟩ : ∃ x, x = (w.alloc (.cells #[.slice va n vc, .int .u8 (t.l : Nat), .int .u8 (t.b : Nat)] RT)).alloc (.cells #[.slice none 0 0, .int .u8 0, .int .u8 0] RT) := ⟨_, rfl⟩
  have HB1 := Lib.hid (show Below w.heap.size w w1 by rw [hw1]; exact two_allocs w _ _)
  have HB0 := Lib.hid (show w1.heap[b]? = some (.cells #[.slice va n vc, .int .u8 (t.l : Nat), .int .u8 (t.b : Nat)] RT (0, 0)) by
    rw [hw1, Below.heap_alloc _ _ _ (by rw [hb]; simp), hb]
    exact World.alloc_heap_new w _)
  have HR0 := Lib.hid (show w1.heap[b + 1]? = some (.cells #[.slice none 0 0, .int .u8 0, .int .u8 0] RT (0, 0)) by
    have := World.alloc_heap_new (w.alloc (.cells #[.slice va n vc, .int .u8 (t.l : Nat), .int .u8 (t.b : Nat)] RT)) (.cells #[.slice none 0 0, .int .u8 0, .int .u8 0] RT)
    rw [World.size_alloc, ← hw1, ← hb] at this
    exact this)
  have HBE := Lib.hid hb
  obtain ⟨q, hq⟩ : ∃ q, q = w1.heap.size := ⟨_, rfl⟩
  obtain ⟨w2, hw2⟩ : ∃ x, x = w1.alloc (.cells #[] 4) := ⟨_, rfl⟩
  have HB2 := Lib.hid (show Below w1.heap.size w1 w2 by rw [hw2]; exact (Below.refl _ _).alloc (Nat.le_refl _) _)
  have HO2 := Lib.hid (show w2.ownsRow w.heap.size 4 1 (.slice (some ⟨q, 0, none⟩) 0 0) 0 [] by
    rw [hw2, hq]
    exact World.ownsRow_lit (e := 4) (size := 1) w1 #[] 0 HB1.out.size (Nat.zero_le _) rfl)
  go_enter Try.func51, Try.ntmps51
  go_upto_region 1 with (fail)
  rw [← hw1, ← hb]
  clear hw1 hb
  have d0 : w2.cell? ⟨b, 0, none⟩ = some (.slice va n vc) := by rw [cell_of_row w2 b 0 _ _ _ ((HB2.out.block b (Array.getElem?_eq_some_iff.1 HB0.out).1).trans HB0.out)]; simp
  have d1 : (w1.alloc (.cells #[] 4)).cell? ⟨b, 0, none⟩ = some (.slice va n vc) := by rw [← hw2]; exact d0
  have d2 : w1.cell? ⟨b, 0, none⟩ = some (.slice va n vc) := by rw [cell_of_row w1 b 0 _ _ _ HB0.out]; simp
  go_wp2_with (at_builtin; rw [← hw2, ← hq]; clear hw2 hq; refine wpList_append_bools rfl (.tmp 10) (.tmp 12) rfl w.heap.size (.slice (some ⟨q, 0, none⟩) 0 0) 0 [] rfl HO2.out (.slice va n vc) t.L rfl ((HI.out.below HB1.out).below HB2.out) (by have := HN.out; have := HL.out; omega) (Nat.le_trans HB1.out.size HB2.out.size) ?_)
  intro v3 w3 ow3 gr3
  clear d0 d1 d2
  rw [← HN.out] at ow3
  obtain ⟨a3, c3, e3⟩ := own_shape ow3
  subst e3
  have HO3 := Lib.hid (show w3.ownsRow w.heap.size 4 1 (.slice a3 n c3) n (bVs t.L) from ow3)
  have HG3 := Lib.hid (show ∀ g cs, w2.heap[g]? = some (.cells cs RT (0, 0)) → w3.heap[g]? = some (.cells cs RT (0, 0)) from fun g cs hg => (gr3.block g (Array.getElem?_eq_some_iff.1 hg).1 (fun e => own_ne HO2.out hg e.symm)).trans hg)
  have HD3 := Lib.hid (HG3.out _ _ ((HB2.out.block b (Array.getElem?_eq_some_iff.1 HB0.out).1).trans HB0.out))
  have HR3 := Lib.hid (HG3.out _ _ ((HB2.out.block (b + 1) (Array.getElem?_eq_some_iff.1 HR0.out).1).trans HR0.out))
  have HB3 := Lib.hid (show Below w.heap.size w w3 from (HB1.out.trans (HB2.out.mono HB1.out.size)).grown gr3 (Nat.le_trans HB1.out.size HB2.out.size) (fun j hj => (World.ownsRow.lt HO2.out j hj).1))
  clear ow3 gr3
  obtain ⟨c0, c1, c2, f0, f1, f2⟩ := cells3 HD3.out
  obtain ⟨w4, hw4⟩ : ∃ x, x = w3.setCell ⟨b, 0, none⟩ (.slice a3 n c3) := ⟨_, rfl⟩
  have HP0 := Lib.hid (show NSt w w4 (b + 1) b t.l t.b (putL x t.L (cs.take 0)) by
    have a0 := heap_setCell_same w3 b 0 _ _ (.slice a3 n c3) HD3.out
    have ho := own_set (k := 0) (u := .slice a3 n c3) HO3.out HD3.out
    rw [← hw4] at a0 ho
    have hbt : But b w3 w4 := by rw [hw4]; exact But.set w3 b 0 _
    refine ⟨_, (hbt.block (b + 1) (Array.getElem?_eq_some_iff.1 HR3.out).1 (by simp)).trans HR3.out, a0, ?_, HB3.out.trans (hbt.below (C := w.heap.size) (by rw [HBE.out]; exact Nat.le_refl _) HB3.out.size)⟩
    show w4.ownsRow w.heap.size 4 1 (.slice a3 n c3) t.L.length (bVs t.L)
    rw [← HN.out]
    exact ho)
  go_wp2
  rw [← hw4]
  clear hw4 c0 c1 c2 f0 f1 f2 HO3 HD3 HR3 HB3 HG3
  go_loopw [9] (fun v wr => ∃ k : Nat, v = .int .i64 (k : Nat) ∧ Hid (k ≤ m) ∧ Hid (NSt w wr (b + 1) b t.l t.b (putL x t.L (cs.take k)))) (fun v wr => m - (intOf v).toNat)
  case atStart => exact ⟨0, rfl, Lib.hid (Nat.zero_le _), HP0⟩
  case round =>
    obtain ⟨k, rfl, HK, HP⟩ := hrel
    clear HP0
    obtain ⟨L, hL⟩ : ∃ L, L = putL x t.L (cs.take k) := ⟨_, rfl⟩
    have HLE := Lib.hid hL
    have HLK := Lib.hid (show L.length = n by rw [hL, len_putL]; exact HN.out.symm)
    rw [← hL] at HP
    clear hL
    obtain ⟨cv, p1, p2, p3, p4⟩ := HP.out
    rw [HLK.out] at p3
    obtain ⟨va2, vc2, ecv⟩ := own_shape p3
    subst ecv
    have HR1 := Lib.hid p1
    have HD1 := Lib.hid p2
    have HOW := Lib.hid p3
    have HBW := Lib.hid p4
    obtain ⟨c0, c1, c2, f0, f1, f2⟩ := cells3 p2
    clear p1 p2 p3 p4
    by_cases hlt : k < m
    · have HLT := Lib.hid hlt
      have hkc : k < cs.length := by rw [← HM.out]; exact hlt
      have u1 : IntKind.i64.wrap ((k : Int) + 1) = ((k + 1 : Nat) : Int) := by rw [IntKind.wrap_i64]; have := HCL.out; omega
      obtain ⟨gc, oc, hca, hcc⟩ := (HC.out.below (HBW.out.mono (Nat.le_refl _))).get hkc
      subst hca
      obtain ⟨c, hc⟩ : ∃ c, c = cs[k] := ⟨_, rfl⟩
      have HT := Lib.hid (show putL x t.L (cs.take (k + 1)) = putB x L c by rw [List.take_succ_eq_append_getElem hkc, putL_snoc, ← HLE.out, hc])
      rw [← hc] at hcc
      clear hc hkc
      by_cases hneg : 0 ≤ c
      · by_cases hin : c < (n : Int)
        · obtain ⟨e, rfl⟩ : ∃ e : Nat, c = (e : Int) := ⟨c.toNat, by omega⟩
          have hen : e < n := by omega
          obtain ⟨g, cap, hva⟩ : ∃ g cap, (va2 = some ⟨g, 0, none⟩ ∧ vc2 = cap) := by
            rcases HOW.out.2 with ⟨e0, h0⟩ | ⟨g, cap, cur, ev, _⟩
            · omega
            · injection ev with e1 _ e3
              exact ⟨g, cap, e1, e3⟩
          obtain ⟨rfl, rfl⟩ := hva
          have HS := Lib.hid (show putB x L (e : Int) = L.set e x by
            unfold putB
            rw [if_pos hneg, Int.toNat_natCast])
          have KEEP := Lib.hid (show ∀ W', Below wr.heap.size wr W' → (fun wx => wx.cell? ⟨b, 0, none⟩ = some (.slice (some ⟨g, 0, none⟩) n vc2) ∧ wx.cell? ⟨gc, oc + k, none⟩ = some (.int .i64 (e : Nat))) W' from fun W' kb => ⟨(kb.cell (World.block_lt_of_cell? wr _ c0)).trans c0, (kb.cell (World.block_lt_of_cell? wr _ hcc)).trans hcc⟩)
          go_upto_region 5 with (fail)
          go_quiet (fail)
          go_upto_region 6 with (fail)
          refine region_but (S := (fun wx => wx.cell? ⟨b, 0, none⟩ = some (.slice (some ⟨g, 0, none⟩) n vc2) ∧ wx.cell? ⟨gc, oc + k, none⟩ = some (.int .i64 (e : Nat)))) 8 (by kernel_rfl) (KEEP.out _ (below_drewN (Below.refl _ _) _).drew) (fun hHeld => ?_)
          clear c0 c1 c2 f0 f1 f2 hcc
          obtain ⟨wd, hwd⟩ : ∃ X, X = (wr.drewN nq).drew := ⟨_, rfl⟩
          have HOD := Lib.hid (show wd.ownsRow w.heap.size 4 1 (.slice (some ⟨g, 0, none⟩) n vc2) n (bVs L) by rw [hwd]; exact HOW.out)
          have HDD := Lib.hid (show wd.heap[b]? = some (.cells #[.slice (some ⟨g, 0, none⟩) n vc2, .int .u8 (t.l : Nat), .int .u8 (t.b : Nat)] RT (0, 0)) by rw [hwd]; exact HD1.out)
          have HND := Lib.hid (show NSt w wd (b + 1) b t.l t.b L by rw [hwd]; exact (HP.out.drewN nq).drew)
          rw [← hwd] at hHeld ⊢
          clear hwd
          have hge : wd.cell? ⟨g, e, none⟩ = some (.bool (L.getD e false)) := by
            rw [HOD.out.cellAt e (by omega)]
            have : e < L.length := by rw [HLK.out]; exact hen
            simp [bVs, List.getD_eq_getElem?_getD, this]
          have hfe : wd.frozen? ⟨g, e, none⟩ = false := HOD.out.frozenAt e
          refine ti 0 rfl (fun w hSw => by (try dsimp only at hSw); go_simp; try with_reducible rfl) ?_
          go_frame
          refine ti 1 rfl (fun w hSw => by (try dsimp only at hSw); go_simp; try with_reducible rfl) ?_
          go_frame
          refine ti 2 rfl (fun w hSw => by (try dsimp only at hSw); go_simp; try with_reducible rfl) ?_
          go_frame
          refine ti 3 rfl (fun w hSw => by (try dsimp only at hSw); go_simp; try with_reducible rfl) ?_
          go_frame
          refine ti 4 rfl (fun w hSw => by (try dsimp only at hSw); go_simp; try with_reducible rfl) ?_
          go_frame
          refine ti 5 rfl (fun w hSw => by (try dsimp only at hSw); go_simp; try with_reducible rfl) ?_
          go_frame
          refine ti 6 rfl (fun w hSw => by (try dsimp only at hSw); go_simp; try with_reducible rfl) ?_
          go_frame
          refine ti 7 rfl (fun w hSw => by (try dsimp only at hSw); go_simp; try with_reducible rfl) ?_
          go_frame
          obtain ⟨wA, hwA⟩ : ∃ X, X = wd.setCell ⟨g, e, none⟩ (.bool x) := ⟨_, rfl⟩
          have HWA := Lib.hid hwA
          refine tx rfl (by kernel_rfl) (by kernel_rfl) (by kernel_rfl) (fun K hK => ?_)
          go_simp
          rw [← hwA]
          refine hK.out _ _ ?_
          clear hK K hwA hge hfe hHeld KEEP
          try go_frame
          go_wp2
          go_roundw
          case rel => exact ⟨k + 1, by go_num, Lib.hid HLT.out, Lib.hid (by
            have st := HOD.out.stored e (.bool x)
            rw [HT.out, HS.out, HWA.out]
            refine HND.out.grown HOD.out HDD.out (by rw [List.length_set]; exact HLK.out) st.2 ?_
            have := st.1
            rw [show (bVs L).set e (.bool x) = bVs (L.set e x) by simp [bVs]] at this
            exact this)⟩
          case measure => simp only [intOf]; have := HLT.out; omega
        · have HS := Lib.hid (show putB x L c = L by
            unfold putB
            rw [if_pos hneg, List.set_eq_of_length_le]
            have := HLK.out
            omega)
          go_upto_region 5 with (fail)
          go_quiet (fail)
          go_wp2
          go_roundw
          case rel => exact ⟨k + 1, by go_num, Lib.hid HLT.out, Lib.hid (by
            rw [HT.out, HS.out]
            exact NSt.drewN HP.out _)⟩
          case measure => simp only [intOf]; have := HLT.out; omega
      · have HS := Lib.hid (show putB x L c = L by unfold putB; rw [if_neg hneg])
        go_upto_region 5 with (fail)
        go_quiet (fail)
        go_wp2
        go_roundw
        case rel => exact ⟨k + 1, by go_num, Lib.hid HLT.out, Lib.hid (by
          rw [HT.out, HS.out]
          exact NSt.drewN HP.out _)⟩
        case measure => simp only [intOf]; have := HLT.out; omega
    · have HS := Lib.hid (show putL x t.L cs = L by rw [HLE.out, List.take_of_length_le (by have := HM.out; omega)])
      clear c0 c1 c2 f0 f1 f2
      obtain ⟨w5, hw5⟩ : ∃ x, x = wr.setCell ⟨b, 1, none⟩ (.int .u8 (lm : Nat)) := ⟨_, rfl⟩
      have a0 := heap_setCell_same wr b 1 _ _ (.int .u8 (lm : Nat)) HD1.out
      have HO5 := Lib.hid (show w5.ownsRow w.heap.size 4 1 (.slice va2 n vc2) n (bVs L) by rw [hw5]; exact own_set HOW.out HD1.out)
      have hbt : But b wr w5 := by rw [hw5]; exact But.set wr b 1 _
      rw [← hw5] at a0
      have HD5 := Lib.hid (show w5.heap[b]? = some (.cells #[.slice va2 n vc2, .int .u8 (lm : Nat), .int .u8 (t.b : Nat)] RT (0, 0)) from a0)
      have HR5 := Lib.hid ((hbt.block (b + 1) (Array.getElem?_eq_some_iff.1 HR1.out).1 (by simp)).trans HR1.out)
      have HB5 := Lib.hid (HBW.out.trans (hbt.below (C := w.heap.size) (by rw [HBE.out]; exact Nat.le_refl _) HBW.out.size))
      clear a0 hbt
      obtain ⟨c0, c1, c2, f0, f1, f2⟩ := cells3 HD1.out
      go_upto_region 8 with (fail)
      rw [← hw5]
      clear hw5 c0 c1 c2 f0 f1 f2
      obtain ⟨d0, d1, d2, _⟩ := cells3 HD5.out
      obtain ⟨e0, e1, e2, f0, f1, f2⟩ := cells3 HR5.out
      obtain ⟨wz, hwz⟩ : ∃ x, x = ((w5.setCell ⟨b + 1, 0, none⟩ (.slice va2 n vc2)).setCell ⟨b + 1, 1, none⟩ (.int .u8 (lm : Nat))).setCell ⟨b + 1, 2, none⟩ (.int .u8 (t.b : Nat)) := ⟨_, rfl⟩
      have HF := Lib.hid (fin3 HR5.out HO5.out HB5.out (by rw [HBE.out]; omega) hwz)
      go_wp2
      rw [← hwz]
      clear hwz d0 d1 d2 e0 e1 e2 f0 f1 f2
      obtain ⟨k0, k1, k2, _⟩ := cells3 HF.out.1
      refine bodyPost_ret (v := rV (.slice va2 n vc2) (t.put x l cs)) (by simp [results, Try.results51, go_sem, k0, k1, k2, Tb.put, HLM.out]) rfl ⟨_, rfl, ?_, HF.out.2.1⟩
      have := HF.out.2.2
      exact bIn_own (L := putL x t.L cs) (by rw [HS.out, HLK.out]; exact this)
end Go.Proofs.Ytmfbknmcmopjnaa.Lab
