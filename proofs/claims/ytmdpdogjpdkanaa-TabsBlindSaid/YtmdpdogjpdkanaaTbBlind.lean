/- Of two that look alike to Low: TabsBlind. -/
import Derived.Test.YtmdpdogjpdkanaaTbWorks
import Derived.Test.YtmdpdogjpdkanaaTbOpen
set_option linter.unusedVariables false
namespace Go.Proofs.Ytmdpdogjpdkanaa.Lab
open Go Go.RowKit Go.Shelf

/-- Two that look alike to Low. -/
structure Alike (t u : Tb) : Prop where
  tok : t.Ok
  uok : u.Ok
  len : t.L.length = u.L.length
  b : t.b = 0 ∧ u.b = 0
  l : t.l = u.l
  low : t.l = 0 → t.L = u.L
/-- The other one's act: of High's, other columns. -/
def twin (a : Ac) (O : List Int) : Ac := if a.high = true ∧ a.what % 9 < 5 then { a with l := O } else a
theorem twin_what (a : Ac) (O : List Int) : (twin a O).what = a.what ∧ (twin a O).high = a.high ∧ (twin a O).cols = a.cols := by
  unfold twin
  split <;> exact ⟨rfl, rfl, rfl⟩
theorem twin_ok {a : Ac} (h : a.Ok) (O : List Int) : (twin a O).Ok := by
  have := twin_what a O
  unfold Ac.Ok at h ⊢
  rw [this.1, this.2.2]
  exact h
theorem len_doT {a c : Ac} {t u : Tb} (h : t.L.length = u.L.length) (h1 : c.what = a.what) (h2 : c.cols = a.cols) : (doT a t).L.length = (doT c u).L.length := by
  unfold doT
  rw [h1, h2]
  repeat' split
  · simp only [Tb.put, len_putL, h]
  · simp only [Tb.none, List.length_replicate, h]
  · exact h
  · exact h
  · simp only [Tb.res, len_resL]
  · simp only [Tb.put, len_putL, h]
theorem alike_do {a : Ac} {t u : Tb} (h : Alike t u) (O : List Int) (h7 : a.what % 9 = 7 → t = u) : Alike (doT a t) (doT (twin a O) u) := by
  obtain ⟨w1, w2, w3⟩ := twin_what a O
  refine ⟨doT_ok h.tok, doT_ok h.uok, len_doT h.len w1 w3, ⟨?_, ?_⟩, ?_, ?_⟩
  · unfold doT; repeat' split
    all_goals exact h.b.1
  · unfold doT; repeat' split
    all_goals exact h.b.2
  · unfold doT
    rw [w1, w2]
    repeat' split
    all_goals first | exact congrArg (fun x => max x _) h.l | exact h.b.1.trans h.b.2.symm | exact h.l
  · have hl := h.low
    have hx : ∀ v, (t.put v (lvN a.high) (a.l.take 10)).l = 0 → a.what % 9 < 5 → (t.put v (lvN a.high) (a.l.take 10)).L = (u.put v (lvN (twin a O).high) ((twin a O).l.take 10)).L := by
      intro v h0 hw
      have h0' : max t.l (lvN a.high) = 0 := h0
      have hh : a.high = false := by
        cases hb : a.high with
        | false => rfl
        | true => rw [hb] at h0'; unfold lvN at h0'; simp at h0'
      have ht : t.l = 0 := by omega
      have he : twin a O = a := by unfold twin; rw [if_neg (by rw [hh]; simp)]
      rw [he]
      show putL v t.L _ = putL v u.L _
      rw [hl ht]
    unfold doT
    rw [w1, w3]
    split
    · exact fun h0 => hx false h0 (by omega)
    split
    · intro _
      show List.replicate _ _ = List.replicate _ _
      rw [h.len]
    split
    · intro h0
      have h0' : max t.l (lvN a.high) = 0 := h0
      exact hl (by omega)
    split
    · rename_i h7'
      intro _
      rw [h7 h7']
    split
    · intro h0
      show resL t.L _ = resL u.L _
      rw [hl h0]
    · exact fun h0 => hx true h0 (by omega)
theorem putT_but (w : World) (b : Nat) (t : Tb) : But b w (putT w b t) :=
  (((((((((((But.set w b 0 _).trans (But.set _ b 1 _)).trans (But.set _ b 2 _)).trans (But.set _ b 3 _)).trans (But.set _ b 4 _)).trans (But.set _ b 5 _)).trans (But.set _ b 6 _)).trans (But.set _ b 7 _)).trans (But.set _ b 8 _)).trans (But.set _ b 9 _))).trans (But.set _ b 10 _)
theorem AcAt.putT {w : World} {b q : Nat} {a : Ac} {u : Value} (h : AcAt w q a u) (ne : q ≠ b) (t : Tb) : AcAt (putT w b t) q a u := by
  obtain ⟨h0, h1, h2, h3, h4⟩ := h
  have k := (putT_but w b t).block q h0 (fun e => by injection e with e; exact ne e)
  exact ⟨Nat.lt_of_lt_of_le h0 (putT_but w b t).size, (World.cell?_of_block (a := ⟨q, 0, none⟩) k).trans h1, (World.cell?_of_block (a := ⟨q, 1, none⟩) k).trans h2, (World.cell?_of_block (a := ⟨q, 2, none⟩) k).trans h3, (World.cell?_of_block (a := ⟨q, 3, none⟩) k).trans h4⟩
theorem acAt_row {w : World} {b : Nat} {a : Ac} {u : Value} {T : TypeId} (h : w.heap[b]? = some (.cells #[.int .u8 (a.what : Nat), .bool a.high, u, .int .i16 a.cols] T (0, 0))) : AcAt w b a u :=
  ⟨(Array.getElem?_eq_some_iff.1 h).1, cell_of_row w b 0 _ _ _ h, cell_of_row w b 1 _ _ _ h, cell_of_row w b 2 _ _ _ h, cell_of_row w b 3 _ _ _ h⟩
set_option maxHeartbeats 8000000 in
set_option maxRecDepth 100000 in
theorem blind_core (n : Nat) (hn : n < 65536) (la : Option Addr) (ln lc : Nat) (AL : List Ac) (ov : Value) (O : List Int) (w : World) (h : AcsIn w (.slice la ln lc) AL) (hov : S16 w ov O) : Calls Try.prog 5 #[.int .u16 (n : Nat), .slice la ln lc, ov] w fun e w' => e = .returned (.bool true) ∧ Below w.heap.size w w' := by
  obtain ⟨oa, oc, rfl⟩ : ∃ a c, ov = .slice a O.length c := by obtain ⟨a, c, e, _⟩ := hov; exact ⟨a, c, e⟩
  obtain ⟨on, hon⟩ : ∃ k, k = O.length := ⟨_, rfl⟩
  rw [← hon] at hov ⊢
  have HO := Lib.hid hov
  have HAC := Lib.hid h
  have HLN := Lib.hid (show AL.length = ln by obtain ⟨a, c, e⟩ := h.shape; injection e with _ e _; exact e.symm)
  clear h hov hon
  obtain ⟨c, hc⟩ : ∃ c, c = n % 600 := ⟨_, rfl⟩
  have r1 : ((n : Nat) : Int).tmod 600 = (c : Nat) := by rw [hc, Int.tmod_eq_emod_of_nonneg (by omega)]; rfl
  have r2 : ((n : Nat) : Int) % 600 = (c : Nat) := by rw [hc]; rfl
  have r3 : IntKind.i64.wrap ((c : Nat) : Int) = (c : Nat) := by rw [IntKind.wrap_i64]; omega
  clear hc
  obtain ⟨T0, hT0⟩ : ∃ T0, T0 = newM (c : Nat) 0 := ⟨_, rfl⟩
  have HNEW := Lib.hid (fun w => new_any (c : Nat) 0 w)
  have HOK0 := Lib.hid (show T0.Ok ∧ T0.b = 0 by rw [hT0]; exact ⟨newM_ok _ (by decide), rfl⟩)
  rw [← hT0] at HNEW
  clear hT0 hn
  go_enter Try.func5, Try.ntmps5
  go_wp2_with fail
  refine (works_any _).mono ?_
  rintro e y1 ⟨rfl, bb⟩
  have HB := Lib.hid bb
  clear bb
  go_wp2_with fail
  refine (HNEW.out _).mono ?_
  rintro e y2 ⟨rfl, bb⟩
  replace HB := Lib.hid (HB.out.trans (bb.mono HB.out.size))
  clear bb
  go_wp2_with fail
  refine (HNEW.out _).mono ?_
  rintro e y3 ⟨rfl, bb⟩
  replace HB := Lib.hid (HB.out.trans (bb.mono HB.out.size))
  clear bb HNEW r1 r2 r3
  obtain ⟨bT, hbT⟩ : ∃ b, b = y3.heap.size := ⟨_, rfl⟩
  obtain ⟨y4, hy4⟩ : ∃ x, x = y3.alloc (.cells (tbC T0) TB) := ⟨_, rfl⟩
  have bb : Below y3.heap.size y3 y4 := by rw [hy4]; exact (Below.refl _ _).alloc (Nat.le_refl _) _
  have HT4 := Lib.hid (show TbAt y4 bT T0 by unfold TbAt; rw [hy4, hbT]; exact World.alloc_heap_new y3 _)
  have HBT := Lib.hid (show w.heap.size ≤ bT by rw [hbT]; exact HB.out.size)
  have HB4 := Lib.hid (HB.out.trans (bb.mono HB.out.size))
  have hs4 : y4.heap.size = bT + 1 := by rw [hy4, hbT]; simp
  clear bb
  obtain ⟨y5, hy5⟩ : ∃ x, x = y4.alloc (.cells (tbC T0) TB) := ⟨_, rfl⟩
  have bb : Below y4.heap.size y4 y5 := by rw [hy5]; exact (Below.refl _ _).alloc (Nat.le_refl _) _
  have HU5 := Lib.hid (show TbAt y5 (bT + 1) T0 by unfold TbAt; rw [hy5, ← hs4]; exact World.alloc_heap_new y4 _)
  have HST := Lib.hid (show Below w.heap.size w y5 ∧ TbAt y5 bT T0 ∧ TbAt y5 (bT + 1) T0 ∧ Alike T0 T0 from ⟨HB4.out.trans (bb.mono HB4.out.size), HT4.out.below bb, HU5.out, ⟨HOK0.out.1, HOK0.out.1, rfl, ⟨HOK0.out.2, HOK0.out.2⟩, rfl, fun _ => rfl⟩⟩)
  clear bb hs4 HT4 HB4 HU5
  go_upto_block 0 with (fail)
  rw [← hy4, ← hy5, ← hbT]
  clear hy4 hy5 hbT HB
  go_cut [] (fun wc => Hid (Below w.heap.size w wc))
  case first =>
    go_wp2_with fail
    go_loopw [9] (fun v wr => ∃ (i : Nat) (t u : Tb), v = .int .i64 (i : Nat) ∧ Hid (i ≤ ln ∧ i ≤ 40) ∧ Hid (Below w.heap.size w wr ∧ TbAt wr bT t ∧ TbAt wr (bT + 1) u ∧ Alike t u)) (fun v wr => 50 - (intOf v).toNat)
    case atStart => exact ⟨0, T0, T0, rfl, Lib.hid ⟨Nat.zero_le _, Nat.zero_le _⟩, HST⟩
    case round =>
      obtain ⟨i, t, u, rfl, HI, HK⟩ := hrel
      by_cases h1 : i < ln
      · by_cases h2 : i < 40
        · have g2 : (i : Int) < 40 := by omega
          have H12 := Lib.hid (And.intro h1 h2)
          have u1 : IntKind.i64.wrap ((i : Int) + 1) = ((i + 1 : Nat) : Int) := by rw [IntKind.wrap_i64]; omega
          obtain ⟨g, o, v, hla, z0, z1, z2, z3, hs, hok⟩ := HAC.out.at (i := i) (by rw [HLN.out]; exact h1)
          obtain ⟨a, ha⟩ : ∃ a, a = AcK AL i := ⟨_, rfl⟩
          rw [← ha] at z0 z1 z3 hs hok
          have a0 := (HK.out.1.cell (World.block_lt_of_cell? w _ z0)).trans z0
          have a1 := (HK.out.1.cell (World.block_lt_of_cell? w _ z1)).trans z1
          have a2 := (HK.out.1.cell (World.block_lt_of_cell? w _ z2)).trans z2
          have a3 := (HK.out.1.cell (World.block_lt_of_cell? w _ z3)).trans z3
          clear z0 z1 z2 z3
          subst hla
          obtain ⟨va, vn, vc, hvs⟩ : ∃ va vn vc, v = .slice va vn vc := by obtain ⟨x1, x2, x3, _⟩ := hs; exact ⟨x1, _, x2, x3⟩
          subst hvs
          have HS := Lib.hid hs
          have HOKA := Lib.hid hok
          have KEEP := Lib.hid (show ∀ wx, Below wr.heap.size wr wx → wx.cell? ⟨g, o + i * 4, none⟩ = some (.int .u8 (a.what : Nat)) ∧ wx.cell? ⟨g, o + i * 4 + 1, none⟩ = some (.bool a.high) ∧ wx.cell? ⟨g, o + i * 4 + 2, none⟩ = some (.slice va vn vc) ∧ wx.cell? ⟨g, o + i * 4 + 3, none⟩ = some (.int .i16 a.cols) from fun wx hx => ⟨(hx.cell (World.block_lt_of_cell? wr _ a0)).trans a0, (hx.cell (World.block_lt_of_cell? wr _ a1)).trans a1, (hx.cell (World.block_lt_of_cell? wr _ a2)).trans a2, (hx.cell (World.block_lt_of_cell? wr _ a3)).trans a3⟩)
          clear ha hs hok
          go_upto_region 7 with (fail)
          go_cut [10, 11] (fun v10 v11 wc => ∃ p q : Nat, v10 = .pointer (some ⟨p, 0, none⟩) ∧ v11 = .pointer (some ⟨q, 0, none⟩) ∧ Hid (Below wr.heap.size wr wc ∧ AcAt wc p a (.slice va vn vc) ∧ AcAt wc q a (.slice va vn vc) ∧ p ≠ q ∧ wr.heap.size ≤ p ∧ wr.heap.size ≤ q ∧ wc.heap[q]? = some (.cells #[.int .u8 (a.what : Nat), .bool a.high, .slice va vn vc, .int .i16 a.cols] 37 (0, 0))))
          case first =>
            refine region_but (S := (fun wx => wx.cell? ⟨g, o + i * 4, none⟩ = some (.int .u8 (a.what : Nat)) ∧ wx.cell? ⟨g, o + i * 4 + 1, none⟩ = some (.bool a.high) ∧ wx.cell? ⟨g, o + i * 4 + 2, none⟩ = some (.slice va vn vc) ∧ wx.cell? ⟨g, o + i * 4 + 3, none⟩ = some (.int .i16 a.cols))) 11 (by kernel_rfl) (KEEP.out _ ((Below.refl _ _).drew)) (fun hHeld => ?_)
            obtain ⟨wz, hwz⟩ : ∃ X, X = wr.drew := ⟨_, rfl⟩
            have HX := Lib.hid (show Below wr.heap.size wr wz by rw [hwz]; exact (Below.refl _ _).drew)
            replace hHeld := KEEP.out _ HX.out
            rw [← hwz]
            clear hwz
            refine ti 0 rfl (fun w hSw => by (try dsimp only at hSw); go_simp; try with_reducible rfl) ?_
            go_frame
            refine ti 1 rfl (fun w hSw => by (try dsimp only at hSw); go_simp; try with_reducible rfl) ?_
            go_frame
            refine ti 2 rfl (fun w hSw => by (try dsimp only at hSw); go_simp; try with_reducible rfl) ?_
            go_frame
            refine ti 3 rfl (fun w hSw => by (try dsimp only at hSw); go_simp; try with_reducible rfl) ?_
            go_frame
            refine ti 4 rfl (fun w hSw => by (try dsimp only at hSw); go_simp; try with_reducible rfl) ?_
            go_frame
            refine ti 5 rfl (fun w hSw => by (try dsimp only at hSw); go_simp; try with_reducible rfl) ?_
            go_frame
            refine ti 6 rfl (fun w hSw => by (try dsimp only at hSw); go_simp; try with_reducible rfl) ?_
            go_frame
            refine ti 7 rfl (fun w hSw => by (try dsimp only at hSw); go_simp; try with_reducible rfl) ?_
            go_frame
            refine th2 8 9 rfl rfl (by kernel_rfl) (by decide) (by decide) (by kernel_rfl) (by kernel_rfl) (fun K hK => ?_) (fun K hK => ?_)
            · obtain ⟨pp, hpp⟩ : ∃ q, q = wz.heap.size := ⟨_, rfl⟩
              obtain ⟨wp, hwp⟩ : ∃ X, X = wz.alloc (.cells #[.int .u8 0, .bool false, .slice none 0 0, .int .i16 0] 37) := ⟨_, rfl⟩
              have bb : Below wz.heap.size wz wp := by rw [hwp]; exact (Below.refl _ _).alloc (Nat.le_refl _) _
              have Hpp := Lib.hid (show wp.heap[pp]? = some (.cells #[.int .u8 0, .bool false, .slice none 0 0, .int .i16 0] 37 (0, 0)) by rw [hwp, hpp]; exact World.alloc_heap_new wz _)
              have HLpp := Lib.hid (show wr.heap.size ≤ pp by rw [hpp]; exact HX.out.size)
              replace HX := Lib.hid (HX.out.trans (bb.mono HX.out.size))
              clear bb
              go_simp
              rw [← hwp, ← hpp]
              clear hwp hpp
              refine hK.out _ _ (KEEP.out _ HX.out) (fun hHeld => ?_)
              clear hK K
              try go_frame
              obtain ⟨pq, hpq⟩ : ∃ q, q = wp.heap.size := ⟨_, rfl⟩
              obtain ⟨wq, hwq⟩ : ∃ X, X = wp.alloc (.cells #[.int .u8 0, .bool false, .slice none 0 0, .int .i16 0] 37) := ⟨_, rfl⟩
              have bb : Below wp.heap.size wp wq := by rw [hwq]; exact (Below.refl _ _).alloc (Nat.le_refl _) _
              have Hpq := Lib.hid (show wq.heap[pq]? = some (.cells #[.int .u8 0, .bool false, .slice none 0 0, .int .i16 0] 37 (0, 0)) by rw [hwq, hpq]; exact World.alloc_heap_new wp _)
              have HLpq := Lib.hid (show wr.heap.size ≤ pq by rw [hpq]; exact HX.out.size)
              have HPQ := Lib.hid (show pp ≠ pq by rw [hpq]; exact Nat.ne_of_lt (Array.getElem?_eq_some_iff.1 Hpp.out).1)
              replace Hpp := Lib.hid ((bb.block pp (Array.getElem?_eq_some_iff.1 Hpp.out).1).trans Hpp.out)
              replace HX := Lib.hid (HX.out.trans (bb.mono HX.out.size))
              clear bb
              refine th 9 rfl (by kernel_rfl) (by decide) (by kernel_rfl) (fun K hK => ?_)
              go_simp
              rw [← hwq, ← hpq]
              clear hwq hpq
              refine hK.out _ _ (KEEP.out _ HX.out) (fun hHeld => ?_)
              clear hK K
              try go_frame
              have HNE := Lib.hid (fun e => HPQ.out (Eq.symm e))
              have m0 : wq.cell? ⟨pp, 0, none⟩ = some (.int .u8 0) := by rw [cell_of_row wq pp 0 _ _ _ Hpp.out]; rfl
              have n0 : wq.frozen? ⟨pp, 0, none⟩ = false := frozen_of_row wq pp 0 _ _ Hpp.out
              have m1 : wq.cell? ⟨pp, 1, none⟩ = some (.bool false) := by rw [cell_of_row wq pp 1 _ _ _ Hpp.out]; rfl
              have n1 : wq.frozen? ⟨pp, 1, none⟩ = false := frozen_of_row wq pp 1 _ _ Hpp.out
              have m2 : wq.cell? ⟨pp, 2, none⟩ = some (.slice none 0 0) := by rw [cell_of_row wq pp 2 _ _ _ Hpp.out]; rfl
              have n2 : wq.frozen? ⟨pp, 2, none⟩ = false := frozen_of_row wq pp 2 _ _ Hpp.out
              have m3 : wq.cell? ⟨pp, 3, none⟩ = some (.int .i16 0) := by rw [cell_of_row wq pp 3 _ _ _ Hpp.out]; rfl
              have n3 : wq.frozen? ⟨pp, 3, none⟩ = false := frozen_of_row wq pp 3 _ _ Hpp.out
              obtain ⟨wA, hwA⟩ : ∃ X, X = (((wq.setCell ⟨pp, 0, none⟩ (.int .u8 (a.what : Nat))).setCell ⟨pp, 1, none⟩ (.bool a.high)).setCell ⟨pp, 2, none⟩ (.slice va vn vc)).setCell ⟨pp, 3, none⟩ (.int .i16 a.cols) := ⟨_, rfl⟩
              have HPA := Lib.hid (show wA.heap[pp]? = some (.cells #[.int .u8 (a.what : Nat), .bool a.high, .slice va vn vc, .int .i16 a.cols] 37 (0, 0)) by
                rw [hwA]
                exact heap_setCell_same _ pp 3 _ _ (.int .i16 a.cols) (heap_setCell_same _ pp 2 _ _ (.slice va vn vc) (heap_setCell_same _ pp 1 _ _ (.bool a.high) (heap_setCell_same wq pp 0 _ _ (.int .u8 (a.what : Nat)) Hpp.out))))
              have HQA := Lib.hid (show wA.heap[pq]? = some (.cells #[.int .u8 0, .bool false, .slice none 0 0, .int .i16 0] 37 (0, 0)) by
                rw [hwA]
                iterate 4 rw [Below.heap_setCell _ _ _ _ (by simpa using HNE.out)]
                exact Hpq.out)
              have HXA := Lib.hid (show Below wr.heap.size wr wA by rw [hwA]; exact (((HX.out.setCell HLpp.out _).setCell HLpp.out _).setCell HLpp.out _).setCell HLpp.out _)
              refine th 10 rfl (by kernel_rfl) (by decide) (by kernel_rfl) (fun K hK => ?_)
              go_simp
              rw [← hwA]
              clear hwA m0 m1 m2 m3 n0 n1 n2 n3
              refine hK.out _ _ (KEEP.out _ HXA.out) (fun hHeld => ?_)
              clear hK K
              try go_frame
              have m0 : wA.cell? ⟨pq, 0, none⟩ = some (.int .u8 0) := by rw [cell_of_row wA pq 0 _ _ _ HQA.out]; rfl
              have n0 : wA.frozen? ⟨pq, 0, none⟩ = false := frozen_of_row wA pq 0 _ _ HQA.out
              have m1 : wA.cell? ⟨pq, 1, none⟩ = some (.bool false) := by rw [cell_of_row wA pq 1 _ _ _ HQA.out]; rfl
              have n1 : wA.frozen? ⟨pq, 1, none⟩ = false := frozen_of_row wA pq 1 _ _ HQA.out
              have m2 : wA.cell? ⟨pq, 2, none⟩ = some (.slice none 0 0) := by rw [cell_of_row wA pq 2 _ _ _ HQA.out]; rfl
              have n2 : wA.frozen? ⟨pq, 2, none⟩ = false := frozen_of_row wA pq 2 _ _ HQA.out
              have m3 : wA.cell? ⟨pq, 3, none⟩ = some (.int .i16 0) := by rw [cell_of_row wA pq 3 _ _ _ HQA.out]; rfl
              have n3 : wA.frozen? ⟨pq, 3, none⟩ = false := frozen_of_row wA pq 3 _ _ HQA.out
              refine tx rfl (by kernel_rfl) (by kernel_rfl) (by kernel_rfl) (fun K hK => ?_)
              go_simp
              refine hK.out _ _ ?_
              clear hK K hHeld KEEP
              try go_frame
              obtain ⟨wB, hwB⟩ : ∃ X, X = (((wA.setCell ⟨pq, 0, none⟩ (.int .u8 (a.what : Nat))).setCell ⟨pq, 1, none⟩ (.bool a.high)).setCell ⟨pq, 2, none⟩ (.slice va vn vc)).setCell ⟨pq, 3, none⟩ (.int .i16 a.cols) := ⟨_, rfl⟩
              have HQB := Lib.hid (show wB.heap[pq]? = some (.cells #[.int .u8 (a.what : Nat), .bool a.high, .slice va vn vc, .int .i16 a.cols] 37 (0, 0)) by
                rw [hwB]
                exact heap_setCell_same _ pq 3 _ _ (.int .i16 a.cols) (heap_setCell_same _ pq 2 _ _ (.slice va vn vc) (heap_setCell_same _ pq 1 _ _ (.bool a.high) (heap_setCell_same wA pq 0 _ _ (.int .u8 (a.what : Nat)) HQA.out))))
              have HPB := Lib.hid (show wB.heap[pp]? = some (.cells #[.int .u8 (a.what : Nat), .bool a.high, .slice va vn vc, .int .i16 a.cols] 37 (0, 0)) by
                rw [hwB]
                iterate 4 rw [Below.heap_setCell _ _ _ _ (by simpa using fun e => HNE.out e.symm)]
                exact HPA.out)
              have HXB := Lib.hid (show Below wr.heap.size wr wB by rw [hwB]; exact (((HXA.out.setCell HLpq.out _).setCell HLpq.out _).setCell HLpq.out _).setCell HLpq.out _)
              rw [← hwB]
              clear hwB m0 m1 m2 m3 n0 n1 n2 n3
              go_wp2
              go_meet
              case rel => exact ⟨pp, pq, rfl, rfl, Lib.hid ⟨HXB.out, acAt_row HPB.out, acAt_row HQB.out, fun e => HNE.out e.symm, HLpp.out, HLpq.out, HQB.out⟩⟩
            · obtain ⟨pq, hpq⟩ : ∃ q, q = wz.heap.size := ⟨_, rfl⟩
              obtain ⟨wp, hwp⟩ : ∃ X, X = wz.alloc (.cells #[.int .u8 0, .bool false, .slice none 0 0, .int .i16 0] 37) := ⟨_, rfl⟩
              have bb : Below wz.heap.size wz wp := by rw [hwp]; exact (Below.refl _ _).alloc (Nat.le_refl _) _
              have Hpq := Lib.hid (show wp.heap[pq]? = some (.cells #[.int .u8 0, .bool false, .slice none 0 0, .int .i16 0] 37 (0, 0)) by rw [hwp, hpq]; exact World.alloc_heap_new wz _)
              have HLpq := Lib.hid (show wr.heap.size ≤ pq by rw [hpq]; exact HX.out.size)
              replace HX := Lib.hid (HX.out.trans (bb.mono HX.out.size))
              clear bb
              go_simp
              rw [← hwp, ← hpq]
              clear hwp hpq
              refine hK.out _ _ (KEEP.out _ HX.out) (fun hHeld => ?_)
              clear hK K
              try go_frame
              obtain ⟨pp, hpp⟩ : ∃ q, q = wp.heap.size := ⟨_, rfl⟩
              obtain ⟨wq, hwq⟩ : ∃ X, X = wp.alloc (.cells #[.int .u8 0, .bool false, .slice none 0 0, .int .i16 0] 37) := ⟨_, rfl⟩
              have bb : Below wp.heap.size wp wq := by rw [hwq]; exact (Below.refl _ _).alloc (Nat.le_refl _) _
              have Hpp := Lib.hid (show wq.heap[pp]? = some (.cells #[.int .u8 0, .bool false, .slice none 0 0, .int .i16 0] 37 (0, 0)) by rw [hwq, hpp]; exact World.alloc_heap_new wp _)
              have HLpp := Lib.hid (show wr.heap.size ≤ pp by rw [hpp]; exact HX.out.size)
              have HPQ := Lib.hid (show pq ≠ pp by rw [hpp]; exact Nat.ne_of_lt (Array.getElem?_eq_some_iff.1 Hpq.out).1)
              replace Hpq := Lib.hid ((bb.block pq (Array.getElem?_eq_some_iff.1 Hpq.out).1).trans Hpq.out)
              replace HX := Lib.hid (HX.out.trans (bb.mono HX.out.size))
              clear bb
              refine th 8 rfl (by kernel_rfl) (by decide) (by kernel_rfl) (fun K hK => ?_)
              go_simp
              rw [← hwq, ← hpp]
              clear hwq hpp
              refine hK.out _ _ (KEEP.out _ HX.out) (fun hHeld => ?_)
              clear hK K
              try go_frame
              have HNE := Lib.hid (fun e => HPQ.out e)
              have m0 : wq.cell? ⟨pp, 0, none⟩ = some (.int .u8 0) := by rw [cell_of_row wq pp 0 _ _ _ Hpp.out]; rfl
              have n0 : wq.frozen? ⟨pp, 0, none⟩ = false := frozen_of_row wq pp 0 _ _ Hpp.out
              have m1 : wq.cell? ⟨pp, 1, none⟩ = some (.bool false) := by rw [cell_of_row wq pp 1 _ _ _ Hpp.out]; rfl
              have n1 : wq.frozen? ⟨pp, 1, none⟩ = false := frozen_of_row wq pp 1 _ _ Hpp.out
              have m2 : wq.cell? ⟨pp, 2, none⟩ = some (.slice none 0 0) := by rw [cell_of_row wq pp 2 _ _ _ Hpp.out]; rfl
              have n2 : wq.frozen? ⟨pp, 2, none⟩ = false := frozen_of_row wq pp 2 _ _ Hpp.out
              have m3 : wq.cell? ⟨pp, 3, none⟩ = some (.int .i16 0) := by rw [cell_of_row wq pp 3 _ _ _ Hpp.out]; rfl
              have n3 : wq.frozen? ⟨pp, 3, none⟩ = false := frozen_of_row wq pp 3 _ _ Hpp.out
              obtain ⟨wA, hwA⟩ : ∃ X, X = (((wq.setCell ⟨pp, 0, none⟩ (.int .u8 (a.what : Nat))).setCell ⟨pp, 1, none⟩ (.bool a.high)).setCell ⟨pp, 2, none⟩ (.slice va vn vc)).setCell ⟨pp, 3, none⟩ (.int .i16 a.cols) := ⟨_, rfl⟩
              have HPA := Lib.hid (show wA.heap[pp]? = some (.cells #[.int .u8 (a.what : Nat), .bool a.high, .slice va vn vc, .int .i16 a.cols] 37 (0, 0)) by
                rw [hwA]
                exact heap_setCell_same _ pp 3 _ _ (.int .i16 a.cols) (heap_setCell_same _ pp 2 _ _ (.slice va vn vc) (heap_setCell_same _ pp 1 _ _ (.bool a.high) (heap_setCell_same wq pp 0 _ _ (.int .u8 (a.what : Nat)) Hpp.out))))
              have HQA := Lib.hid (show wA.heap[pq]? = some (.cells #[.int .u8 0, .bool false, .slice none 0 0, .int .i16 0] 37 (0, 0)) by
                rw [hwA]
                iterate 4 rw [Below.heap_setCell _ _ _ _ (by simpa using HNE.out)]
                exact Hpq.out)
              have HXA := Lib.hid (show Below wr.heap.size wr wA by rw [hwA]; exact (((HX.out.setCell HLpp.out _).setCell HLpp.out _).setCell HLpp.out _).setCell HLpp.out _)
              refine th 10 rfl (by kernel_rfl) (by decide) (by kernel_rfl) (fun K hK => ?_)
              go_simp
              rw [← hwA]
              clear hwA m0 m1 m2 m3 n0 n1 n2 n3
              refine hK.out _ _ (KEEP.out _ HXA.out) (fun hHeld => ?_)
              clear hK K
              try go_frame
              have m0 : wA.cell? ⟨pq, 0, none⟩ = some (.int .u8 0) := by rw [cell_of_row wA pq 0 _ _ _ HQA.out]; rfl
              have n0 : wA.frozen? ⟨pq, 0, none⟩ = false := frozen_of_row wA pq 0 _ _ HQA.out
              have m1 : wA.cell? ⟨pq, 1, none⟩ = some (.bool false) := by rw [cell_of_row wA pq 1 _ _ _ HQA.out]; rfl
              have n1 : wA.frozen? ⟨pq, 1, none⟩ = false := frozen_of_row wA pq 1 _ _ HQA.out
              have m2 : wA.cell? ⟨pq, 2, none⟩ = some (.slice none 0 0) := by rw [cell_of_row wA pq 2 _ _ _ HQA.out]; rfl
              have n2 : wA.frozen? ⟨pq, 2, none⟩ = false := frozen_of_row wA pq 2 _ _ HQA.out
              have m3 : wA.cell? ⟨pq, 3, none⟩ = some (.int .i16 0) := by rw [cell_of_row wA pq 3 _ _ _ HQA.out]; rfl
              have n3 : wA.frozen? ⟨pq, 3, none⟩ = false := frozen_of_row wA pq 3 _ _ HQA.out
              refine tx rfl (by kernel_rfl) (by kernel_rfl) (by kernel_rfl) (fun K hK => ?_)
              go_simp
              refine hK.out _ _ ?_
              clear hK K hHeld KEEP
              try go_frame
              obtain ⟨wB, hwB⟩ : ∃ X, X = (((wA.setCell ⟨pq, 0, none⟩ (.int .u8 (a.what : Nat))).setCell ⟨pq, 1, none⟩ (.bool a.high)).setCell ⟨pq, 2, none⟩ (.slice va vn vc)).setCell ⟨pq, 3, none⟩ (.int .i16 a.cols) := ⟨_, rfl⟩
              have HQB := Lib.hid (show wB.heap[pq]? = some (.cells #[.int .u8 (a.what : Nat), .bool a.high, .slice va vn vc, .int .i16 a.cols] 37 (0, 0)) by
                rw [hwB]
                exact heap_setCell_same _ pq 3 _ _ (.int .i16 a.cols) (heap_setCell_same _ pq 2 _ _ (.slice va vn vc) (heap_setCell_same _ pq 1 _ _ (.bool a.high) (heap_setCell_same wA pq 0 _ _ (.int .u8 (a.what : Nat)) HQA.out))))
              have HPB := Lib.hid (show wB.heap[pp]? = some (.cells #[.int .u8 (a.what : Nat), .bool a.high, .slice va vn vc, .int .i16 a.cols] 37 (0, 0)) by
                rw [hwB]
                iterate 4 rw [Below.heap_setCell _ _ _ _ (by simpa using fun e => HNE.out e.symm)]
                exact HPA.out)
              have HXB := Lib.hid (show Below wr.heap.size wr wB by rw [hwB]; exact (((HXA.out.setCell HLpq.out _).setCell HLpq.out _).setCell HLpq.out _).setCell HLpq.out _)
              rw [← hwB]
              clear hwB m0 m1 m2 m3 n0 n1 n2 n3
              go_wp2
              go_meet
              case rel => exact ⟨pp, pq, rfl, rfl, Lib.hid ⟨HXB.out, acAt_row HPB.out, acAt_row HQB.out, fun e => HNE.out e.symm, HLpp.out, HLpq.out, HQB.out⟩⟩
          case rest =>
            obtain ⟨p, q, rfl, rfl, HC⟩ := hcut
            obtain ⟨x0, hx0⟩ : ∃ x, x = wc := ⟨_, rfl⟩
            rw [← hx0] at HC ⊢
            clear hx0 KEEP a0 a1 a2 a3
            have HT := Lib.hid (HK.out.2.1.below HC.out.1)
            have HU := Lib.hid (HK.out.2.2.1.below HC.out.1)
            have HAL := Lib.hid HK.out.2.2.2
            have HBX := Lib.hid (HK.out.1.trans (HC.out.1.mono HK.out.1.size))
            have HLB := Lib.hid (show bT + 1 < wr.heap.size from HK.out.2.2.1.lt)
            obtain ⟨r, hr⟩ : ∃ r, r = a.what % 9 := ⟨_, rfl⟩
            have HR := Lib.hid hr
            have v1 : ((a.what : Nat) : Int).tmod 9 = (r : Nat) := by rw [hr, Int.tmod_eq_emod_of_nonneg (by omega)]; rfl
            have v2 : ((a.what : Nat) : Int) % 9 = (r : Nat) := by rw [hr]; rfl
            clear hr
            go_upto_region 8 with (fail)
            go_cut [48] (fun v48 wc => ∃ bk, v48 = .bool bk ∧ Hid (wc = x0) ∧ Hid (bk = false → r = 7 → t = u))
            case first =>
              obtain ⟨_, a0, a1, a2, a3⟩ := HC.out.2.1
              by_cases h7 : r = 7
              · have g7 : ((r : Int) == 7) = true := by rw [h7]; rfl
                obtain ⟨c0, c1, c2, c3, c4, c5, c6, c7, c8, c9, c10⟩ := HT.out.cells
                obtain ⟨d0, d1, d2, d3, d4, d5, d6, d7, d8, d9, d10⟩ := HU.out.cells
                by_cases htu : t = u
                · have hq : ∀ w, (Op.equalIn 10000 TB (tbV t) (tbV u)).run Try.prog w = .ok true w := fun w => by
                    rw [eqTb t u HAL.out.tok w]
                    congr 1
                    exact decide_eq_true ⟨by rw [htu], by rw [htu], by rw [htu]⟩
                  have HTU := Lib.hid htu
                  clear htu h7
                  go_wp2
                  go_meet
                  case rel => exact ⟨_, rfl, Lib.hid rfl, Lib.hid (fun _ _ => HTU.out)⟩
                · have hq : ∀ w, (Op.equalIn 10000 TB (tbV t) (tbV u)).run Try.prog w = .ok false w := fun w => by
                    rw [eqTb t u HAL.out.tok w]
                    congr 1
                    refine decide_eq_false (fun e => htu ?_)
                    cases t
                    cases u
                    simp only [Tb.mk.injEq]
                    exact e
                  clear htu h7
                  go_wp2
                  go_meet
                  case rel => exact ⟨_, rfl, Lib.hid rfl, Lib.hid (fun e _ => by cases e)⟩
              · have g7 : ((r : Int) == 7) = false := by simp; omega
                have H7 := Lib.hid h7
                clear h7
                go_wp2
                go_meet
                case rel => exact ⟨_, rfl, Lib.hid rfl, Lib.hid (fun _ e => absurd e H7.out)⟩
            case rest =>
              obtain ⟨bk, rfl, HE1, H7⟩ := hcut
              rw [HE1.out]
              clear HE1
              cases bk with
              | true =>
                go_wp2
                go_meet
                case rel => exact HBX
              | false =>
                have H7T := Lib.hid (H7.out rfl)
                clear H7
                obtain ⟨hb, hhb⟩ : ∃ hb, hb = (a.high && decide (r < 5)) := ⟨_, rfl⟩
                have HHB := Lib.hid hhb
                clear hhb
                go_upto_region 9 with (fail)
                go_cut [56] (fun v56 wc => v56 = .bool hb ∧ Hid (wc = x0))
                case first =>
                  obtain ⟨_, a0, a1, a2, a3⟩ := HC.out.2.2.1
                  cases hah : a.high with
                  | true =>
                    rw [hah] at a1
                    by_cases h5 : r < 5
                    · have g5 : (r : Int) < 5 := by omega
                      have HE := Lib.hid (show hb = true by rw [HHB.out, hah]; simp [h5])
                      clear hah
                      go_wp2
                      go_meet
                      case rel => exact ⟨by rw [HE.out], Lib.hid rfl⟩
                    · have g5 : ¬ (r : Int) < 5 := by omega
                      have HE := Lib.hid (show hb = false by rw [HHB.out, hah]; simp [h5])
                      clear hah
                      go_wp2
                      go_meet
                      case rel => exact ⟨by rw [HE.out], Lib.hid rfl⟩
                  | false =>
                    rw [hah] at a1
                    have HE := Lib.hid (show hb = false by rw [HHB.out, hah]; rfl)
                    clear hah
                    go_wp2
                    go_meet
                    case rel => exact ⟨by rw [HE.out], Lib.hid rfl⟩
                case rest =>
                  obtain ⟨rfl, HE1⟩ := hcut
                  rw [HE1.out]
                  clear HE1
                  obtain ⟨a', ha'⟩ : ∃ c, c = twin a O := ⟨_, rfl⟩
                  have HAE := Lib.hid ha'
                  clear ha'
                  go_upto_if 56 with (fail)
                  go_cut [] (fun wc => ∃ uv, Hid (Below wr.heap.size wr wc ∧ AcAt wc p a (.slice va vn vc) ∧ AcAt wc q a' uv ∧ S16 w uv a'.l))
                  case first =>
                    cases hbb : hb with
                    | true =>
                      have HW := Lib.hid (show a.high = true ∧ a.what % 9 < 5 by rw [hbb] at HHB; have := HHB.out; rw [← HR.out]; simpa using this.symm)
                      have m2 : x0.cell? ⟨q, 2, none⟩ = some (.slice va vn vc) := HC.out.2.2.1.2.2.2.1
                      have n2 : x0.frozen? ⟨q, 2, none⟩ = false := frozen_of_row x0 q 2 _ _ HC.out.2.2.2.2.2.2
                      clear hbb
                      go_wp2
                      go_meet
                      case rel =>
                        have hA : a' = { a with l := O } := by rw [HAE.out]; unfold twin; rw [if_pos HW.out]
                        have hrow := heap_setCell_same x0 q 2 _ _ (.slice oa on oc) HC.out.2.2.2.2.2.2
                        have hblw : Below wr.heap.size wr (x0.setCell ⟨q, 2, none⟩ (.slice oa on oc)) := HC.out.1.setCell HC.out.2.2.2.2.2.1 _
                        refine ⟨.slice oa on oc, Lib.hid ⟨hblw, ?_, ?_, ?_⟩⟩
                        · obtain ⟨k0, k1, k2, k3, k4⟩ := HC.out.2.1
                          have hbl := Below.heap_setCell x0 ⟨q, 2, none⟩ (.slice oa on oc) p HC.out.2.2.2.1
                          exact ⟨by simpa using k0, (World.cell?_of_block (a := ⟨p, 0, none⟩) hbl).trans k1, (World.cell?_of_block (a := ⟨p, 1, none⟩) hbl).trans k2, (World.cell?_of_block (a := ⟨p, 2, none⟩) hbl).trans k3, (World.cell?_of_block (a := ⟨p, 3, none⟩) hbl).trans k4⟩
                        · rw [hA]
                          exact acAt_row (a := { a with l := O }) hrow
                        · rw [hA]
                          exact HO.out
                    | false =>
                      have HW := Lib.hid (show a' = a by
                        rw [HAE.out]
                        unfold twin
                        rw [hbb] at HHB
                        have := HHB.out
                        rw [if_neg (fun e => by rw [e.1, HR.out, decide_eq_true e.2] at this; cases this)])
                      clear hbb
                      go_wp2
                      go_meet
                      case rel => exact ⟨_, Lib.hid ⟨HC.out.1, HC.out.2.1, by rw [HW.out]; exact HC.out.2.2.1, by rw [HW.out]; exact HS.out⟩⟩
                  case rest =>
                    obtain ⟨uv, HD⟩ := hcut
                    obtain ⟨x1, hx1⟩ : ∃ x, x = wc := ⟨_, rfl⟩
                    rw [← hx1] at HD ⊢
                    clear hx1
                    have HT1 := Lib.hid (HK.out.2.1.below HD.out.1)
                    have HU1 := Lib.hid (HK.out.2.2.1.below HD.out.1)
                    have HB1 := Lib.hid (HK.out.1.trans (HD.out.1.mono HK.out.1.size))
                    have HPQ := Lib.hid (show p ≠ bT ∧ p ≠ bT + 1 ∧ q ≠ bT ∧ q ≠ bT + 1 ∧ w.heap.size ≤ bT by have := HC.out.2.2.2.2; have := HLB.out; have := HBT.out; omega)
                    have HALN := Lib.hid (show Alike (doT a t) (doT a' u) by rw [HAE.out]; exact alike_do HAL.out O (fun e => H7T.out (by rw [HR.out]; exact e)))
                    have HDA := Lib.hid (fun wx (hx : Below w.heap.size w wx) => does_any a (.slice va vn vc) t HOKA.out HAL.out.tok wx (HS.out.below hx))
                    have HDB := Lib.hid (fun wx (hx : Below w.heap.size w wx) => does_any a' uv u (by rw [HAE.out]; exact twin_ok HOKA.out O) HAL.out.uok wx (HD.out.2.2.2.below hx))
                    obtain ⟨t1, ht1⟩ : ∃ x, x = doT a t := ⟨_, rfl⟩
                    obtain ⟨u1', hu1⟩ : ∃ x, x = doT a' u := ⟨_, rfl⟩
                    rw [← ht1] at HDA HALN
                    rw [← hu1] at HDB HALN
                    have HPA := Lib.hid HD.out.2.1
                    have HQA := Lib.hid HD.out.2.2.1
                    clear ht1 hu1 HT HU HBX HC HAE HHB HD
                    obtain ⟨_, a0, a1, a2, a3⟩ := HPA.out
                    obtain ⟨c0, c1, c2, c3, c4, c5, c6, c7, c8, c9, c10⟩ := HT1.out.cells
                    go_wp2_with fail
                    refine (HDA.out _ HB1.out).mono ?_
                    rintro e x2 ⟨rfl, bb⟩
                    have HT2 := Lib.hid (HT1.out.below bb)
                    have HU2 := Lib.hid (HU1.out.below bb)
                    have HQ2 := Lib.hid (HQA.out.below bb)
                    have HB2 := Lib.hid (HB1.out.trans (bb.mono HB1.out.size))
                    clear bb HDA a0 a1 a2 a3 c0 c1 c2 c3 c4 c5 c6 c7 c8 c9 c10 HT1 HU1 HPA HQA HB1
                    obtain ⟨c0, c1, c2, c3, c4, c5, c6, c7, c8, c9, c10⟩ := HT2.out.cells
                    have f := zeros_at HT2.out
                    have f0 := f 0
                    have f1 := f 1
                    have f2 := f 2
                    have f3 := f 3
                    have f4 := f 4
                    have f5 := f 5
                    have f6 := f 6
                    have f7 := f 7
                    have f8 := f 8
                    have f9 := f 9
                    have f10 := f 10
                    clear f
                    obtain ⟨x3, hx3⟩ : ∃ x, x = (((((((((((x2.setCell ⟨bT, 0, none⟩ (wV t1.L 0)).setCell ⟨bT, 1, none⟩ (wV t1.L 1)).setCell ⟨bT, 2, none⟩ (wV t1.L 2)).setCell ⟨bT, 3, none⟩ (wV t1.L 3)).setCell ⟨bT, 4, none⟩ (wV t1.L 4)).setCell ⟨bT, 5, none⟩ (wV t1.L 5)).setCell ⟨bT, 6, none⟩ (wV t1.L 6)).setCell ⟨bT, 7, none⟩ (wV t1.L 7)).setCell ⟨bT, 8, none⟩ (.int .i64 (t1.L.length : Nat))).setCell ⟨bT, 9, none⟩ (.int .u8 (t1.b : Nat))).setCell ⟨bT, 10, none⟩ (.int .u8 (t1.l : Nat))) := ⟨_, rfl⟩
                    have HT3 := Lib.hid (show TbAt x3 bT t1 by rw [hx3]; exact putT_at HT2.out t1)
                    have HU3 := Lib.hid (show TbAt x3 (bT + 1) u by rw [hx3]; exact putT_other HU2.out (by omega))
                    have HQ3 := Lib.hid (show AcAt x3 q a' uv by rw [hx3]; exact HQ2.out.putT HPQ.out.2.2.1 t1)
                    have HB3 := Lib.hid (show Below w.heap.size w x3 by rw [hx3]; exact HB2.out.trans ((putT_below (b := bT) (Nat.le_refl _) t1).mono HPQ.out.2.2.2.2))
                    go_upto_region 12 with (fail)
                    rw [← hx3]
                    clear hx3 c0 c1 c2 c3 c4 c5 c6 c7 c8 c9 c10 f0 f1 f2 f3 f4 f5 f6 f7 f8 f9 f10 HT2 HU2 HQ2 HB2
                    obtain ⟨_, a0, a1, a2, a3⟩ := HQ3.out
                    obtain ⟨c0, c1, c2, c3, c4, c5, c6, c7, c8, c9, c10⟩ := HU3.out.cells
                    go_wp2_with fail
                    refine (HDB.out _ HB3.out).mono ?_
                    rintro e x4 ⟨rfl, bb⟩
                    have HT4 := Lib.hid (HT3.out.below bb)
                    have HU4 := Lib.hid (HU3.out.below bb)
                    have HB4 := Lib.hid (HB3.out.trans (bb.mono HB3.out.size))
                    clear bb HDB a0 a1 a2 a3 c0 c1 c2 c3 c4 c5 c6 c7 c8 c9 c10 HT3 HU3 HQ3 HB3
                    obtain ⟨c0, c1, c2, c3, c4, c5, c6, c7, c8, c9, c10⟩ := HU4.out.cells
                    have f := zeros_at HU4.out
                    have f0 := f 0
                    have f1 := f 1
                    have f2 := f 2
                    have f3 := f 3
                    have f4 := f 4
                    have f5 := f 5
                    have f6 := f 6
                    have f7 := f 7
                    have f8 := f 8
                    have f9 := f 9
                    have f10 := f 10
                    clear f
                    obtain ⟨x5, hx5⟩ : ∃ x, x = (((((((((((x4.setCell ⟨bT + 1, 0, none⟩ (wV u1'.L 0)).setCell ⟨bT + 1, 1, none⟩ (wV u1'.L 1)).setCell ⟨bT + 1, 2, none⟩ (wV u1'.L 2)).setCell ⟨bT + 1, 3, none⟩ (wV u1'.L 3)).setCell ⟨bT + 1, 4, none⟩ (wV u1'.L 4)).setCell ⟨bT + 1, 5, none⟩ (wV u1'.L 5)).setCell ⟨bT + 1, 6, none⟩ (wV u1'.L 6)).setCell ⟨bT + 1, 7, none⟩ (wV u1'.L 7)).setCell ⟨bT + 1, 8, none⟩ (.int .i64 (u1'.L.length : Nat))).setCell ⟨bT + 1, 9, none⟩ (.int .u8 (u1'.b : Nat))).setCell ⟨bT + 1, 10, none⟩ (.int .u8 (u1'.l : Nat))) := ⟨_, rfl⟩
                    have HT5 := Lib.hid (show TbAt x5 bT t1 by rw [hx5]; exact putT_other HT4.out (by omega))
                    have HU5 := Lib.hid (show TbAt x5 (bT + 1) u1' by rw [hx5]; exact putT_at HU4.out u1')
                    have HB5 := Lib.hid (show Below w.heap.size w x5 by rw [hx5]; exact HB4.out.trans ((putT_below (b := bT + 1) (Nat.le_refl _) u1').mono (by have := HPQ.out.2.2.2.2; omega)))
                    go_upto_region 13 with (fail)
                    rw [← hx5]
                    clear hx5 c0 c1 c2 c3 c4 c5 c6 c7 c8 c9 c10 f0 f1 f2 f3 f4 f5 f6 f7 f8 f9 f10 HT4 HU4 HB4
                    have HLT := Lib.hid (fun w => label_any t1 w)
                    have HLU := Lib.hid (fun w => label_any u1' w)
                    have HCT := Lib.hid (fun w => cols_any t1 w)
                    have HCU := Lib.hid (fun w => cols_any u1' w)
                    rw [← HALN.out.l] at HLU
                    rw [← HALN.out.len] at HCU
                    obtain ⟨l1, hl1⟩ : ∃ l, l = t1.l := ⟨_, rfl⟩
                    obtain ⟨m1, hm1⟩ : ∃ m, m = t1.L.length := ⟨_, rfl⟩
                    have HL1 := Lib.hid hl1
                    rw [← hl1] at HLT HLU
                    rw [← hm1] at HCT HCU
                    clear hl1 hm1
                    have KEEP := Lib.hid (show ∀ wx, Below x5.heap.size x5 wx → (wx.cell? ⟨bT, 0, none⟩ = some (wV t1.L 0) ∧ wx.cell? ⟨bT, 1, none⟩ = some (wV t1.L 1) ∧ wx.cell? ⟨bT, 2, none⟩ = some (wV t1.L 2) ∧ wx.cell? ⟨bT, 3, none⟩ = some (wV t1.L 3) ∧ wx.cell? ⟨bT, 4, none⟩ = some (wV t1.L 4) ∧ wx.cell? ⟨bT, 5, none⟩ = some (wV t1.L 5) ∧ wx.cell? ⟨bT, 6, none⟩ = some (wV t1.L 6) ∧ wx.cell? ⟨bT, 7, none⟩ = some (wV t1.L 7) ∧ wx.cell? ⟨bT, 8, none⟩ = some (.int .i64 (t1.L.length : Nat)) ∧ wx.cell? ⟨bT, 9, none⟩ = some (.int .u8 (t1.b : Nat)) ∧ wx.cell? ⟨bT, 10, none⟩ = some (.int .u8 (t1.l : Nat))) ∧ wx.cell? ⟨bT + 1, 0, none⟩ = some (wV u1'.L 0) ∧ wx.cell? ⟨bT + 1, 1, none⟩ = some (wV u1'.L 1) ∧ wx.cell? ⟨bT + 1, 2, none⟩ = some (wV u1'.L 2) ∧ wx.cell? ⟨bT + 1, 3, none⟩ = some (wV u1'.L 3) ∧ wx.cell? ⟨bT + 1, 4, none⟩ = some (wV u1'.L 4) ∧ wx.cell? ⟨bT + 1, 5, none⟩ = some (wV u1'.L 5) ∧ wx.cell? ⟨bT + 1, 6, none⟩ = some (wV u1'.L 6) ∧ wx.cell? ⟨bT + 1, 7, none⟩ = some (wV u1'.L 7) ∧ wx.cell? ⟨bT + 1, 8, none⟩ = some (.int .i64 (u1'.L.length : Nat)) ∧ wx.cell? ⟨bT + 1, 9, none⟩ = some (.int .u8 (u1'.b : Nat)) ∧ wx.cell? ⟨bT + 1, 10, none⟩ = some (.int .u8 (u1'.l : Nat)) from fun wx hx => ⟨(HT5.out.below hx).cells, (HU5.out.below hx).cells⟩)
                    by_cases hl0 : l1 = 0
                    · have g0 : ((l1 : Int) == 0) = true := by rw [hl0]; rfl
                      have hq : ∀ w, (Op.equalIn 10000 TB (tbV t1) (tbV u1')).run Try.prog w = .ok true w := fun w => by
                        rw [eqTb t1 u1' HALN.out.tok w]
                        congr 1
                        exact decide_eq_true ⟨HALN.out.low (by rw [← HL1.out]; exact hl0), HALN.out.b.1.trans HALN.out.b.2.symm, HALN.out.l⟩
                      clear hl0
                      refine region_but (S := (fun wx => (wx.cell? ⟨bT, 0, none⟩ = some (wV t1.L 0) ∧ wx.cell? ⟨bT, 1, none⟩ = some (wV t1.L 1) ∧ wx.cell? ⟨bT, 2, none⟩ = some (wV t1.L 2) ∧ wx.cell? ⟨bT, 3, none⟩ = some (wV t1.L 3) ∧ wx.cell? ⟨bT, 4, none⟩ = some (wV t1.L 4) ∧ wx.cell? ⟨bT, 5, none⟩ = some (wV t1.L 5) ∧ wx.cell? ⟨bT, 6, none⟩ = some (wV t1.L 6) ∧ wx.cell? ⟨bT, 7, none⟩ = some (wV t1.L 7) ∧ wx.cell? ⟨bT, 8, none⟩ = some (.int .i64 (t1.L.length : Nat)) ∧ wx.cell? ⟨bT, 9, none⟩ = some (.int .u8 (t1.b : Nat)) ∧ wx.cell? ⟨bT, 10, none⟩ = some (.int .u8 (t1.l : Nat))) ∧ wx.cell? ⟨bT + 1, 0, none⟩ = some (wV u1'.L 0) ∧ wx.cell? ⟨bT + 1, 1, none⟩ = some (wV u1'.L 1) ∧ wx.cell? ⟨bT + 1, 2, none⟩ = some (wV u1'.L 2) ∧ wx.cell? ⟨bT + 1, 3, none⟩ = some (wV u1'.L 3) ∧ wx.cell? ⟨bT + 1, 4, none⟩ = some (wV u1'.L 4) ∧ wx.cell? ⟨bT + 1, 5, none⟩ = some (wV u1'.L 5) ∧ wx.cell? ⟨bT + 1, 6, none⟩ = some (wV u1'.L 6) ∧ wx.cell? ⟨bT + 1, 7, none⟩ = some (wV u1'.L 7) ∧ wx.cell? ⟨bT + 1, 8, none⟩ = some (.int .i64 (u1'.L.length : Nat)) ∧ wx.cell? ⟨bT + 1, 9, none⟩ = some (.int .u8 (u1'.b : Nat)) ∧ wx.cell? ⟨bT + 1, 10, none⟩ = some (.int .u8 (u1'.l : Nat)))) 21 (by kernel_rfl) (KEEP.out _ ((Below.refl _ _).drew)) (fun hHeld => ?_)
                      obtain ⟨wz, hwz⟩ : ∃ X, X = x5.drew := ⟨_, rfl⟩
                      have HX := Lib.hid (show Below x5.heap.size x5 wz by rw [hwz]; exact (Below.refl _ _).drew)
                      replace hHeld := KEEP.out _ HX.out
                      rw [← hwz]
                      clear hwz
                      refine ti 0 rfl (fun w hSw => by (try dsimp only at hSw); go_simp; try with_reducible rfl) ?_
                      go_frame
                      refine ti 2 rfl (fun w hSw => by (try dsimp only at hSw); go_simp; try with_reducible rfl) ?_
                      go_frame
                      refine th 1 rfl (by kernel_rfl) (by decide) (by kernel_rfl) (fun K hK => ?_)
                      go_simp
                      refine (HLT.out _).mono ?_
                      rintro e z1 ⟨rfl, bb⟩
                      replace HX := Lib.hid (HX.out.trans (bb.mono HX.out.size))
                      clear bb
                      go_wp2_with fail
                      refine hK.out _ _ (KEEP.out _ HX.out) (fun hHeld => ?_)
                      clear hK K
                      try go_frame
                      refine th 3 rfl (by kernel_rfl) (by decide) (by kernel_rfl) (fun K hK => ?_)
                      go_simp
                      refine (HLU.out _).mono ?_
                      rintro e z2 ⟨rfl, bb⟩
                      replace HX := Lib.hid (HX.out.trans (bb.mono HX.out.size))
                      clear bb
                      go_wp2_with fail
                      refine hK.out _ _ (KEEP.out _ HX.out) (fun hHeld => ?_)
                      clear hK K
                      try go_frame
                      refine ti 4 rfl (fun w hSw => by (try dsimp only at hSw); go_simp; try with_reducible rfl) ?_
                      go_frame
                      refine ti 5 rfl (fun w hSw => by (try dsimp only at hSw); go_simp; try with_reducible rfl) ?_
                      go_frame
                      refine ti 6 rfl (fun w hSw => by (try dsimp only at hSw); go_simp; try with_reducible rfl) ?_
                      go_frame
                      refine ti 8 rfl (fun w hSw => by (try dsimp only at hSw); go_simp; try with_reducible rfl) ?_
                      go_frame
                      refine th 7 rfl (by kernel_rfl) (by decide) (by kernel_rfl) (fun K hK => ?_)
                      go_simp
                      refine (HCT.out _).mono ?_
                      rintro e z3 ⟨rfl, bb⟩
                      replace HX := Lib.hid (HX.out.trans (bb.mono HX.out.size))
                      clear bb
                      go_wp2_with fail
                      refine hK.out _ _ (KEEP.out _ HX.out) (fun hHeld => ?_)
                      clear hK K
                      try go_frame
                      refine th 9 rfl (by kernel_rfl) (by decide) (by kernel_rfl) (fun K hK => ?_)
                      go_simp
                      refine (HCU.out _).mono ?_
                      rintro e z4 ⟨rfl, bb⟩
                      replace HX := Lib.hid (HX.out.trans (bb.mono HX.out.size))
                      clear bb
                      go_wp2_with fail
                      refine hK.out _ _ (KEEP.out _ HX.out) (fun hHeld => ?_)
                      clear hK K
                      try go_frame
                      refine ti 10 rfl (fun w hSw => by (try dsimp only at hSw); go_simp; try with_reducible rfl) ?_
                      go_frame
                      refine ti 11 rfl (fun w hSw => by (try dsimp only at hSw); go_simp; try with_reducible rfl) ?_
                      go_frame
                      refine ti 12 rfl (fun w hSw => by (try dsimp only at hSw); go_simp; try with_reducible rfl) ?_
                      go_frame
                      refine ti 13 rfl (fun w hSw => by (try dsimp only at hSw); go_simp; try with_reducible rfl) ?_
                      go_frame
                      refine th 14 rfl (by kernel_rfl) (by decide) (by kernel_rfl) (fun K hK => ?_)
                      go_simp
                      refine (HLT.out _).mono ?_
                      rintro e z5 ⟨rfl, bb⟩
                      replace HX := Lib.hid (HX.out.trans (bb.mono HX.out.size))
                      clear bb
                      go_wp2_with fail
                      refine hK.out _ _ (KEEP.out _ HX.out) (fun hHeld => ?_)
                      clear hK K
                      try go_frame
                      refine ti 15 rfl (fun w hSw => by (try dsimp only at hSw); go_simp; try with_reducible rfl) ?_
                      go_frame
                      refine ti 16 rfl (fun w hSw => by (try dsimp only at hSw); go_simp; try with_reducible rfl) ?_
                      go_frame
                      refine ti 17 rfl (fun w hSw => by (try dsimp only at hSw); go_simp; try with_reducible rfl) ?_
                      go_frame
                      refine ti 18 rfl (fun w hSw => by (try dsimp only at hSw); go_simp; try with_reducible rfl) ?_
                      go_frame
                      refine ti 19 rfl (fun w hSw => by (try dsimp only at hSw); go_simp; try with_reducible rfl) ?_
                      go_frame
                      refine ti 20 rfl (fun w hSw => by (try dsimp only at hSw); go_simp; try with_reducible rfl) ?_
                      go_frame
                      refine tx rfl (by kernel_rfl) (by kernel_rfl) (by kernel_rfl) (fun K hK => ?_)
                      go_simp
                      refine hK.out _ _ ?_
                      clear hK K hHeld KEEP
                      try go_frame
                      go_wp2
                      go_roundw
                      case rel => exact ⟨i + 1, t1, u1', by go_num, Lib.hid ⟨H12.out.1, H12.out.2⟩, Lib.hid ⟨HB5.out.trans (HX.out.mono HB5.out.size), HT5.out.below HX.out, HU5.out.below HX.out, HALN.out⟩⟩
                      case measure => simp only [intOf]; have := H12.out; omega
                    · have g0 : ((l1 : Int) == 0) = false := by simp; omega
                      clear hl0
                      refine region_but (S := (fun wx => (wx.cell? ⟨bT, 0, none⟩ = some (wV t1.L 0) ∧ wx.cell? ⟨bT, 1, none⟩ = some (wV t1.L 1) ∧ wx.cell? ⟨bT, 2, none⟩ = some (wV t1.L 2) ∧ wx.cell? ⟨bT, 3, none⟩ = some (wV t1.L 3) ∧ wx.cell? ⟨bT, 4, none⟩ = some (wV t1.L 4) ∧ wx.cell? ⟨bT, 5, none⟩ = some (wV t1.L 5) ∧ wx.cell? ⟨bT, 6, none⟩ = some (wV t1.L 6) ∧ wx.cell? ⟨bT, 7, none⟩ = some (wV t1.L 7) ∧ wx.cell? ⟨bT, 8, none⟩ = some (.int .i64 (t1.L.length : Nat)) ∧ wx.cell? ⟨bT, 9, none⟩ = some (.int .u8 (t1.b : Nat)) ∧ wx.cell? ⟨bT, 10, none⟩ = some (.int .u8 (t1.l : Nat))) ∧ wx.cell? ⟨bT + 1, 0, none⟩ = some (wV u1'.L 0) ∧ wx.cell? ⟨bT + 1, 1, none⟩ = some (wV u1'.L 1) ∧ wx.cell? ⟨bT + 1, 2, none⟩ = some (wV u1'.L 2) ∧ wx.cell? ⟨bT + 1, 3, none⟩ = some (wV u1'.L 3) ∧ wx.cell? ⟨bT + 1, 4, none⟩ = some (wV u1'.L 4) ∧ wx.cell? ⟨bT + 1, 5, none⟩ = some (wV u1'.L 5) ∧ wx.cell? ⟨bT + 1, 6, none⟩ = some (wV u1'.L 6) ∧ wx.cell? ⟨bT + 1, 7, none⟩ = some (wV u1'.L 7) ∧ wx.cell? ⟨bT + 1, 8, none⟩ = some (.int .i64 (u1'.L.length : Nat)) ∧ wx.cell? ⟨bT + 1, 9, none⟩ = some (.int .u8 (u1'.b : Nat)) ∧ wx.cell? ⟨bT + 1, 10, none⟩ = some (.int .u8 (u1'.l : Nat)))) 21 (by kernel_rfl) (KEEP.out _ ((Below.refl _ _).drew)) (fun hHeld => ?_)
                      obtain ⟨wz, hwz⟩ : ∃ X, X = x5.drew := ⟨_, rfl⟩
                      have HX := Lib.hid (show Below x5.heap.size x5 wz by rw [hwz]; exact (Below.refl _ _).drew)
                      replace hHeld := KEEP.out _ HX.out
                      rw [← hwz]
                      clear hwz
                      refine ti 0 rfl (fun w hSw => by (try dsimp only at hSw); go_simp; try with_reducible rfl) ?_
                      go_frame
                      refine ti 2 rfl (fun w hSw => by (try dsimp only at hSw); go_simp; try with_reducible rfl) ?_
                      go_frame
                      refine th 1 rfl (by kernel_rfl) (by decide) (by kernel_rfl) (fun K hK => ?_)
                      go_simp
                      refine (HLT.out _).mono ?_
                      rintro e z1 ⟨rfl, bb⟩
                      replace HX := Lib.hid (HX.out.trans (bb.mono HX.out.size))
                      clear bb
                      go_wp2_with fail
                      refine hK.out _ _ (KEEP.out _ HX.out) (fun hHeld => ?_)
                      clear hK K
                      try go_frame
                      refine th 3 rfl (by kernel_rfl) (by decide) (by kernel_rfl) (fun K hK => ?_)
                      go_simp
                      refine (HLU.out _).mono ?_
                      rintro e z2 ⟨rfl, bb⟩
                      replace HX := Lib.hid (HX.out.trans (bb.mono HX.out.size))
                      clear bb
                      go_wp2_with fail
                      refine hK.out _ _ (KEEP.out _ HX.out) (fun hHeld => ?_)
                      clear hK K
                      try go_frame
                      refine ti 4 rfl (fun w hSw => by (try dsimp only at hSw); go_simp; try with_reducible rfl) ?_
                      go_frame
                      refine ti 5 rfl (fun w hSw => by (try dsimp only at hSw); go_simp; try with_reducible rfl) ?_
                      go_frame
                      refine ti 6 rfl (fun w hSw => by (try dsimp only at hSw); go_simp; try with_reducible rfl) ?_
                      go_frame
                      refine ti 8 rfl (fun w hSw => by (try dsimp only at hSw); go_simp; try with_reducible rfl) ?_
                      go_frame
                      refine th 7 rfl (by kernel_rfl) (by decide) (by kernel_rfl) (fun K hK => ?_)
                      go_simp
                      refine (HCT.out _).mono ?_
                      rintro e z3 ⟨rfl, bb⟩
                      replace HX := Lib.hid (HX.out.trans (bb.mono HX.out.size))
                      clear bb
                      go_wp2_with fail
                      refine hK.out _ _ (KEEP.out _ HX.out) (fun hHeld => ?_)
                      clear hK K
                      try go_frame
                      refine th 9 rfl (by kernel_rfl) (by decide) (by kernel_rfl) (fun K hK => ?_)
                      go_simp
                      refine (HCU.out _).mono ?_
                      rintro e z4 ⟨rfl, bb⟩
                      replace HX := Lib.hid (HX.out.trans (bb.mono HX.out.size))
                      clear bb
                      go_wp2_with fail
                      refine hK.out _ _ (KEEP.out _ HX.out) (fun hHeld => ?_)
                      clear hK K
                      try go_frame
                      refine ti 10 rfl (fun w hSw => by (try dsimp only at hSw); go_simp; try with_reducible rfl) ?_
                      go_frame
                      refine ti 11 rfl (fun w hSw => by (try dsimp only at hSw); go_simp; try with_reducible rfl) ?_
                      go_frame
                      refine ti 12 rfl (fun w hSw => by (try dsimp only at hSw); go_simp; try with_reducible rfl) ?_
                      go_frame
                      refine ti 13 rfl (fun w hSw => by (try dsimp only at hSw); go_simp; try with_reducible rfl) ?_
                      go_frame
                      refine th 14 rfl (by kernel_rfl) (by decide) (by kernel_rfl) (fun K hK => ?_)
                      go_simp
                      refine (HLT.out _).mono ?_
                      rintro e z5 ⟨rfl, bb⟩
                      replace HX := Lib.hid (HX.out.trans (bb.mono HX.out.size))
                      clear bb
                      go_wp2_with fail
                      refine hK.out _ _ (KEEP.out _ HX.out) (fun hHeld => ?_)
                      clear hK K
                      try go_frame
                      refine ti 15 rfl (fun w hSw => by (try dsimp only at hSw); go_simp; try with_reducible rfl) ?_
                      go_frame
                      refine ti 16 rfl (fun w hSw => by (try dsimp only at hSw); go_simp; try with_reducible rfl) ?_
                      go_frame
                      refine ts 17 rfl ?_
                      go_frame
                      refine ts 18 rfl ?_
                      go_frame
                      refine ts 19 rfl ?_
                      go_frame
                      refine ti 20 rfl (fun w hSw => by (try dsimp only at hSw); go_simp; try with_reducible rfl) ?_
                      go_frame
                      refine tx rfl (by kernel_rfl) (by kernel_rfl) (by kernel_rfl) (fun K hK => ?_)
                      go_simp
                      refine hK.out _ _ ?_
                      clear hK K hHeld KEEP
                      try go_frame
                      go_wp2
                      go_roundw
                      case rel => exact ⟨i + 1, t1, u1', by go_num, Lib.hid ⟨H12.out.1, H12.out.2⟩, Lib.hid ⟨HB5.out.trans (HX.out.mono HB5.out.size), HT5.out.below HX.out, HU5.out.below HX.out, HALN.out⟩⟩
                      case measure => simp only [intOf]; have := H12.out; omega
        · have g2 : ¬ (i : Int) < 40 := by omega
          go_wp2
          go_meet
          case rel => exact Lib.hid HK.out.1
      · go_wp2
        go_meet
        case rel => exact Lib.hid HK.out.1
  case rest =>
    have HE := Lib.hid hcut.out
    clear hcut
    go_wp2
    go_ret
    exact ⟨rfl, HE.out⟩
end Go.Proofs.Ytmdpdogjpdkanaa.Lab
