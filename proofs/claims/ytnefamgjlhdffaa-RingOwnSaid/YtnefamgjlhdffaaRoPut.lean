/- Drafts in memory; the reference's labels. Rows that are drawn: plain mathematics: whole, their labels, what Low sees of one with other High cells. The reference's Put, where the cell fits. -/
import Derived.Test.YtnefamgjlhdffaaRoDra
import Derived.Test.YtnefamgjlhdffaaRoLow
import Derived.Test.YtnefamgjlhdffaaRoBrk
import Derived.Test.YtnefamgjlhdffaaRoMove
namespace Go.Proofs.Ytnefamgjlhdffaa.Lab
open Go Go.RowKit

/-- A draft stands at a place of a block. -/
def D5 (w : World) (g o : Nat) (d : Dc) : Prop := w.cell? ⟨g, o, none⟩ = some (.int .u8 (d.ru : Nat)) ∧ w.cell? ⟨g, o + 1, none⟩ = some (.int .u8 (d.ms : Nat)) ∧ w.cell? ⟨g, o + 2, none⟩ = some (.int .u8 (d.at1 : Nat)) ∧ w.cell? ⟨g, o + 3, none⟩ = some (.bool d.wide) ∧ w.cell? ⟨g, o + 4, none⟩ = some (.bool d.high)
theorem D5.same {w w' : World} {g o : Nat} {d : Dc} (h : D5 w g o d) (e : w'.heap[g]? = w.heap[g]?) : D5 w' g o d := by
  have k : ∀ i, w'.cell? ⟨g, i, none⟩ = w.cell? ⟨g, i, none⟩ := fun i => World.cell?_of_block e
  obtain ⟨h1, h2, h3, h4, h5⟩ := h
  exact ⟨(k _).trans h1, (k _).trans h2, (k _).trans h3, (k _).trans h4, (k _).trans h5⟩
abbrev Dc.z : Dc := ⟨0, 0, 0, false, false⟩
/-- Drafts as they come in. -/
def DsIn (w : World) (v : Value) (L : List Dc) : Prop :=
  ∃ a c, v = .slice a L.length c ∧ L.length ≤ maxLen ∧ (∀ d ∈ L, d.ok) ∧ (0 < L.length → ∃ g o, a = some ⟨g, o, none⟩ ∧ g < w.heap.size ∧ ∀ i, i < L.length → D5 w g (o + i * 5) (L.getD i Dc.z))
theorem DsIn.below {w w' : World} {v : Value} {L : List Dc} (h : DsIn w v L) (hb : Below w.heap.size w w') : DsIn w' v L := by
  obtain ⟨a, c, e, hm, ho, h⟩ := h
  refine ⟨a, c, e, hm, ho, fun h0 => ?_⟩
  obtain ⟨g, o, ea, hg, hC⟩ := h h0
  exact ⟨g, o, ea, Nat.lt_of_lt_of_le hg hb.size, fun i hi => (hC i hi).same (hb.block g hg)⟩
theorem DsIn.shape {w : World} {v : Value} {L : List Dc} (h : DsIn w v L) : ∃ a c, v = .slice a L.length c := by
  obtain ⟨a, c, e, _⟩ := h
  exact ⟨a, c, e⟩
theorem DsIn.open {w : World} {v : Value} {L : List Dc} (h : DsIn w v L) (h0 : 0 < L.length) : ∃ g o c, v = .slice (some ⟨g, o, none⟩) L.length c ∧ g < w.heap.size ∧ ∀ i, i < L.length → D5 w g (o + i * 5) (L.getD i Dc.z) := by
  obtain ⟨a, c, e, _, _, h⟩ := h
  obtain ⟨g, o, ea, hg, hC⟩ := h h0
  exact ⟨g, o, c, by rw [e, ea], hg, hC⟩
/-- A line in a block of its own. -/
def LnAt (w : World) (b : Nat) (cols : Nat) (v : Value) : Prop := b < w.heap.size ∧ w.cell? ⟨b, 0, none⟩ = some (.int .u8 (cols : Nat)) ∧ w.cell? ⟨b, 1, none⟩ = some v
theorem LnAt.same {w w' : World} {b cols : Nat} {v : Value} (h : LnAt w b cols v) (hs : w.heap.size ≤ w'.heap.size) (e : w'.heap[b]? = w.heap[b]?) : LnAt w' b cols v :=
  ⟨by have := h.1; omega, (World.cell?_of_block (a := ⟨b, 0, none⟩) e).trans h.2.1, (World.cell?_of_block (a := ⟨b, 1, none⟩) e).trans h.2.2⟩
theorem LnAt.below {w w' : World} {b cols : Nat} {v : Value} (h : LnAt w b cols v) (hb : Below w.heap.size w w') : LnAt w' b cols v := h.same hb.size (hb.block b h.1)
theorem LnAt.newAt (w : World) (n : Nat) (hn : n = w.heap.size) (cols : Nat) (v : Value) (T : TypeId) : LnAt (w.alloc (.cells #[.int .u8 (cols : Nat), v] T)) n cols v := by
  subst hn
  exact ⟨by simp, by simp, by simp⟩
/-- Levels in a row of the call's own. -/
abbrev lvV (l : List Int) : List Value := l.map (Value.int .u8)
def LRow (w : World) (lo : Nat) (v : Value) (l : List Int) : Prop := w.ownsRow lo 25 1 v l.length (lvV l)
theorem LRow.below {w w' : World} {lo : Nat} {v : Value} {l : List Int} (h : LRow w lo v l) (hb : Below w.heap.size w w') : LRow w' lo v l := own_below h hb
theorem LRow.shape {w : World} {lo : Nat} {v : Value} {l : List Int} (h : LRow w lo v l) : ∃ a c, v = .slice a l.length c := by
  rcases h.2 with ⟨rfl, h0⟩ | ⟨g, cap, cur, rfl, _⟩
  · exact ⟨none, 0, by rw [h0]⟩
  · exact ⟨_, cap, rfl⟩
theorem LRow.cell {w : World} {lo n c : Nat} {a : Option Addr} {l : List Int} (h : LRow w lo (.slice a n c) l) (h0 : 0 < l.length) : ∃ g, a = some ⟨g, 0, none⟩ ∧ lo ≤ g ∧ g < w.heap.size ∧ ∀ j, j < l.length → w.cell? ⟨g, j, none⟩ = some (.int .u8 (l.getD j 0)) := by
  rcases h.2 with ⟨e, h1⟩ | ⟨g, cap, cur, e, _⟩
  · omega
  · injection e with e1 e2 e3
    subst e1
    refine ⟨g, rfl, (h.lt g rfl).1, (h.lt g rfl).2, fun j hj => ?_⟩
    have := h.cells (g := g) rfl j (.int .u8 (l.getD j 0)) (by rw [List.getElem?_map, List.getElem?_eq_getElem hj, List.getD_eq_getElem?_getD, List.getElem?_eq_getElem hj]; rfl)
    rwa [Addr.add_mid, Nat.zero_add] at this
def labD (L : List Dc) (i : Nat) : Int := if L.length = 0 then 0 else if (L.getD (i % L.length) Dc.z).high then 1 else 0
def labM (cols : Nat) (L : List Dc) : List Int := (List.range (cols % 31)).map (labD L)
theorem labM_len (cols : Nat) (L : List Dc) : (labM cols L).length = cols % 31 := by simp [labM]
theorem labM_snoc (L : List Dc) (k : Nat) : (List.range (k + 1)).map (labD L) = (List.range k).map (labD L) ++ [labD L k] := by rw [List.range_succ, List.map_append]; rfl
theorem infoLv : (Try.prog.info? 25).map (fun i => (i.zero, i.size, i.bytes)) = some (some (.int .u8 0), 1, 1) := by kernel_rfl
theorem new_cells (w : World) (l : List Value) (T : TypeId) (n : Nat) (hn : n = w.heap.size) : ∀ j u, l[j]? = some u → (w.alloc (.cells l.toArray T)).cell? ((⟨n, 0, none⟩ : Addr).add j) = some u := by
  intro j u hj
  have hp : (⟨n, 0, none⟩ : Addr).add j = ⟨n, 0 + j, none⟩ := by unfold Addr.add; split <;> simp_all
  rw [hp, Nat.zero_add, World.cell?_alloc_at _ _ _ _ hn, List.getElem?_toArray]
  exact hj
def LabOut (w : World) (l : List Int) (e : Ending) (w' : World) : Prop := ∃ v, e = .returned v ∧ LRow w' w.heap.size v l ∧ Below w.heap.size w w'
set_option maxHeartbeats 8000000 in
set_option maxRecDepth 100000 in
theorem rlabels_any (w : World) (cols : Nat) (v : Value) (L : List Dc) (hc : cols < 256) (h : DsIn w v L) : Calls Try.prog 47 #[.agg #[.int .u8 (cols : Nat), v]] w (LabOut w (labM cols L)) := by
  obtain ⟨la, lc, rfl⟩ := h.shape
  obtain ⟨n, hn⟩ : ∃ n, n = L.length := ⟨_, rfl⟩
  have HN := Lib.hid hn
  obtain ⟨w0, hw0⟩ : ∃ w0, w0 = w.alloc (.cells #[.int .u8 (cols : Nat), .slice la n lc] 63) := ⟨_, rfl⟩
  have b0 : Below w.heap.size w w0 := by rw [hw0]; exact (Below.refl _ _).alloc (Nat.le_refl _) _
  have HA0 := Lib.hid (show LnAt w0 w.heap.size cols (.slice la n lc) by rw [hw0]; exact LnAt.newAt w _ rfl cols _ _)
  have HB0 := Lib.hid b0
  have HAL := Lib.hid (show w.heap.size < w0.heap.size from HA0.out.1)
  have HD := Lib.hid (h.below b0)
  rw [← hn] at HD ⊢
  have HS0 := Lib.hid (show w.heap.size ≤ w0.heap.size from b0.size)
  obtain ⟨q, hq⟩ : ∃ q, q = cols % 31 := ⟨_, rfl⟩
  have HQ := Lib.hid hq
  have e1 : (cols : Int).tmod 31 = (q : Int) := by rw [Int.tmod_eq_emod_of_nonneg (by omega)]; omega
  have e2 : (cols : Int) % 31 = (q : Int) := by omega
  have hq31 : q < 31 := by omega
  have e3 : IntKind.u8.wrap (q : Int) = (q : Int) := by rw [IntKind.wrap_u8]; omega
  have e4 : IntKind.i64.wrap (q : Int) = (q : Int) := by rw [IntKind.wrap_i64]; omega
  obtain ⟨ib, hi, hz0, hz1, hz2⟩ := info_parts infoLv
  clear h b0 hn hq
  go_enter Try.func47, Try.ntmps47
  go_upto_region 1 with (fail)
  rw [← hw0]
  clear hw0
  go_wp2
  go_loopg [3, 4] q (fun G u i wr => ∃ k : Nat, i = .int .i64 k ∧ k ≤ q ∧ q - k ≤ G ∧ Hid (LRow wr w0.heap.size u ((List.range k).map (labD L))) ∧ Hid (LnAt wr w.heap.size cols (.slice la n lc)) ∧ Hid (Below w0.heap.size w0 wr))
  case atStart => exact ⟨0, rfl, Nat.zero_le _, Nat.sub_le _ _, Lib.hid (World.ownsRow_nil _ _ _ 1), HA0, Lib.hid (Below.refl _ _)⟩
  case round =>
    obtain ⟨k, rfl, hkq, hgk, HR, HA, HW⟩ := hrel
    obtain ⟨_, y0, y1⟩ := HA.out
    by_cases hlt : k < q
    · by_cases hn0 : n = 0
      · subst hn0
        have HKEEP := Lib.hid (show ∀ W, Below wr.heap.size wr W → (fun w' => w'.cell? ⟨w.heap.size, 1, none⟩ = some (.slice la 0 lc)) W from fun W hb => (hb.cell (p := ⟨w.heap.size, 1, none⟩) HA.out.1).trans y1)
        dsimp only at HKEEP
        go_upto_region 6 with (fail)
        clear y0
        refine wp_region_held_drew (S := fun w' => w'.cell? ⟨w.heap.size, 1, none⟩ = some (.slice la 0 lc)) (by kernel_rfl) ?_ (fun hHeld => ?_)
        · exact HKEEP.out _ ⟨rfl, rfl, rfl, Nat.le_refl _, fun _ _ => rfl⟩
        obtain ⟨u0, hu0⟩ : ∃ u0, u0 = wr.drew := ⟨_, rfl⟩
        have bd : Below wr.heap.size wr u0 := by rw [hu0]; exact ⟨rfl, rfl, rfl, Nat.le_refl _, fun _ _ => rfl⟩
        replace hHeld : (fun w' => w'.cell? ⟨w.heap.size, 1, none⟩ = some (.slice la 0 lc)) u0 := HKEEP.out _ bd
        rw [← hu0]
        replace HR := Lib.hid (HR.out.below bd)
        replace HA := Lib.hid (HA.out.below bd)
        replace HW := Lib.hid (HW.out.trans (bd.mono HW.out.size))
        clear hu0 bd
        refine tk 0 rfl (fun w hSw => by (try dsimp only at hSw); go_simp; try with_reducible rfl) ?_
        go_frame
        refine tk 1 rfl (fun w hSw => by (try dsimp only at hSw); go_simp; try with_reducible rfl) ?_
        go_frame
        refine tk 2 rfl (fun w hSw => by (try dsimp only at hSw); go_simp; try with_reducible rfl) ?_
        go_frame
        refine tk 3 rfl (fun w hSw => by (try dsimp only at hSw); go_simp; try with_reducible rfl) ?_
        go_frame
        refine tk 4 rfl (fun w hSw => by (try dsimp only at hSw); go_simp; try with_reducible rfl) ?_
        go_frame
        refine sk 5 rfl ?_
        go_frame
        refine sk 6 rfl ?_
        go_frame
        refine sk 7 rfl ?_
        go_frame
        refine sk 8 rfl ?_
        go_frame
        refine sk 9 rfl ?_
        go_frame
        refine sk 10 rfl ?_
        go_frame
        refine sk 11 rfl ?_
        go_frame
        refine sk 12 rfl ?_
        go_frame
        refine sk 13 rfl ?_
        go_frame
        refine sk 14 rfl ?_
        go_frame
        refine tk 15 rfl (fun w hSw => by (try dsimp only at hSw); go_simp; try with_reducible rfl) ?_
        go_frame
        refine wpAnyH_done (by kernel_rfl) ?_ _
        obtain ⟨l0, hl0⟩ : ∃ l0, l0 = (List.range k).map (labD L) := ⟨_, rfl⟩
        have hR1 : u0.ownsRow w0.heap.size 25 1 u3 k (lvV l0) := by have := HR.out; unfold LRow at this; rw [← hl0] at this; rwa [show l0.length = k by rw [hl0]; simp] at this
        have HL0 := Lib.hid hl0
        have HHL := Lib.hid (show labD L k = 0 from by unfold labD; rw [if_pos HN.out.symm])
        have hsz : w0.heap.size ≤ u0.heap.size := HW.out.size
        clear HR hl0 HKEEP hHeld
        go_wp2_with (at_builtin; refine wpList_append_own _ rfl (.tmp 30) (.tmp 32) 82 rfl w0.heap.size 25 ib (.int .u8 0) 1 1 Try.underlying82 hi hz0 hz1 hz2 rfl (by decide) u3 k (lvV l0) rfl (hR1.alloc _) ⟨u0.heap.size, 0, none⟩ 1 1 [.int .u8 0] rfl rfl ?c1 ?c2 ?c3 ?c4 ?c5 ?_)
        case c1 => exact new_cells u0 [.int .u8 0] 25 _ rfl
        case c2 => simp [Value.oneCell']
        case c3 => unfold maxLen; omega
        case c4 => omega
        case c5 => simp; omega
        intro v' w2 own2 grow2 _
        have hlt2 : ∀ j, u3.ownBlock = some j → w0.heap.size ≤ j := fun j hj => (hR1.lt j hj).1
        have HR2 := Lib.hid (show LRow w2 w0.heap.size v' ((List.range (k + 1)).map (labD L)) by
          unfold LRow
          rw [labM_snoc, List.length_append, ← HL0.out, HHL.out, show l0.length = k by rw [HL0.out]; simp]
          simpa [lvV] using own2)
        have HA2 := Lib.hid (show LnAt w2 w.heap.size cols (.slice la 0 lc) from (HA.out.below ((Below.refl _ _).alloc (Nat.le_refl _) _)).same grow2.size (grow2.block _ (by have := HA.out.1; simp; omega) (fun e => by have := hlt2 _ e.symm; have := HAL.out; omega)))
        have HW2 := Lib.hid (show Below w0.heap.size w0 w2 from (HW.out.alloc HW.out.size _).grown grow2 (by simp; omega) hlt2)
        clear own2 grow2 hR1 hlt2 HA HW hsz
        go_wp2
        go_roundg (q - (k + 1))
        case rel => exact ⟨k + 1, by go_num, by omega, Nat.le_refl _, HR2, HA2, HW2⟩
        case measure => omega
      have hnp : 0 < n := by omega
      obtain ⟨s, hs⟩ : ∃ s, s = k % n := ⟨_, rfl⟩
      have HSE := Lib.hid hs
      have hsn : s < n := by rw [hs]; exact Nat.mod_lt _ hnp
      have hsk : s ≤ k := by rw [hs]; exact Nat.mod_le _ _
      have t1 : (k : Int).tmod (n : Int) = (s : Int) := by rw [Int.tmod_eq_emod_of_nonneg (by omega), hs]; rfl
      have t2 : (k : Int) % (n : Int) = (s : Int) := by rw [hs]; rfl
      have t3 : IntKind.i64.wrap (s : Int) = (s : Int) := by rw [IntKind.wrap_i64]; omega
      have nz : ¬ (n : Int) = 0 := by omega
      have np : (0 : Int) < (n : Int) := by omega
      obtain ⟨g, o, c', e, hg, hC⟩ := (HD.out.below HW.out).open (by rw [← HN.out]; exact hnp)
      injection e with e1' e2' e3'
      subst e1'
      have hd := hC s (by rw [← HN.out]; exact hsn)
      obtain ⟨d, hde⟩ : ∃ d, d = L.getD s Dc.z := ⟨_, rfl⟩
      have HDE := Lib.hid hde
      rw [← hde] at hd
      have HKEEP := Lib.hid (show ∀ W, Below wr.heap.size wr W → (fun w' => w'.cell? ⟨w.heap.size, 1, none⟩ = some (.slice (some ⟨g, o, none⟩) n lc) ∧ w'.cell? ⟨g, o + s * 5 + 4, none⟩ = some (.bool d.high)) W from fun W hb => ⟨(hb.cell (p := ⟨w.heap.size, 1, none⟩) HA.out.1).trans y1, (hb.cell (p := ⟨g, o + s * 5 + 4, none⟩) hg).trans hd.2.2.2.2⟩)
      dsimp only at HKEEP
      obtain ⟨hh, hhe⟩ : ∃ b, b = d.high := ⟨_, rfl⟩
      rw [← hhe] at HKEEP
      have HHE := Lib.hid hhe
      clear hC e2' e3' hde hd hs hg hhe
      cases hh
      · go_upto_region 6 with (fail)
        clear y0
        refine wp_region_held_drew (S := fun w' => w'.cell? ⟨w.heap.size, 1, none⟩ = some (.slice (some ⟨g, o, none⟩) n lc) ∧ w'.cell? ⟨g, o + s * 5 + 4, none⟩ = some (.bool false)) (by kernel_rfl) ?_ (fun hHeld => ?_)
        · exact HKEEP.out _ ⟨rfl, rfl, rfl, Nat.le_refl _, fun _ _ => rfl⟩
        obtain ⟨u0, hu0⟩ : ∃ u0, u0 = wr.drew := ⟨_, rfl⟩
        have bd : Below wr.heap.size wr u0 := by rw [hu0]; exact ⟨rfl, rfl, rfl, Nat.le_refl _, fun _ _ => rfl⟩
        replace hHeld : (fun w' => w'.cell? ⟨w.heap.size, 1, none⟩ = some (.slice (some ⟨g, o, none⟩) n lc) ∧ w'.cell? ⟨g, o + s * 5 + 4, none⟩ = some (.bool false)) u0 := HKEEP.out _ bd
        rw [← hu0]
        replace HR := Lib.hid (HR.out.below bd)
        replace HA := Lib.hid (HA.out.below bd)
        replace HW := Lib.hid (HW.out.trans (bd.mono HW.out.size))
        clear hu0 bd
        refine tk 0 rfl (fun w hSw => by (try dsimp only at hSw); go_simp; try with_reducible rfl) ?_
        go_frame
        refine tk 1 rfl (fun w hSw => by (try dsimp only at hSw); go_simp; try with_reducible rfl) ?_
        go_frame
        refine tk 2 rfl (fun w hSw => by (try dsimp only at hSw); go_simp; try with_reducible rfl) ?_
        go_frame
        refine tk 3 rfl (fun w hSw => by (try dsimp only at hSw); go_simp; try with_reducible rfl) ?_
        go_frame
        refine tk 4 rfl (fun w hSw => by (try dsimp only at hSw); go_simp; try with_reducible rfl) ?_
        go_frame
        refine tk 5 rfl (fun w hSw => by (try dsimp only at hSw); go_simp; try with_reducible rfl) ?_
        go_frame
        refine tk 6 rfl (fun w hSw => by (try dsimp only at hSw); go_simp; try with_reducible rfl) ?_
        go_frame
        refine tk 7 rfl (fun w hSw => by (try dsimp only at hSw); go_simp; try with_reducible rfl) ?_
        go_frame
        refine tk 8 rfl (fun w hSw => by (try dsimp only at hSw); go_simp; try with_reducible rfl) ?_
        go_frame
        refine tk 9 rfl (fun w hSw => by (try dsimp only at hSw); go_simp; try with_reducible rfl) ?_
        go_frame
        refine tk 10 rfl (fun w hSw => by (try dsimp only at hSw); go_simp; try with_reducible rfl) ?_
        go_frame
        refine tk 11 rfl (fun w hSw => by (try dsimp only at hSw); go_simp; try with_reducible rfl) ?_
        go_frame
        refine tk 12 rfl (fun w hSw => by (try dsimp only at hSw); go_simp; try with_reducible rfl) ?_
        go_frame
        refine tk 13 rfl (fun w hSw => by (try dsimp only at hSw); go_simp; try with_reducible rfl) ?_
        go_frame
        refine tk 14 rfl (fun w hSw => by (try dsimp only at hSw); go_simp; try with_reducible rfl) ?_
        go_frame
        refine tk 15 rfl (fun w hSw => by (try dsimp only at hSw); go_simp; try with_reducible rfl) ?_
        go_frame
        refine wpAnyH_done (by kernel_rfl) ?_ _
        obtain ⟨l0, hl0⟩ : ∃ l0, l0 = (List.range k).map (labD L) := ⟨_, rfl⟩
        have hR1 : u0.ownsRow w0.heap.size 25 1 u3 k (lvV l0) := by have := HR.out; unfold LRow at this; rw [← hl0] at this; rwa [show l0.length = k by rw [hl0]; simp] at this
        have HL0 := Lib.hid hl0
        have HHL := Lib.hid (show labD L k = 0 from by unfold labD; rw [if_neg (by rw [← HN.out]; omega), ← HN.out, ← HSE.out, ← HDE.out, ← HHE.out]; rfl)
        have hsz : w0.heap.size ≤ u0.heap.size := HW.out.size
        clear HR hl0 HKEEP hHeld
        go_wp2_with (at_builtin; refine wpList_append_own _ rfl (.tmp 30) (.tmp 32) 82 rfl w0.heap.size 25 ib (.int .u8 0) 1 1 Try.underlying82 hi hz0 hz1 hz2 rfl (by decide) u3 k (lvV l0) rfl (hR1.alloc _) ⟨u0.heap.size, 0, none⟩ 1 1 [.int .u8 0] rfl rfl ?c1 ?c2 ?c3 ?c4 ?c5 ?_)
        case c1 => exact new_cells u0 [.int .u8 0] 25 _ rfl
        case c2 => simp [Value.oneCell']
        case c3 => unfold maxLen; omega
        case c4 => omega
        case c5 => simp; omega
        intro v' w2 own2 grow2 _
        have hlt2 : ∀ j, u3.ownBlock = some j → w0.heap.size ≤ j := fun j hj => (hR1.lt j hj).1
        have HR2 := Lib.hid (show LRow w2 w0.heap.size v' ((List.range (k + 1)).map (labD L)) by
          unfold LRow
          rw [labM_snoc, List.length_append, ← HL0.out, HHL.out, show l0.length = k by rw [HL0.out]; simp]
          simpa [lvV] using own2)
        have HA2 := Lib.hid (show LnAt w2 w.heap.size cols (.slice (some ⟨g, o, none⟩) n lc) from (HA.out.below ((Below.refl _ _).alloc (Nat.le_refl _) _)).same grow2.size (grow2.block _ (by have := HA.out.1; simp; omega) (fun e => by have := hlt2 _ e.symm; have := HAL.out; omega)))
        have HW2 := Lib.hid (show Below w0.heap.size w0 w2 from (HW.out.alloc HW.out.size _).grown grow2 (by simp; omega) hlt2)
        clear own2 grow2 hR1 hlt2 HA HW hsz
        go_wp2
        go_roundg (q - (k + 1))
        case rel => exact ⟨k + 1, by go_num, by omega, Nat.le_refl _, HR2, HA2, HW2⟩
        case measure => omega
      · go_upto_region 6 with (fail)
        clear y0
        refine wp_region_held_drew (S := fun w' => w'.cell? ⟨w.heap.size, 1, none⟩ = some (.slice (some ⟨g, o, none⟩) n lc) ∧ w'.cell? ⟨g, o + s * 5 + 4, none⟩ = some (.bool true)) (by kernel_rfl) ?_ (fun hHeld => ?_)
        · exact HKEEP.out _ ⟨rfl, rfl, rfl, Nat.le_refl _, fun _ _ => rfl⟩
        obtain ⟨u0, hu0⟩ : ∃ u0, u0 = wr.drew := ⟨_, rfl⟩
        have bd : Below wr.heap.size wr u0 := by rw [hu0]; exact ⟨rfl, rfl, rfl, Nat.le_refl _, fun _ _ => rfl⟩
        replace hHeld : (fun w' => w'.cell? ⟨w.heap.size, 1, none⟩ = some (.slice (some ⟨g, o, none⟩) n lc) ∧ w'.cell? ⟨g, o + s * 5 + 4, none⟩ = some (.bool true)) u0 := HKEEP.out _ bd
        rw [← hu0]
        replace HR := Lib.hid (HR.out.below bd)
        replace HA := Lib.hid (HA.out.below bd)
        replace HW := Lib.hid (HW.out.trans (bd.mono HW.out.size))
        clear hu0 bd
        refine tk 0 rfl (fun w hSw => by (try dsimp only at hSw); go_simp; try with_reducible rfl) ?_
        go_frame
        refine tk 1 rfl (fun w hSw => by (try dsimp only at hSw); go_simp; try with_reducible rfl) ?_
        go_frame
        refine tk 2 rfl (fun w hSw => by (try dsimp only at hSw); go_simp; try with_reducible rfl) ?_
        go_frame
        refine tk 3 rfl (fun w hSw => by (try dsimp only at hSw); go_simp; try with_reducible rfl) ?_
        go_frame
        refine tk 4 rfl (fun w hSw => by (try dsimp only at hSw); go_simp; try with_reducible rfl) ?_
        go_frame
        refine tk 5 rfl (fun w hSw => by (try dsimp only at hSw); go_simp; try with_reducible rfl) ?_
        go_frame
        refine tk 6 rfl (fun w hSw => by (try dsimp only at hSw); go_simp; try with_reducible rfl) ?_
        go_frame
        refine tk 7 rfl (fun w hSw => by (try dsimp only at hSw); go_simp; try with_reducible rfl) ?_
        go_frame
        refine tk 8 rfl (fun w hSw => by (try dsimp only at hSw); go_simp; try with_reducible rfl) ?_
        go_frame
        refine tk 9 rfl (fun w hSw => by (try dsimp only at hSw); go_simp; try with_reducible rfl) ?_
        go_frame
        refine tk 10 rfl (fun w hSw => by (try dsimp only at hSw); go_simp; try with_reducible rfl) ?_
        go_frame
        refine tk 11 rfl (fun w hSw => by (try dsimp only at hSw); go_simp; try with_reducible rfl) ?_
        go_frame
        refine tk 12 rfl (fun w hSw => by (try dsimp only at hSw); go_simp; try with_reducible rfl) ?_
        go_frame
        refine tk 13 rfl (fun w hSw => by (try dsimp only at hSw); go_simp; try with_reducible rfl) ?_
        go_frame
        refine tk 14 rfl (fun w hSw => by (try dsimp only at hSw); go_simp; try with_reducible rfl) ?_
        go_frame
        refine tk 15 rfl (fun w hSw => by (try dsimp only at hSw); go_simp; try with_reducible rfl) ?_
        go_frame
        refine wpAnyH_done (by kernel_rfl) ?_ _
        obtain ⟨l0, hl0⟩ : ∃ l0, l0 = (List.range k).map (labD L) := ⟨_, rfl⟩
        have hR1 : u0.ownsRow w0.heap.size 25 1 u3 k (lvV l0) := by have := HR.out; unfold LRow at this; rw [← hl0] at this; rwa [show l0.length = k by rw [hl0]; simp] at this
        have HL0 := Lib.hid hl0
        have HHL := Lib.hid (show labD L k = 1 from by unfold labD; rw [if_neg (by rw [← HN.out]; omega), ← HN.out, ← HSE.out, ← HDE.out, ← HHE.out]; rfl)
        have hsz : w0.heap.size ≤ u0.heap.size := HW.out.size
        clear HR hl0 HKEEP hHeld
        go_wp2_with (at_builtin; refine wpList_append_own _ rfl (.tmp 30) (.tmp 32) 82 rfl w0.heap.size 25 ib (.int .u8 0) 1 1 Try.underlying82 hi hz0 hz1 hz2 rfl (by decide) u3 k (lvV l0) rfl (hR1.alloc _) ⟨u0.heap.size, 0, none⟩ 1 1 [.int .u8 1] rfl rfl ?c1 ?c2 ?c3 ?c4 ?c5 ?_)
        case c1 => exact new_cells u0 [.int .u8 1] 25 _ rfl
        case c2 => simp [Value.oneCell']
        case c3 => unfold maxLen; omega
        case c4 => omega
        case c5 => simp; omega
        intro v' w2 own2 grow2 _
        have hlt2 : ∀ j, u3.ownBlock = some j → w0.heap.size ≤ j := fun j hj => (hR1.lt j hj).1
        have HR2 := Lib.hid (show LRow w2 w0.heap.size v' ((List.range (k + 1)).map (labD L)) by
          unfold LRow
          rw [labM_snoc, List.length_append, ← HL0.out, HHL.out, show l0.length = k by rw [HL0.out]; simp]
          simpa [lvV] using own2)
        have HA2 := Lib.hid (show LnAt w2 w.heap.size cols (.slice (some ⟨g, o, none⟩) n lc) from (HA.out.below ((Below.refl _ _).alloc (Nat.le_refl _) _)).same grow2.size (grow2.block _ (by have := HA.out.1; simp; omega) (fun e => by have := hlt2 _ e.symm; have := HAL.out; omega)))
        have HW2 := Lib.hid (show Below w0.heap.size w0 w2 from (HW.out.alloc HW.out.size _).grown grow2 (by simp; omega) hlt2)
        clear own2 grow2 hR1 hlt2 HA HW hsz
        go_wp2
        go_roundg (q - (k + 1))
        case rel => exact ⟨k + 1, by go_num, by omega, Nat.le_refl _, HR2, HA2, HW2⟩
        case measure => omega
    · have hkq' : k = q := by omega
      subst hkq'
      go_wp2
      go_ret
      exact ⟨u3, rfl, by unfold labM; rw [← HQ.out]; exact own_lower HR.out HS0.out, HB0.out.trans (HW.out.mono HB0.out.size)⟩

def fill0 (labs : List Int) : Cls := labs.map fun l => { Cel.z with l := l }
/-- The draft of a cell. -/
def pickD (labs : List Int) (L O : List Dc) (i : Nat) : Dc := if labs.getD i 0 = 1 ∧ 0 < O.length then O.getD (i % O.length) Dc.z else L.getD (i % L.length) Dc.z
def wideAt (labs : List Int) (d : Dc) (i : Nat) : Bool := d.wide && (decide (i + 1 < labs.length) && (labs.getD (i + 1) 0 == labs.getD i 0))
def putD (labs : List Int) (d : Dc) (R : Cls) (i : Nat) : Cls := if d.ru % 5 = 4 ∨ (gc R i).k = 2 then R else putM R (i : Int) { celD d with l := labs.getD i 0 } (wideAt labs d i)
def stepF (labs : List Int) (L O : List Dc) (R : Cls) (i : Nat) : Cls := putD labs (pickD labs L O i) R i
def fillK (labs : List Int) (L O : List Dc) (k : Nat) : Cls := (List.range k).foldl (stepF labs L O) (fill0 labs)
def fillM (labs : List Int) (L O : List Dc) : Cls := if L.length = 0 then fill0 labs else fillK labs L O labs.length
theorem fillK_succ (labs : List Int) (L O : List Dc) (k : Nat) : fillK labs L O (k + 1) = stepF labs L O (fillK labs L O k) k := by
  unfold fillK
  rw [List.range_succ, List.foldl_append]
  rfl
/-- What holds at each step. -/
def FInv (labs : List Int) (R : Cls) : Prop := R.length = labs.length ∧ Wh R ∧ ∀ i, i < R.length → (gc R i).l = labs.getD i 0
theorem gc_fill0 {labs : List Int} {i : Nat} (h : i < labs.length) : gc (fill0 labs) i = { Cel.z with l := labs.getD i 0 } := by
  rw [gc_eq (by simpa [fill0] using h)]
  simp [fill0, List.getD_eq_getElem?_getD, h]
theorem fill0_inv (labs : List Int) : FInv labs (fill0 labs) := by
  have hl : (fill0 labs).length = labs.length := by simp [fill0]
  refine ⟨hl, fun i hi => ?_, fun i hi => ?_⟩
  · rw [hl] at hi
    unfold UnitAt
    rw [gc_fill0 hi]
    exact ⟨fun h => absurd (show (0 : Int) = 1 from h) (by decide), fun h => absurd (show (0 : Int) = 2 from h) (by decide), show (0 : Int) ≤ 0 by decide, show (0 : Int) ≤ 2 by decide⟩
  · rw [hl] at hi
    rw [gc_fill0 hi]
theorem wide_fit {labs : List Int} {d : Dc} {i : Nat} (hi : i < labs.length) : i + (if wideAt labs d i then 2 else 1) ≤ labs.length := by
  by_cases h : wideAt labs d i = true
  · rw [if_pos h]
    simp only [wideAt, Bool.and_eq_true, decide_eq_true_eq] at h
    omega
  · rw [if_neg h]
    omega
theorem wide_lab {labs : List Int} {d : Dc} {i : Nat} (h : wideAt labs d i = true) : labs.getD (i + 1) 0 = labs.getD i 0 := by
  simp only [wideAt, Bool.and_eq_true, beq_iff_eq] at h
  exact h.2.2
theorem putD_inv {labs : List Int} {R : Cls} (h : FInv labs R) (d : Dc) {i : Nat} (hi : i < labs.length) : FInv labs (putD labs d R i) := by
  unfold putD
  split
  · exact h
  · obtain ⟨h1, h2, h3⟩ := h
    refine ⟨by rw [len_put, h1], h2.put _ _ _, fun j hj => ?_⟩
    rw [len_put] at hj
    rw [gc_put (wideAt labs d i) rfl _ (by rw [h1]; exact wide_fit hi) hj]
    split
    · rename_i e
      rw [e]
    · split
      · rename_i e
        rw [e.2, wide_lab e.1]
        rfl
      · rw [(brkC_l _ _ _).1, (brkC_l _ _ _).1]
        exact h3 j hj
theorem fillK_inv (labs : List Int) (L O : List Dc) : ∀ k, k ≤ labs.length → FInv labs (fillK labs L O k)
  | 0, _ => fill0_inv labs
  | k + 1, hk => by
    rw [fillK_succ]
    exact putD_inv (fillK_inv labs L O k (by omega)) _ (by omega)
theorem fillM_inv (labs : List Int) (L O : List Dc) : FInv labs (fillM labs L O) := by
  unfold fillM
  split
  · exact fill0_inv labs
  · exact fillK_inv labs L O _ (Nat.le_refl _)
theorem LowE.symm {R S : Cls} (h : LowE R S) : LowE S R := by
  refine ⟨h.1.symm, fun i hi => ?_⟩
  obtain ⟨h1, h2⟩ := h.2 i (by rw [h.1]; exact hi)
  exact ⟨h1.symm, fun e => (h2 (by rw [h1, e])).symm⟩
theorem LowE.trans {R S T : Cls} (h : LowE R S) (k : LowE S T) : LowE R T := by
  refine ⟨h.1.trans k.1, fun i hi => ?_⟩
  obtain ⟨h1, h2⟩ := h.2 i hi
  obtain ⟨k1, k2⟩ := k.2 i (by rw [← h.1]; exact hi)
  exact ⟨h1.trans k1, fun e => (h2 e).trans (k2 (by rw [← h1, e]))⟩
/-- What is put where all is High changes nothing that Low sees. -/
theorem putD_high {labs : List Int} {R : Cls} (h : FInv labs R) (d : Dc) {i : Nat} (hi : i < labs.length) (hh : labs.getD i 0 = 1) : LowE R (putD labs d R i) := by
  have hinv := putD_inv h d hi
  refine ⟨by rw [h.1, hinv.1], fun j hj => ⟨by rw [h.2.2 j hj, hinv.2.2 j (by rw [hinv.1, ← h.1]; exact hj)], fun e => ?_⟩⟩
  rw [h.2.2 j hj] at e
  unfold putD
  split
  · rfl
  · obtain ⟨h1, h2, h3⟩ := h
    obtain ⟨w, hw⟩ : ∃ w, w = if wideAt labs d i then 2 else 1 := ⟨_, rfl⟩
    have hfit : i + w ≤ R.length := by rw [hw, h1]; exact wide_fit hi
    have hout : j < i ∨ i + w ≤ j := by
      by_cases hwd : wideAt labs d i = true
      · rw [if_pos hwd] at hw
        have := wide_lab hwd
        by_cases e1 : j = i
        · rw [e1] at e; omega
        · by_cases e2 : j = i + 1
          · rw [e2] at e; omega
          · omega
      · rw [if_neg hwd] at hw
        by_cases e1 : j = i
        · rw [e1] at e; omega
        · omega
    refine ((put_off (wideAt labs d i) hw _ hfit hj hout).1 ?_).symm
    rintro (⟨a, b⟩ | ⟨a, b⟩)
    · have hu := ((h2 j hj).1 b).2.2.2
      rw [a, h3 i (by omega), h3 j hj] at hu
      omega
    · obtain ⟨u1, u2, _⟩ := (h2 j hj).2.1 b
      have hu := ((h2 (j - 1) (by omega)).1 u2).2.2.2
      rw [show j - 1 + 1 = j by omega, h3 j hj, h3 (j - 1) (by omega)] at hu
      by_cases hwd : wideAt labs d i = true
      · rw [if_pos hwd] at hw
        have := wide_lab hwd
        rw [show j - 1 = i + 1 by omega] at hu
        omega
      · rw [if_neg hwd] at hw
        rw [show j - 1 = i by omega] at hu
        omega
theorem fill_low (labs : List Int) (hl : ∀ i, i < labs.length → labs.getD i 0 = 0 ∨ labs.getD i 0 = 1) (L O O' : List Dc) : ∀ k, k ≤ labs.length → LowE (fillK labs L O k) (fillK labs L O' k)
  | 0, _ => LowE.refl _
  | k + 1, hk => by
    have ih := fill_low labs hl L O O' k (by omega)
    have i1 := fillK_inv labs L O k (by omega)
    have i2 := fillK_inv labs L O' k (by omega)
    rw [fillK_succ, fillK_succ]
    unfold stepF
    rcases hl k (by omega) with h0 | h1
    · have e1 : pickD labs L O k = pickD labs L O' k := by
        unfold pickD
        rw [if_neg (by rintro ⟨e, _⟩; omega), if_neg (by rintro ⟨e, _⟩; omega)]
      have hk1 : k < (fillK labs L O k).length := by rw [i1.1]; omega
      have e2 := (ih.2 k hk1).2 (by rw [i1.2.2 k hk1, h0])
      rw [e1]
      unfold putD
      rw [e2]
      split
      · exact ih
      · exact ih.put _ _ _
    · exact ((putD_high i1 _ (by omega) h1).symm.trans ih).trans (putD_high i2 _ (by omega) h1)
theorem labD_01 (L : List Dc) (i : Nat) : labD L i = 0 ∨ labD L i = 1 := by
  unfold labD
  split
  · exact .inl rfl
  · split
    · exact .inr rfl
    · exact .inl rfl
theorem labM_01 (cols : Nat) (L : List Dc) : ∀ i, i < (labM cols L).length → (labM cols L).getD i 0 = 0 ∨ (labM cols L).getD i 0 = 1 := fun i hi => by
  have hi' : i < cols % 31 := by rw [labM_len] at hi; exact hi
  have : (labM cols L).getD i 0 = labD L i := by simp [labM, List.getD_eq_getElem?_getD, hi']
  rw [this]
  exact labD_01 L i
/-- The row of a line; the one with other High cells. -/
def rowM (cols : Nat) (L : List Dc) : Cls := fillM (labM cols L) L []
def otherM (cols : Nat) (L O : List Dc) : Cls := fillM (labM cols L) L O
theorem rowM_whole (cols : Nat) (L : List Dc) : Wh (rowM cols L) ∧ Lv (rowM cols L) ∧ (rowM cols L).length = cols % 31 := by
  obtain ⟨h1, h2, h3⟩ := fillM_inv (labM cols L) L []
  refine ⟨h2, fun i hi => ?_, by rw [← labM_len cols L]; exact h1⟩
  have hi' : i < (fillM (labM cols L) L []).length := hi
  rw [show (gc (rowM cols L) i).l = (labM cols L).getD i 0 from h3 i hi']
  exact labM_01 cols L i (by rw [← h1]; exact hi')
theorem otherM_whole (cols : Nat) (L O : List Dc) : Wh (otherM cols L O) ∧ LowE (rowM cols L) (otherM cols L O) := by
  refine ⟨(fillM_inv (labM cols L) L O).2.1, ?_⟩
  unfold rowM otherM fillM
  split
  · exact LowE.refl _
  · exact fill_low _ (labM_01 cols L) L [] O _ (Nat.le_refl _)

theorem BAt.kind {w : World} {b : Nat} {c : Cel} (h : BAt w b c) (k : Int) : BAt (w.setCell ⟨b, 3, none⟩ (.int .u8 k)) b { c with k := k } := by
  obtain ⟨h0, ⟨a0, a1, a2, a3, a4, a5, a6, a7, a8, a9, a10, a11, a12, a13⟩, hf⟩ := h
  refine ⟨by simpa using h0, ?_, fun i => by simp [hf i]⟩
  refine ⟨?_, ?_, ?_, ?_, ?_, ?_, ?_, ?_, ?_, ?_, ?_, ?_, ?_, ?_⟩ <;> simp [World.cell?_setCell_other, World.cell?_setCell_same', a0, a1, a2, a3, a4, a5, a6, a7, a8, a9, a10, a11, a12, a13]
set_option maxHeartbeats 8000000 in
set_option maxRecDepth 100000 in
theorem rput_in (w : World) (v : Value) (R : Cls) (p : Nat) (c : Cel) (wide : Bool) (h : RowIn w v R) (hw : Wh R) (hp : p + (if wide then 2 else 1) ≤ R.length) (hl : R.length ≤ 10000) : Calls Try.prog 56 #[v, .int .i64 (p : Nat), celV c, .bool wide] w (OwnOut w (putM R (p : Int) c wide)) := by
  obtain ⟨a, vc, rfl⟩ := h.shape
  obtain ⟨n, hn⟩ : ∃ n, n = R.length := ⟨_, rfl⟩
  have HN := Lib.hid hn
  obtain ⟨w0, hw0⟩ : ∃ w0, w0 = w.alloc (.cells #[.int .i32 c.ru, .int .i32 c.m0, .int .i32 c.m1, .int .u8 c.k, .int .u8 c.a.fg.k, .int .u8 c.a.fg.r, .int .u8 c.a.fg.g, .int .u8 c.a.fg.b, .int .u8 c.a.bg.k, .int .u8 c.a.bg.r, .int .u8 c.a.bg.g, .int .u8 c.a.bg.b, .int .u16 (c.a.fl : Nat), .int .u8 c.l] 47) := ⟨_, rfl⟩
  have b0 : Below w.heap.size w w0 := by rw [hw0]; exact (Below.refl _ _).alloc (Nat.le_refl _) _
  have HA := Lib.hid (show BAt w0 w.heap.size c by rw [hw0]; exact BAt.newAt w _ rfl c _)
  have HB := Lib.hid b0
  have HW := Lib.hid hw
  have C1 := Lib.hid (rbreak_any w0 _ R (p : Int) (h.below b0) hw hl)
  rw [← hn] at C1 hp hl ⊢
  clear h hw b0 hn
  cases wide
  · have hfit : p + 1 ≤ n := hp
    have HFIT := Lib.hid hfit
    obtain ⟨p1, hp1⟩ : ∃ p1, p1 = p + 1 := ⟨_, rfl⟩
    have HP1 := Lib.hid hp1
    have s0 : IntKind.i64.wrap ((p : Int) + 1) = (p1 : Int) := by rw [IntKind.wrap_i64]; omega
    have d1 : ¬ n < p1 := by omega
    have d2 : ¬ (p : Int) < 0 := by omega
    have hpn : p < n := by omega
    clear hp hp1 hfit
    go_enter Try.func56, Try.ntmps56
    go_upto_region 1 with (fail)
    rw [← hw0]
    clear hw0
    go_wp2_with fail
    refine C1.out.mono ?_
    rintro e w1 ⟨u1, rfl, R1, _, b1⟩
    rw [show breakM R (p : Int) = brk R p by unfold breakM; rw [inN_nat (by rw [← HN.out]; omega)]] at R1
    obtain ⟨ua1, uc1, rfl⟩ := R1.shape
    rw [len_brk, ← HN.out] at R1 ⊢
    have C2 := Lib.hid (rbreak_any w1 _ (brk R p) (p1 : Int) R1.row (HW.out.brk p) (by rw [len_brk, ← HN.out]; exact hl))
    have HA1 := Lib.hid (HA.out.below b1)
    have HB1 := Lib.hid (HB.out.trans (b1.mono HB.out.size))
    clear b1 C1 HA HB R1
    go_wp2_with fail
    refine C2.out.mono ?_
    rintro e w2 ⟨u2, rfl, R2, hnil, b2⟩
    rw [show breakM (brk R p) (p1 : Int) = brk (brk R p) p1 by unfold breakM; rw [len_brk, inN_nat (by rw [← HN.out]; omega)]] at R2
    obtain ⟨g, uc, rfl, hgl, _⟩ := R2.here (by rw [len_brk, len_brk, ← HN.out]; omega)
    rw [len_brk, len_brk, ← HN.out] at R2 hnil ⊢
    obtain ⟨Q, hQ⟩ : ∃ Q, Q = brk (brk R p) p1 := ⟨_, rfl⟩
    have HQ := Lib.hid hQ
    rw [← hQ] at R2
    have hQl : n = Q.length := by rw [hQ, len_brk, len_brk]; exact HN.out
    have HQL := Lib.hid hQl
    have HO2 := Lib.hid (R2.lower HB1.out.size)
    have HA2 := Lib.hid (HA1.out.below b2)
    have HB2 := Lib.hid (HB1.out.trans (b2.mono HB1.out.size))
    have HGL := Lib.hid (show w.heap.size < g from Nat.lt_of_lt_of_le HA1.out.1 hgl)
    have HV := Lib.hid hnil
    clear b2 C2 HA1 HB1 R2 hnil hgl hQ hQl s0 d1 d2
    obtain ⟨w3, hw3⟩ : ∃ w3, w3 = w2.setCell ⟨w.heap.size, 3, none⟩ (.int .u8 0) := ⟨_, rfl⟩
    have HA3 := Lib.hid (show BAt w3 w.heap.size { c with k := 0 } by rw [hw3]; exact HA2.out.kind 0)
    have HO3 := Lib.hid (show CRow w3 w.heap.size (.slice (some ⟨g, 0, none⟩) n uc) Q by rw [hw3]; exact ownsRow_setCell_other HO2.out (by simp [Value.ownBlock]; have := HGL.out; omega) _)
    have HB3 := Lib.hid (show Below w.heap.size w w3 by rw [hw3]; exact HB2.out.setCell (Nat.le_refl _) _)
    obtain ⟨_, ⟨a0, a1, a2, a3, a4, a5, a6, a7, a8, a9, a10, a11, a12, a13⟩, af⟩ := HA2.out
    go_upto_region 8 with (fail)
    rw [← hw3]
    clear hw3 HA2 HO2 HB2 a0 a1 a2 a3 a4 a5 a6 a7 a8 a9 a10 a11 a12 a13 af
    obtain ⟨cx, hcx⟩ : ∃ cx, cx = ({ c with k := 0 } : Cel) := ⟨_, rfl⟩
    have HCX := Lib.hid hcx
    have HAX := Lib.hid (show BAt w3 w.heap.size cx by rw [hcx]; exact HA3.out)
    clear hcx
    obtain ⟨wq, hwq⟩ : ∃ wq, wq = put14 w3 g (p * 14) cx := ⟨_, rfl⟩
    have hpL : p < (Q).length := by rw [← HQL.out]; exact hpn
    have HOQ := Lib.hid (show CRow wq w.heap.size (.slice (some ⟨g, 0, none⟩) n uc) ((Q).set p cx) by rw [hwq]; exact HO3.out.put HQL.out hpL cx)
    have HBQ := Lib.hid (show Below w.heap.size w wq by rw [hwq]; exact HB3.out.trans ((put14_but w3 g (p * 14) cx).below (C := w.heap.size) (by have := HGL.out; omega) HB3.out.size))
    have HF := fun j => HO3.out.frozen HQL.out j
    have hat := HO3.out.at hpL
    obtain ⟨b0, b1, b2, b3, b4, b5, b6, b7, b8, b9, b10, b11, b12, b13⟩ := hat
    obtain ⟨_, ⟨a0, a1, a2, a3, a4, a5, a6, a7, a8, a9, a10, a11, a12, a13⟩, _⟩ := HAX.out
    simp only [put14] at hwq
    have HE := Lib.hid (show putM R (p : Int) c false = Q.set p cx from by rw [put_one, if_neg (by rw [← HN.out]; omega), Int.toNat_natCast, HQ.out, HCX.out, HP1.out])
    clear hpL
    go_wp2
    rw [← hwq]
    clear hwq HF b0 b1 b2 b3 b4 b5 b6 b7 b8 b9 b10 b11 b12 b13 a0 a1 a2 a3 a4 a5 a6 a7 a8 a9 a10 a11 a12 a13
    go_ret
    exact ⟨_, rfl, by rw [HE.out]; exact HOQ.out, HV.out, HBQ.out⟩
  · have hfit : p + 2 ≤ n := hp
    have HFIT := Lib.hid hfit
    obtain ⟨p1, hp1⟩ : ∃ p1, p1 = p + 2 := ⟨_, rfl⟩
    have HP1 := Lib.hid hp1
    have s0 : IntKind.i64.wrap ((p : Int) + 2) = (p1 : Int) := by rw [IntKind.wrap_i64]; omega
    have d1 : ¬ n < p1 := by omega
    have d2 : ¬ (p : Int) < 0 := by omega
    have hpn : p < n := by omega
    clear hp hp1 hfit
    go_enter Try.func56, Try.ntmps56
    go_upto_region 1 with (fail)
    rw [← hw0]
    clear hw0
    go_wp2_with fail
    refine C1.out.mono ?_
    rintro e w1 ⟨u1, rfl, R1, _, b1⟩
    rw [show breakM R (p : Int) = brk R p by unfold breakM; rw [inN_nat (by rw [← HN.out]; omega)]] at R1
    obtain ⟨ua1, uc1, rfl⟩ := R1.shape
    rw [len_brk, ← HN.out] at R1 ⊢
    have C2 := Lib.hid (rbreak_any w1 _ (brk R p) (p1 : Int) R1.row (HW.out.brk p) (by rw [len_brk, ← HN.out]; exact hl))
    have HA1 := Lib.hid (HA.out.below b1)
    have HB1 := Lib.hid (HB.out.trans (b1.mono HB.out.size))
    clear b1 C1 HA HB R1
    go_wp2_with fail
    refine C2.out.mono ?_
    rintro e w2 ⟨u2, rfl, R2, hnil, b2⟩
    rw [show breakM (brk R p) (p1 : Int) = brk (brk R p) p1 by unfold breakM; rw [len_brk, inN_nat (by rw [← HN.out]; omega)]] at R2
    obtain ⟨g, uc, rfl, hgl, _⟩ := R2.here (by rw [len_brk, len_brk, ← HN.out]; omega)
    rw [len_brk, len_brk, ← HN.out] at R2 hnil ⊢
    obtain ⟨Q, hQ⟩ : ∃ Q, Q = brk (brk R p) p1 := ⟨_, rfl⟩
    have HQ := Lib.hid hQ
    rw [← hQ] at R2
    have hQl : n = Q.length := by rw [hQ, len_brk, len_brk]; exact HN.out
    have HQL := Lib.hid hQl
    have HO2 := Lib.hid (R2.lower HB1.out.size)
    have HA2 := Lib.hid (HA1.out.below b2)
    have HB2 := Lib.hid (HB1.out.trans (b2.mono HB1.out.size))
    have HGL := Lib.hid (show w.heap.size < g from Nat.lt_of_lt_of_le HA1.out.1 hgl)
    have HV := Lib.hid hnil
    clear b2 C2 HA1 HB1 R2 hnil hgl hQ hQl s0 d1 d2
    obtain ⟨w3, hw3⟩ : ∃ w3, w3 = w2.setCell ⟨w.heap.size, 3, none⟩ (.int .u8 0) := ⟨_, rfl⟩
    have HA3 := Lib.hid (show BAt w3 w.heap.size { c with k := 0 } by rw [hw3]; exact HA2.out.kind 0)
    have HO3 := Lib.hid (show CRow w3 w.heap.size (.slice (some ⟨g, 0, none⟩) n uc) Q by rw [hw3]; exact ownsRow_setCell_other HO2.out (by simp [Value.ownBlock]; have := HGL.out; omega) _)
    have HB3 := Lib.hid (show Below w.heap.size w w3 by rw [hw3]; exact HB2.out.setCell (Nat.le_refl _) _)
    obtain ⟨_, ⟨a0, a1, a2, a3, a4, a5, a6, a7, a8, a9, a10, a11, a12, a13⟩, af⟩ := HA2.out
    go_upto_region 8 with (fail)
    rw [← hw3]
    clear hw3 HA2 HO2 HB2 a0 a1 a2 a3 a4 a5 a6 a7 a8 a9 a10 a11 a12 a13 af
    obtain ⟨w4, hw4⟩ : ∃ w4, w4 = w3.setCell ⟨w.heap.size, 3, none⟩ (.int .u8 1) := ⟨_, rfl⟩
    have HA4 := Lib.hid (show BAt w4 w.heap.size { c with k := 1 } by rw [hw4]; exact HA3.out.kind 1)
    have HO4 := Lib.hid (show CRow w4 w.heap.size (.slice (some ⟨g, 0, none⟩) n uc) Q by rw [hw4]; exact ownsRow_setCell_other HO3.out (by simp [Value.ownBlock]; have := HGL.out; omega) _)
    have HB4 := Lib.hid (show Below w.heap.size w w4 by rw [hw4]; exact HB3.out.setCell (Nat.le_refl _) _)
    obtain ⟨_, ⟨a0, a1, a2, a3, a4, a5, a6, a7, a8, a9, a10, a11, a12, a13⟩, af⟩ := HA3.out
    try dsimp only at a0 a1 a2 a3 a4 a5 a6 a7 a8 a9 a10 a11 a12 a13
    go_upto_region 10 with (fail)
    rw [← hw4]
    clear hw4 HA3 HO3 HB3 a0 a1 a2 a3 a4 a5 a6 a7 a8 a9 a10 a11 a12 a13 af
    obtain ⟨q, hq⟩ : ∃ q, q = p + 1 := ⟨_, rfl⟩
    have HQ1 := Lib.hid hq
    have s0 : IntKind.i64.wrap ((p : Int) + 1) = (q : Int) := by rw [IntKind.wrap_i64]; omega
    have hqn : q < n := by have := HFIT.out; omega
    obtain ⟨w5, hw5⟩ : ∃ w5, w5 = put14 w4 g (q * 14) (rightC c) := ⟨_, rfl⟩
    have hqL : q < Q.length := by rw [← HQL.out]; exact hqn
    have HO5 := Lib.hid (show CRow w5 w.heap.size (.slice (some ⟨g, 0, none⟩) n uc) (Q.set q (rightC c)) by rw [hw5]; exact HO4.out.put HQL.out hqL _)
    have HB5 := Lib.hid (show Below w.heap.size w w5 by rw [hw5]; exact HB4.out.trans ((put14_but w4 g (q * 14) (rightC c)).below (C := w.heap.size) (by have := HGL.out; omega) HB4.out.size))
    have HA5 := Lib.hid (show BAt w5 w.heap.size { c with k := 1 } by rw [hw5]; exact HA4.out.but (put14_but w4 g (q * 14) (rightC c)) (by have := HGL.out; omega))
    have HF := fun j => HO4.out.frozen HQL.out j
    have hat := HO4.out.at hqL
    obtain ⟨b0, b1, b2, b3, b4, b5, b6, b7, b8, b9, b10, b11, b12, b13⟩ := hat
    obtain ⟨_, ⟨a0, a1, a2, a3, a4, a5, a6, a7, a8, a9, a10, a11, a12, a13⟩, _⟩ := HA4.out
    dsimp only at a0 a1 a2 a3 a4 a5 a6 a7 a8 a9 a10 a11 a12 a13
    dsimp only [put14, rightC] at hw5
    clear hqL hq
    go_upto_region 11 with (fail)
    rw [← hw5]
    clear hw5 HF b0 b1 b2 b3 b4 b5 b6 b7 b8 b9 b10 b11 b12 b13 a0 a1 a2 a3 a4 a5 a6 a7 a8 a9 a10 a11 a12 a13 HA4 HO4 HB4 s0
    have hQ5 : n = (Q.set q (rightC c)).length := by rw [List.length_set]; exact HQL.out
    obtain ⟨cx, hcx⟩ : ∃ cx, cx = ({ c with k := 1 } : Cel) := ⟨_, rfl⟩
    have HCX := Lib.hid hcx
    have HAX := Lib.hid (show BAt w5 w.heap.size cx by rw [hcx]; exact HA5.out)
    clear hcx
    obtain ⟨wq, hwq⟩ : ∃ wq, wq = put14 w5 g (p * 14) cx := ⟨_, rfl⟩
    have hpL : p < (Q.set q (rightC c)).length := by rw [← hQ5]; exact hpn
    have HOQ := Lib.hid (show CRow wq w.heap.size (.slice (some ⟨g, 0, none⟩) n uc) ((Q.set q (rightC c)).set p cx) by rw [hwq]; exact HO5.out.put hQ5 hpL cx)
    have HBQ := Lib.hid (show Below w.heap.size w wq by rw [hwq]; exact HB5.out.trans ((put14_but w5 g (p * 14) cx).below (C := w.heap.size) (by have := HGL.out; omega) HB5.out.size))
    have HF := fun j => HO5.out.frozen hQ5 j
    have hat := HO5.out.at hpL
    obtain ⟨b0, b1, b2, b3, b4, b5, b6, b7, b8, b9, b10, b11, b12, b13⟩ := hat
    obtain ⟨_, ⟨a0, a1, a2, a3, a4, a5, a6, a7, a8, a9, a10, a11, a12, a13⟩, _⟩ := HAX.out
    simp only [put14] at hwq
    have HE := Lib.hid (show putM R (p : Int) c true = (Q.set q (rightC c)).set p cx from by rw [put_wide, if_neg (by rw [← HN.out]; have := HFIT.out; omega), Int.toNat_natCast, HQ.out, HCX.out, HP1.out, HQ1.out])
    clear hpL hQ5
    go_wp2
    rw [← hwq]
    clear hwq HF b0 b1 b2 b3 b4 b5 b6 b7 b8 b9 b10 b11 b12 b13 a0 a1 a2 a3 a4 a5 a6 a7 a8 a9 a10 a11 a12 a13
    go_ret
    exact ⟨_, rfl, by rw [HE.out]; exact HOQ.out, HV.out, HBQ.out⟩
end Go.Proofs.Ytnefamgjlhdffaa.Lab
