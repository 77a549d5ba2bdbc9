/- Drafts in memory; the reference's labels. -/
import Derived.Test.YthildghpgajgoaaRoDra
namespace Go.Proofs.Ythildghpgajgoaa.Lab
open Go Go.RowKit

/-- A draft stands at a place of a block. -/
def D5 (w : World) (g o : Nat) (d : Dc) : Prop := w.cell? ⟨g, o, none⟩ = some (.int .u8 (d.ru : Nat)) ∧ w.cell? ⟨g, o + 1, none⟩ = some (.int .u8 (d.ms : Nat)) ∧ w.cell? ⟨g, o + 2, none⟩ = some (.int .u8 (d.at1 : Nat)) ∧ w.cell? ⟨g, o + 3, none⟩ = some (.bool d.wide) ∧ w.cell? ⟨g, o + 4, none⟩ = some (.bool d.high)
theorem D5.same {w w' : World} {g o : Nat} {d : Dc} (h : D5 w g o d) (e : w'.heap[g]? = w.heap[g]?) : D5 w' g o d := by
  have k : ∀ i, w'.cell? ⟨g, i, none⟩ = w.cell? ⟨g, i, none⟩ := fun i => World.cell?_of_block e
  obtain ⟨h1, h2, h3, h4, h5⟩ := h
  exact ⟨(k _).trans h1, (k _).trans h2, (k _).trans h3, (k _).trans h4, (k _).trans h5⟩
abbrev Dc.z : Dc := ⟨0, 0, 0, false, false⟩
/-- Drafts as they come in. -/
def DsIn (w : World) (v : Value) (L : List Dc) : Prop :=
  ∃ a c, v = .slice a L.length c ∧ L.length ≤ maxLen ∧ (∀ d ∈ L, d.ok) ∧ (0 < L.length → ∃ g o, a = some ⟨g, o, none⟩ ∧ g < w.heap.size ∧ ∀ i, i < L.length → D5 w g (o + i * 5) (L.getD i Dc.z))
theorem DsIn.below {w w' : World} {v : Value} {L : List Dc} (h : DsIn w v L) (hb : Below w.heap.size w w') : DsIn w' v L := by
  obtain ⟨a, c, e, hm, ho, h⟩ := h
  refine ⟨a, c, e, hm, ho, fun h0 => ?_⟩
  obtain ⟨g, o, ea, hg, hC⟩ := h h0
  exact ⟨g, o, ea, Nat.lt_of_lt_of_le hg hb.size, fun i hi => (hC i hi).same (hb.block g hg)⟩
theorem DsIn.shape {w : World} {v : Value} {L : List Dc} (h : DsIn w v L) : ∃ a c, v = .slice a L.length c := by
  obtain ⟨a, c, e, _⟩ := h
  exact ⟨a, c, e⟩
theorem DsIn.open {w : World} {v : Value} {L : List Dc} (h : DsIn w v L) (h0 : 0 < L.length) : ∃ g o c, v = .slice (some ⟨g, o, none⟩) L.length c ∧ g < w.heap.size ∧ ∀ i, i < L.length → D5 w g (o + i * 5) (L.getD i Dc.z) := by
  obtain ⟨a, c, e, _, _, h⟩ := h
  obtain ⟨g, o, ea, hg, hC⟩ := h h0
  exact ⟨g, o, c, by rw [e, ea], hg, hC⟩
/-- A line in a block of its own. -/
def LnAt (w : World) (b : Nat) (cols : Nat) (v : Value) : Prop := b < w.heap.size ∧ w.cell? ⟨b, 0, none⟩ = some (.int .u8 (cols : Nat)) ∧ w.cell? ⟨b, 1, none⟩ = some v
theorem LnAt.same {w w' : World} {b cols : Nat} {v : Value} (h : LnAt w b cols v) (hs : w.heap.size ≤ w'.heap.size) (e : w'.heap[b]? = w.heap[b]?) : LnAt w' b cols v :=
  ⟨by have := h.1; omega, (World.cell?_of_block (a := ⟨b, 0, none⟩) e).trans h.2.1, (World.cell?_of_block (a := ⟨b, 1, none⟩) e).trans h.2.2⟩
theorem LnAt.below {w w' : World} {b cols : Nat} {v : Value} (h : LnAt w b cols v) (hb : Below w.heap.size w w') : LnAt w' b cols v := h.same hb.size (hb.block b h.1)
theorem LnAt.newAt (w : World) (n : Nat) (hn : n = w.heap.size) (cols : Nat) (v : Value) (T : TypeId) : LnAt (w.alloc (.cells #[.int .u8 (cols : Nat), v] T)) n cols v := by
  subst hn
  exact ⟨by simp, by simp, by simp⟩
/-- Levels in a row of the call's own. -/
abbrev lvV (l : List Int) : List Value := l.map (Value.int .u8)
def LRow (w : World) (lo : Nat) (v : Value) (l : List Int) : Prop := w.ownsRow lo 42 1 v l.length (lvV l)
theorem LRow.below {w w' : World} {lo : Nat} {v : Value} {l : List Int} (h : LRow w lo v l) (hb : Below w.heap.size w w') : LRow w' lo v l := own_below h hb
theorem LRow.shape {w : World} {lo : Nat} {v : Value} {l : List Int} (h : LRow w lo v l) : ∃ a c, v = .slice a l.length c := by
  rcases h.2 with ⟨rfl, h0⟩ | ⟨g, cap, cur, rfl, _⟩
  · exact ⟨none, 0, by rw [h0]⟩
  · exact ⟨_, cap, rfl⟩
theorem LRow.cell {w : World} {lo n c : Nat} {a : Option Addr} {l : List Int} (h : LRow w lo (.slice a n c) l) (h0 : 0 < l.length) : ∃ g, a = some ⟨g, 0, none⟩ ∧ lo ≤ g ∧ g < w.heap.size ∧ ∀ j, j < l.length → w.cell? ⟨g, j, none⟩ = some (.int .u8 (l.getD j 0)) := by
  rcases h.2 with ⟨e, h1⟩ | ⟨g, cap, cur, e, _⟩
  · omega
  · injection e with e1 e2 e3
    subst e1
    refine ⟨g, rfl, (h.lt g rfl).1, (h.lt g rfl).2, fun j hj => ?_⟩
    have := h.cells (g := g) rfl j (.int .u8 (l.getD j 0)) (by rw [List.getElem?_map, List.getElem?_eq_getElem hj, List.getD_eq_getElem?_getD, List.getElem?_eq_getElem hj]; rfl)
    rwa [Addr.add_mid, Nat.zero_add] at this
def labD (L : List Dc) (i : Nat) : Int := if L.length = 0 then 0 else if (L.getD (i % L.length) Dc.z).high then 1 else 0
def labM (cols : Nat) (L : List Dc) : List Int := (List.range (cols % 31)).map (labD L)
theorem labM_len (cols : Nat) (L : List Dc) : (labM cols L).length = cols % 31 := by simp [labM]
theorem labM_snoc (L : List Dc) (k : Nat) : (List.range (k + 1)).map (labD L) = (List.range k).map (labD L) ++ [labD L k] := by rw [List.range_succ, List.map_append]; rfl
theorem infoLv : (Try.prog.info? 42).map (fun i => (i.zero, i.size, i.bytes)) = some (some (.int .u8 0), 1, 1) := by kernel_rfl
theorem new_cells (w : World) (l : List Value) (T : TypeId) (n : Nat) (hn : n = w.heap.size) : ∀ j u, l[j]? = some u → (w.alloc (.cells l.toArray T)).cell? ((⟨n, 0, none⟩ : Addr).add j) = some u := by
  intro j u hj
  have hp : (⟨n, 0, none⟩ : Addr).add j = ⟨n, 0 + j, none⟩ := by unfold Addr.add; split <;> simp_all
  rw [hp, Nat.zero_add, World.cell?_alloc_at _ _ _ _ hn, List.getElem?_toArray]
  exact hj
def LabOut (w : World) (l : List Int) (e : Ending) (w' : World) : Prop := ∃ v, e = .returned v ∧ LRow w' w.heap.size v l ∧ Below w.heap.size w w'
set_option maxHeartbeats 8000000 in
set_option maxRecDepth 100000 in
theorem rlabels_any (w : World) (cols : Nat) (v : Value) (L : List Dc) (hc : cols < 256) (h : DsIn w v L) : Calls Try.prog 28 #[.agg #[.int .u8 (cols : Nat), v]] w (LabOut w (labM cols L)) := by
  obtain ⟨la, lc, rfl⟩ := h.shape
  obtain ⟨n, hn⟩ : ∃ n, n = L.length := ⟨_, rfl⟩
  have HN := Lib.hid hn
  obtain ⟨w0, hw0⟩ : ∃ w0, w0 = w.alloc (.cells #[.int .u8 (cols : Nat), .slice la n lc] 24) := ⟨_, rfl⟩
  have b0 : Below w.heap.size w w0 := by rw [hw0]; exact (Below.refl _ _).alloc (Nat.le_refl _) _
  have HA0 := Lib.hid (show LnAt w0 w.heap.size cols (.slice la n lc) by rw [hw0]; exact LnAt.newAt w _ rfl cols _ _)
  have HB0 := Lib.hid b0
  have HAL := Lib.hid (show w.heap.size < w0.heap.size from HA0.out.1)
  have HD := Lib.hid (h.below b0)
  rw [← hn] at HD ⊢
  have HS0 := Lib.hid (show w.heap.size ≤ w0.heap.size from b0.size)
  obtain ⟨q, hq⟩ : ∃ q, q = cols % 31 := ⟨_, rfl⟩
  have HQ := Lib.hid hq
  have e1 : (cols : Int).tmod 31 = (q : Int) := by rw [Int.tmod_eq_emod_of_nonneg (by omega)]; omega
  have e2 : (cols : Int) % 31 = (q : Int) := by omega
  have hq31 : q < 31 := by omega
  have e3 : IntKind.u8.wrap (q : Int) = (q : Int) := by rw [IntKind.wrap_u8]; omega
  have e4 : IntKind.i64.wrap (q : Int) = (q : Int) := by rw [IntKind.wrap_i64]; omega
  obtain ⟨ib, hi, hz0, hz1, hz2⟩ := info_parts infoLv
  clear h b0 hn hq
  go_enter Try.func28, Try.ntmps28
  go_upto_region 1 with (fail)
  rw [← hw0]
  clear hw0
  go_wp2
  go_loopg [3, 4] q (fun G u i wr => ∃ k : Nat, i = .int .i64 k ∧ k ≤ q ∧ q - k ≤ G ∧ Hid (LRow wr w0.heap.size u ((List.range k).map (labD L))) ∧ Hid (LnAt wr w.heap.size cols (.slice la n lc)) ∧ Hid (Below w0.heap.size w0 wr))
  case atStart => exact ⟨0, rfl, Nat.zero_le _, Nat.sub_le _ _, Lib.hid (World.ownsRow_nil _ _ _ 1), HA0, Lib.hid (Below.refl _ _)⟩
  case round =>
    obtain ⟨k, rfl, hkq, hgk, HR, HA, HW⟩ := hrel
    obtain ⟨_, y0, y1⟩ := HA.out
    by_cases hlt : k < q
    · by_cases hn0 : n = 0
      · subst hn0
        have HKEEP := Lib.hid (show ∀ W, Below wr.heap.size wr W → (fun w' => w'.cell? ⟨w.heap.size, 1, none⟩ = some (.slice la 0 lc)) W from fun W hb => (hb.cell (p := ⟨w.heap.size, 1, none⟩) HA.out.1).trans y1)
        dsimp only at HKEEP
        go_upto_region 6 with (fail)
        clear y0
        refine wp_region_held_drew (S := fun w' => w'.cell? ⟨w.heap.size, 1, none⟩ = some (.slice la 0 lc)) (by kernel_rfl) ?_ (fun hHeld => ?_)
        · exact HKEEP.out _ ⟨rfl, rfl, rfl, Nat.le_refl _, fun _ _ => rfl⟩
        obtain ⟨u0, hu0⟩ : ∃ u0, u0 = wr.drew := ⟨_, rfl⟩
        have bd : Below wr.heap.size wr u0 := by rw [hu0]; exact ⟨rfl, rfl, rfl, Nat.le_refl _, fun _ _ => rfl⟩
        replace hHeld : (fun w' => w'.cell? ⟨w.heap.size, 1, none⟩ = some (.slice la 0 lc)) u0 := HKEEP.out _ bd
        rw [← hu0]
        replace HR := Lib.hid (HR.out.below bd)
        replace HA := Lib.hid (HA.out.below bd)
        replace HW := Lib.hid (HW.out.trans (bd.mono HW.out.size))
        clear hu0 bd
        refine take_at (i := 0) (v := ?_) rfl (by kernel_rfl) (by kernel_rfl) (by kernel_rfl) (fun _ _ _ h => h) (by kernel_rfl) (by assumption) ?_ ?_
        rotate_left
        · (intro w hSw; (try dsimp only at hSw); go_simp; try with_reducible rfl)
        simp only [Act.put, List.setIfInBounds_toArray, List.set_cons_zero, List.set_cons_succ]
        refine take_at (i := 1) (v := ?_) rfl (by kernel_rfl) (by kernel_rfl) (by kernel_rfl) (fun _ _ _ h => h) (by kernel_rfl) (by assumption) ?_ ?_
        rotate_left
        · (intro w hSw; (try dsimp only at hSw); go_simp; try with_reducible rfl)
        simp only [Act.put, List.setIfInBounds_toArray, List.set_cons_zero, List.set_cons_succ]
        refine take_at (i := 2) (v := ?_) rfl (by kernel_rfl) (by kernel_rfl) (by kernel_rfl) (fun _ _ _ h => h) (by kernel_rfl) (by assumption) ?_ ?_
        rotate_left
        · (intro w hSw; (try dsimp only at hSw); go_simp; try with_reducible rfl)
        simp only [Act.put, List.setIfInBounds_toArray, List.set_cons_zero, List.set_cons_succ]
        refine take_at (i := 3) (v := ?_) rfl (by kernel_rfl) (by kernel_rfl) (by kernel_rfl) (fun _ _ _ h => h) (by kernel_rfl) (by assumption) ?_ ?_
        rotate_left
        · (intro w hSw; (try dsimp only at hSw); go_simp; try with_reducible rfl)
        simp only [Act.put, List.setIfInBounds_toArray, List.set_cons_zero, List.set_cons_succ]
        refine take_at (i := 4) (v := ?_) rfl (by kernel_rfl) (by kernel_rfl) (by kernel_rfl) (fun _ _ _ h => h) (by kernel_rfl) (by assumption) ?_ ?_
        rotate_left
        · (intro w hSw; (try dsimp only at hSw); go_simp; try with_reducible rfl)
        simp only [Act.put, List.setIfInBounds_toArray, List.set_cons_zero, List.set_cons_succ]
        refine skip_at (i := 5) rfl (by kernel_rfl) (by kernel_rfl) (by kernel_rfl) (fun _ _ _ h => h) (by kernel_rfl) (by assumption) ?_
        simp only [Act.put, List.setIfInBounds_toArray, List.set_cons_zero, List.set_cons_succ]
        refine skip_at (i := 6) rfl (by kernel_rfl) (by kernel_rfl) (by kernel_rfl) (fun _ _ _ h => h) (by kernel_rfl) (by assumption) ?_
        simp only [Act.put, List.setIfInBounds_toArray, List.set_cons_zero, List.set_cons_succ]
        refine skip_at (i := 7) rfl (by kernel_rfl) (by kernel_rfl) (by kernel_rfl) (fun _ _ _ h => h) (by kernel_rfl) (by assumption) ?_
        simp only [Act.put, List.setIfInBounds_toArray, List.set_cons_zero, List.set_cons_succ]
        refine skip_at (i := 8) rfl (by kernel_rfl) (by kernel_rfl) (by kernel_rfl) (fun _ _ _ h => h) (by kernel_rfl) (by assumption) ?_
        simp only [Act.put, List.setIfInBounds_toArray, List.set_cons_zero, List.set_cons_succ]
        refine skip_at (i := 9) rfl (by kernel_rfl) (by kernel_rfl) (by kernel_rfl) (fun _ _ _ h => h) (by kernel_rfl) (by assumption) ?_
        simp only [Act.put, List.setIfInBounds_toArray, List.set_cons_zero, List.set_cons_succ]
        refine skip_at (i := 10) rfl (by kernel_rfl) (by kernel_rfl) (by kernel_rfl) (fun _ _ _ h => h) (by kernel_rfl) (by assumption) ?_
        simp only [Act.put, List.setIfInBounds_toArray, List.set_cons_zero, List.set_cons_succ]
        refine skip_at (i := 11) rfl (by kernel_rfl) (by kernel_rfl) (by kernel_rfl) (fun _ _ _ h => h) (by kernel_rfl) (by assumption) ?_
        simp only [Act.put, List.setIfInBounds_toArray, List.set_cons_zero, List.set_cons_succ]
        refine skip_at (i := 12) rfl (by kernel_rfl) (by kernel_rfl) (by kernel_rfl) (fun _ _ _ h => h) (by kernel_rfl) (by assumption) ?_
        simp only [Act.put, List.setIfInBounds_toArray, List.set_cons_zero, List.set_cons_succ]
        refine skip_at (i := 13) rfl (by kernel_rfl) (by kernel_rfl) (by kernel_rfl) (fun _ _ _ h => h) (by kernel_rfl) (by assumption) ?_
        simp only [Act.put, List.setIfInBounds_toArray, List.set_cons_zero, List.set_cons_succ]
        refine skip_at (i := 14) rfl (by kernel_rfl) (by kernel_rfl) (by kernel_rfl) (fun _ _ _ h => h) (by kernel_rfl) (by assumption) ?_
        simp only [Act.put, List.setIfInBounds_toArray, List.set_cons_zero, List.set_cons_succ]
        refine take_at (i := 15) (v := ?_) rfl (by kernel_rfl) (by kernel_rfl) (by kernel_rfl) (fun _ _ _ h => h) (by kernel_rfl) (by assumption) ?_ ?_
        rotate_left
        · (intro w hSw; (try dsimp only at hSw); go_simp; try with_reducible rfl)
        simp only [Act.put, List.setIfInBounds_toArray, List.set_cons_zero, List.set_cons_succ]
        refine wpAnyH_done (by kernel_rfl) ?_ _
        obtain ⟨l0, hl0⟩ : ∃ l0, l0 = (List.range k).map (labD L) := ⟨_, rfl⟩
        have hR1 : u0.ownsRow w0.heap.size 42 1 u3 k (lvV l0) := by have := HR.out; unfold LRow at this; rw [← hl0] at this; rwa [show l0.length = k by rw [hl0]; simp] at this
        have HL0 := Lib.hid hl0
        have HHL := Lib.hid (show labD L k = 0 from by unfold labD; rw [if_pos HN.out.symm])
        have hsz : w0.heap.size ≤ u0.heap.size := HW.out.size
        clear HR hl0 HKEEP hHeld
        go_wp2_with (at_builtin; refine wpList_append_own _ rfl (.tmp 30) (.tmp 32) 63 rfl w0.heap.size 42 ib (.int .u8 0) 1 1 Try.underlying63 hi hz0 hz1 hz2 rfl (by decide) u3 k (lvV l0) rfl (hR1.alloc _) ⟨u0.heap.size, 0, none⟩ 1 1 [.int .u8 0] rfl rfl ?c1 ?c2 ?c3 ?c4 ?c5 ?_)
        case c1 => exact new_cells u0 [.int .u8 0] 42 _ rfl
        case c2 => simp [Value.oneCell']
        case c3 => unfold maxLen; omega
        case c4 => omega
        case c5 => simp; omega
        intro v' w2 own2 grow2 _
        have hlt2 : ∀ j, u3.ownBlock = some j → w0.heap.size ≤ j := fun j hj => (hR1.lt j hj).1
        have HR2 := Lib.hid (show LRow w2 w0.heap.size v' ((List.range (k + 1)).map (labD L)) by
          unfold LRow
          rw [labM_snoc, List.length_append, ← HL0.out, HHL.out, show l0.length = k by rw [HL0.out]; simp]
          simpa [lvV] using own2)
        have HA2 := Lib.hid (show LnAt w2 w.heap.size cols (.slice la 0 lc) from (HA.out.below ((Below.refl _ _).alloc (Nat.le_refl _) _)).same grow2.size (grow2.block _ (by have := HA.out.1; simp; omega) (fun e => by have := hlt2 _ e.symm; have := HAL.out; omega)))
        have HW2 := Lib.hid (show Below w0.heap.size w0 w2 from (HW.out.alloc HW.out.size _).grown grow2 (by simp; omega) hlt2)
        clear own2 grow2 hR1 hlt2 HA HW hsz
        go_wp2
        go_roundg (q - (k + 1))
        case rel => exact ⟨k + 1, by go_num, by omega, Nat.le_refl _, HR2, HA2, HW2⟩
        case measure => omega
      have hnp : 0 < n := by omega
      obtain ⟨s, hs⟩ : ∃ s, s = k % n := ⟨_, rfl⟩
      have HSE := Lib.hid hs
      have hsn : s < n := by rw [hs]; exact Nat.mod_lt _ hnp
      have hsk : s ≤ k := by rw [hs]; exact Nat.mod_le _ _
      have t1 : (k : Int).tmod (n : Int) = (s : Int) := by rw [Int.tmod_eq_emod_of_nonneg (by omega), hs]; rfl
      have t2 : (k : Int) % (n : Int) = (s : Int) := by rw [hs]; rfl
      have t3 : IntKind.i64.wrap (s : Int) = (s : Int) := by rw [IntKind.wrap_i64]; omega
      have nz : ¬ (n : Int) = 0 := by omega
      have np : (0 : Int) < (n : Int) := by omega
      obtain ⟨g, o, c', e, hg, hC⟩ := (HD.out.below HW.out).open (by rw [← HN.out]; exact hnp)
      injection e with e1' e2' e3'
      subst e1'
      have hd := hC s (by rw [← HN.out]; exact hsn)
      obtain ⟨d, hde⟩ : ∃ d, d = L.getD s Dc.z := ⟨_, rfl⟩
      have HDE := Lib.hid hde
      rw [← hde] at hd
      have HKEEP := Lib.hid (show ∀ W, Below wr.heap.size wr W → (fun w' => w'.cell? ⟨w.heap.size, 1, none⟩ = some (.slice (some ⟨g, o, none⟩) n lc) ∧ w'.cell? ⟨g, o + s * 5 + 4, none⟩ = some (.bool d.high)) W from fun W hb => ⟨(hb.cell (p := ⟨w.heap.size, 1, none⟩) HA.out.1).trans y1, (hb.cell (p := ⟨g, o + s * 5 + 4, none⟩) hg).trans hd.2.2.2.2⟩)
      dsimp only at HKEEP
      obtain ⟨hh, hhe⟩ : ∃ b, b = d.high := ⟨_, rfl⟩
      rw [← hhe] at HKEEP
      have HHE := Lib.hid hhe
      clear hC e2' e3' hde hd hs hg hhe
      cases hh
      · go_upto_region 6 with (fail)
        clear y0
        refine wp_region_held_drew (S := fun w' => w'.cell? ⟨w.heap.size, 1, none⟩ = some (.slice (some ⟨g, o, none⟩) n lc) ∧ w'.cell? ⟨g, o + s * 5 + 4, none⟩ = some (.bool false)) (by kernel_rfl) ?_ (fun hHeld => ?_)
        · exact HKEEP.out _ ⟨rfl, rfl, rfl, Nat.le_refl _, fun _ _ => rfl⟩
        obtain ⟨u0, hu0⟩ : ∃ u0, u0 = wr.drew := ⟨_, rfl⟩
        have bd : Below wr.heap.size wr u0 := by rw [hu0]; exact ⟨rfl, rfl, rfl, Nat.le_refl _, fun _ _ => rfl⟩
        replace hHeld : (fun w' => w'.cell? ⟨w.heap.size, 1, none⟩ = some (.slice (some ⟨g, o, none⟩) n lc) ∧ w'.cell? ⟨g, o + s * 5 + 4, none⟩ = some (.bool false)) u0 := HKEEP.out _ bd
        rw [← hu0]
        replace HR := Lib.hid (HR.out.below bd)
        replace HA := Lib.hid (HA.out.below bd)
        replace HW := Lib.hid (HW.out.trans (bd.mono HW.out.size))
        clear hu0 bd
        refine take_at (i := 0) (v := ?_) rfl (by kernel_rfl) (by kernel_rfl) (by kernel_rfl) (fun _ _ _ h => h) (by kernel_rfl) (by assumption) ?_ ?_
        rotate_left
        · (intro w hSw; (try dsimp only at hSw); go_simp; try with_reducible rfl)
        simp only [Act.put, List.setIfInBounds_toArray, List.set_cons_zero, List.set_cons_succ]
        refine take_at (i := 1) (v := ?_) rfl (by kernel_rfl) (by kernel_rfl) (by kernel_rfl) (fun _ _ _ h => h) (by kernel_rfl) (by assumption) ?_ ?_
        rotate_left
        · (intro w hSw; (try dsimp only at hSw); go_simp; try with_reducible rfl)
        simp only [Act.put, List.setIfInBounds_toArray, List.set_cons_zero, List.set_cons_succ]
        refine take_at (i := 2) (v := ?_) rfl (by kernel_rfl) (by kernel_rfl) (by kernel_rfl) (fun _ _ _ h => h) (by kernel_rfl) (by assumption) ?_ ?_
        rotate_left
        · (intro w hSw; (try dsimp only at hSw); go_simp; try with_reducible rfl)
        simp only [Act.put, List.setIfInBounds_toArray, List.set_cons_zero, List.set_cons_succ]
        refine take_at (i := 3) (v := ?_) rfl (by kernel_rfl) (by kernel_rfl) (by kernel_rfl) (fun _ _ _ h => h) (by kernel_rfl) (by assumption) ?_ ?_
        rotate_left
        · (intro w hSw; (try dsimp only at hSw); go_simp; try with_reducible rfl)
        simp only [Act.put, List.setIfInBounds_toArray, List.set_cons_zero, List.set_cons_succ]
        refine take_at (i := 4) (v := ?_) rfl (by kernel_rfl) (by kernel_rfl) (by kernel_rfl) (fun _ _ _ h => h) (by kernel_rfl) (by assumption) ?_ ?_
        rotate_left
        · (intro w hSw; (try dsimp only at hSw); go_simp; try with_reducible rfl)
        simp only [Act.put, List.setIfInBounds_toArray, List.set_cons_zero, List.set_cons_succ]
        refine take_at (i := 5) (v := ?_) rfl (by kernel_rfl) (by kernel_rfl) (by kernel_rfl) (fun _ _ _ h => h) (by kernel_rfl) (by assumption) ?_ ?_
        rotate_left
        · (intro w hSw; (try dsimp only at hSw); go_simp; try with_reducible rfl)
        simp only [Act.put, List.setIfInBounds_toArray, List.set_cons_zero, List.set_cons_succ]
        refine take_at (i := 6) (v := ?_) rfl (by kernel_rfl) (by kernel_rfl) (by kernel_rfl) (fun _ _ _ h => h) (by kernel_rfl) (by assumption) ?_ ?_
        rotate_left
        · (intro w hSw; (try dsimp only at hSw); go_simp; try with_reducible rfl)
        simp only [Act.put, List.setIfInBounds_toArray, List.set_cons_zero, List.set_cons_succ]
        refine take_at (i := 7) (v := ?_) rfl (by kernel_rfl) (by kernel_rfl) (by kernel_rfl) (fun _ _ _ h => h) (by kernel_rfl) (by assumption) ?_ ?_
        rotate_left
        · (intro w hSw; (try dsimp only at hSw); go_simp; try with_reducible rfl)
        simp only [Act.put, List.setIfInBounds_toArray, List.set_cons_zero, List.set_cons_succ]
        refine take_at (i := 8) (v := ?_) rfl (by kernel_rfl) (by kernel_rfl) (by kernel_rfl) (fun _ _ _ h => h) (by kernel_rfl) (by assumption) ?_ ?_
        rotate_left
        · (intro w hSw; (try dsimp only at hSw); go_simp; try with_reducible rfl)
        simp only [Act.put, List.setIfInBounds_toArray, List.set_cons_zero, List.set_cons_succ]
        refine take_at (i := 9) (v := ?_) rfl (by kernel_rfl) (by kernel_rfl) (by kernel_rfl) (fun _ _ _ h => h) (by kernel_rfl) (by assumption) ?_ ?_
        rotate_left
        · (intro w hSw; (try dsimp only at hSw); go_simp; try with_reducible rfl)
        simp only [Act.put, List.setIfInBounds_toArray, List.set_cons_zero, List.set_cons_succ]
        refine take_at (i := 10) (v := ?_) rfl (by kernel_rfl) (by kernel_rfl) (by kernel_rfl) (fun _ _ _ h => h) (by kernel_rfl) (by assumption) ?_ ?_
        rotate_left
        · (intro w hSw; (try dsimp only at hSw); go_simp; try with_reducible rfl)
        simp only [Act.put, List.setIfInBounds_toArray, List.set_cons_zero, List.set_cons_succ]
        refine take_at (i := 11) (v := ?_) rfl (by kernel_rfl) (by kernel_rfl) (by kernel_rfl) (fun _ _ _ h => h) (by kernel_rfl) (by assumption) ?_ ?_
        rotate_left
        · (intro w hSw; (try dsimp only at hSw); go_simp; try with_reducible rfl)
        simp only [Act.put, List.setIfInBounds_toArray, List.set_cons_zero, List.set_cons_succ]
        refine take_at (i := 12) (v := ?_) rfl (by kernel_rfl) (by kernel_rfl) (by kernel_rfl) (fun _ _ _ h => h) (by kernel_rfl) (by assumption) ?_ ?_
        rotate_left
        · (intro w hSw; (try dsimp only at hSw); go_simp; try with_reducible rfl)
        simp only [Act.put, List.setIfInBounds_toArray, List.set_cons_zero, List.set_cons_succ]
        refine take_at (i := 13) (v := ?_) rfl (by kernel_rfl) (by kernel_rfl) (by kernel_rfl) (fun _ _ _ h => h) (by kernel_rfl) (by assumption) ?_ ?_
        rotate_left
        · (intro w hSw; (try dsimp only at hSw); go_simp; try with_reducible rfl)
        simp only [Act.put, List.setIfInBounds_toArray, List.set_cons_zero, List.set_cons_succ]
        refine take_at (i := 14) (v := ?_) rfl (by kernel_rfl) (by kernel_rfl) (by kernel_rfl) (fun _ _ _ h => h) (by kernel_rfl) (by assumption) ?_ ?_
        rotate_left
        · (intro w hSw; (try dsimp only at hSw); go_simp; try with_reducible rfl)
        simp only [Act.put, List.setIfInBounds_toArray, List.set_cons_zero, List.set_cons_succ]
        refine take_at (i := 15) (v := ?_) rfl (by kernel_rfl) (by kernel_rfl) (by kernel_rfl) (fun _ _ _ h => h) (by kernel_rfl) (by assumption) ?_ ?_
        rotate_left
        · (intro w hSw; (try dsimp only at hSw); go_simp; try with_reducible rfl)
        simp only [Act.put, List.setIfInBounds_toArray, List.set_cons_zero, List.set_cons_succ]
        refine wpAnyH_done (by kernel_rfl) ?_ _
        obtain ⟨l0, hl0⟩ : ∃ l0, l0 = (List.range k).map (labD L) := ⟨_, rfl⟩
        have hR1 : u0.ownsRow w0.heap.size 42 1 u3 k (lvV l0) := by have := HR.out; unfold LRow at this; rw [← hl0] at this; rwa [show l0.length = k by rw [hl0]; simp] at this
        have HL0 := Lib.hid hl0
        have HHL := Lib.hid (show labD L k = 0 from by unfold labD; rw [if_neg (by rw [← HN.out]; omega), ← HN.out, ← HSE.out, ← HDE.out, ← HHE.out]; rfl)
        have hsz : w0.heap.size ≤ u0.heap.size := HW.out.size
        clear HR hl0 HKEEP hHeld
        go_wp2_with (at_builtin; refine wpList_append_own _ rfl (.tmp 30) (.tmp 32) 63 rfl w0.heap.size 42 ib (.int .u8 0) 1 1 Try.underlying63 hi hz0 hz1 hz2 rfl (by decide) u3 k (lvV l0) rfl (hR1.alloc _) ⟨u0.heap.size, 0, none⟩ 1 1 [.int .u8 0] rfl rfl ?c1 ?c2 ?c3 ?c4 ?c5 ?_)
        case c1 => exact new_cells u0 [.int .u8 0] 42 _ rfl
        case c2 => simp [Value.oneCell']
        case c3 => unfold maxLen; omega
        case c4 => omega
        case c5 => simp; omega
        intro v' w2 own2 grow2 _
        have hlt2 : ∀ j, u3.ownBlock = some j → w0.heap.size ≤ j := fun j hj => (hR1.lt j hj).1
        have HR2 := Lib.hid (show LRow w2 w0.heap.size v' ((List.range (k + 1)).map (labD L)) by
          unfold LRow
          rw [labM_snoc, List.length_append, ← HL0.out, HHL.out, show l0.length = k by rw [HL0.out]; simp]
          simpa [lvV] using own2)
        have HA2 := Lib.hid (show LnAt w2 w.heap.size cols (.slice (some ⟨g, o, none⟩) n lc) from (HA.out.below ((Below.refl _ _).alloc (Nat.le_refl _) _)).same grow2.size (grow2.block _ (by have := HA.out.1; simp; omega) (fun e => by have := hlt2 _ e.symm; have := HAL.out; omega)))
        have HW2 := Lib.hid (show Below w0.heap.size w0 w2 from (HW.out.alloc HW.out.size _).grown grow2 (by simp; omega) hlt2)
        clear own2 grow2 hR1 hlt2 HA HW hsz
        go_wp2
        go_roundg (q - (k + 1))
        case rel => exact ⟨k + 1, by go_num, by omega, Nat.le_refl _, HR2, HA2, HW2⟩
        case measure => omega
      · go_upto_region 6 with (fail)
        clear y0
        refine wp_region_held_drew (S := fun w' => w'.cell? ⟨w.heap.size, 1, none⟩ = some (.slice (some ⟨g, o, none⟩) n lc) ∧ w'.cell? ⟨g, o + s * 5 + 4, none⟩ = some (.bool true)) (by kernel_rfl) ?_ (fun hHeld => ?_)
        · exact HKEEP.out _ ⟨rfl, rfl, rfl, Nat.le_refl _, fun _ _ => rfl⟩
        obtain ⟨u0, hu0⟩ : ∃ u0, u0 = wr.drew := ⟨_, rfl⟩
        have bd : Below wr.heap.size wr u0 := by rw [hu0]; exact ⟨rfl, rfl, rfl, Nat.le_refl _, fun _ _ => rfl⟩
        replace hHeld : (fun w' => w'.cell? ⟨w.heap.size, 1, none⟩ = some (.slice (some ⟨g, o, none⟩) n lc) ∧ w'.cell? ⟨g, o + s * 5 + 4, none⟩ = some (.bool true)) u0 := HKEEP.out _ bd
        rw [← hu0]
        replace HR := Lib.hid (HR.out.below bd)
        replace HA := Lib.hid (HA.out.below bd)
        replace HW := Lib.hid (HW.out.trans (bd.mono HW.out.size))
        clear hu0 bd
        refine take_at (i := 0) (v := ?_) rfl (by kernel_rfl) (by kernel_rfl) (by kernel_rfl) (fun _ _ _ h => h) (by kernel_rfl) (by assumption) ?_ ?_
        rotate_left
        · (intro w hSw; (try dsimp only at hSw); go_simp; try with_reducible rfl)
        simp only [Act.put, List.setIfInBounds_toArray, List.set_cons_zero, List.set_cons_succ]
        refine take_at (i := 1) (v := ?_) rfl (by kernel_rfl) (by kernel_rfl) (by kernel_rfl) (fun _ _ _ h => h) (by kernel_rfl) (by assumption) ?_ ?_
        rotate_left
        · (intro w hSw; (try dsimp only at hSw); go_simp; try with_reducible rfl)
        simp only [Act.put, List.setIfInBounds_toArray, List.set_cons_zero, List.set_cons_succ]
        refine take_at (i := 2) (v := ?_) rfl (by kernel_rfl) (by kernel_rfl) (by kernel_rfl) (fun _ _ _ h => h) (by kernel_rfl) (by assumption) ?_ ?_
        rotate_left
        · (intro w hSw; (try dsimp only at hSw); go_simp; try with_reducible rfl)
        simp only [Act.put, List.setIfInBounds_toArray, List.set_cons_zero, List.set_cons_succ]
        refine take_at (i := 3) (v := ?_) rfl (by kernel_rfl) (by kernel_rfl) (by kernel_rfl) (fun _ _ _ h => h) (by kernel_rfl) (by assumption) ?_ ?_
        rotate_left
        · (intro w hSw; (try dsimp only at hSw); go_simp; try with_reducible rfl)
        simp only [Act.put, List.setIfInBounds_toArray, List.set_cons_zero, List.set_cons_succ]
        refine take_at (i := 4) (v := ?_) rfl (by kernel_rfl) (by kernel_rfl) (by kernel_rfl) (fun _ _ _ h => h) (by kernel_rfl) (by assumption) ?_ ?_
        rotate_left
        · (intro w hSw; (try dsimp only at hSw); go_simp; try with_reducible rfl)
        simp only [Act.put, List.setIfInBounds_toArray, List.set_cons_zero, List.set_cons_succ]
        refine take_at (i := 5) (v := ?_) rfl (by kernel_rfl) (by kernel_rfl) (by kernel_rfl) (fun _ _ _ h => h) (by kernel_rfl) (by assumption) ?_ ?_
        rotate_left
        · (intro w hSw; (try dsimp only at hSw); go_simp; try with_reducible rfl)
        simp only [Act.put, List.setIfInBounds_toArray, List.set_cons_zero, List.set_cons_succ]
        refine take_at (i := 6) (v := ?_) rfl (by kernel_rfl) (by kernel_rfl) (by kernel_rfl) (fun _ _ _ h => h) (by kernel_rfl) (by assumption) ?_ ?_
        rotate_left
        · (intro w hSw; (try dsimp only at hSw); go_simp; try with_reducible rfl)
        simp only [Act.put, List.setIfInBounds_toArray, List.set_cons_zero, List.set_cons_succ]
        refine take_at (i := 7) (v := ?_) rfl (by kernel_rfl) (by kernel_rfl) (by kernel_rfl) (fun _ _ _ h => h) (by kernel_rfl) (by assumption) ?_ ?_
        rotate_left
        · (intro w hSw; (try dsimp only at hSw); go_simp; try with_reducible rfl)
        simp only [Act.put, List.setIfInBounds_toArray, List.set_cons_zero, List.set_cons_succ]
        refine take_at (i := 8) (v := ?_) rfl (by kernel_rfl) (by kernel_rfl) (by kernel_rfl) (fun _ _ _ h => h) (by kernel_rfl) (by assumption) ?_ ?_
        rotate_left
        · (intro w hSw; (try dsimp only at hSw); go_simp; try with_reducible rfl)
        simp only [Act.put, List.setIfInBounds_toArray, List.set_cons_zero, List.set_cons_succ]
        refine take_at (i := 9) (v := ?_) rfl (by kernel_rfl) (by kernel_rfl) (by kernel_rfl) (fun _ _ _ h => h) (by kernel_rfl) (by assumption) ?_ ?_
        rotate_left
        · (intro w hSw; (try dsimp only at hSw); go_simp; try with_reducible rfl)
        simp only [Act.put, List.setIfInBounds_toArray, List.set_cons_zero, List.set_cons_succ]
        refine take_at (i := 10) (v := ?_) rfl (by kernel_rfl) (by kernel_rfl) (by kernel_rfl) (fun _ _ _ h => h) (by kernel_rfl) (by assumption) ?_ ?_
        rotate_left
        · (intro w hSw; (try dsimp only at hSw); go_simp; try with_reducible rfl)
        simp only [Act.put, List.setIfInBounds_toArray, List.set_cons_zero, List.set_cons_succ]
        refine take_at (i := 11) (v := ?_) rfl (by kernel_rfl) (by kernel_rfl) (by kernel_rfl) (fun _ _ _ h => h) (by kernel_rfl) (by assumption) ?_ ?_
        rotate_left
        · (intro w hSw; (try dsimp only at hSw); go_simp; try with_reducible rfl)
        simp only [Act.put, List.setIfInBounds_toArray, List.set_cons_zero, List.set_cons_succ]
        refine take_at (i := 12) (v := ?_) rfl (by kernel_rfl) (by kernel_rfl) (by kernel_rfl) (fun _ _ _ h => h) (by kernel_rfl) (by assumption) ?_ ?_
        rotate_left
        · (intro w hSw; (try dsimp only at hSw); go_simp; try with_reducible rfl)
        simp only [Act.put, List.setIfInBounds_toArray, List.set_cons_zero, List.set_cons_succ]
        refine take_at (i := 13) (v := ?_) rfl (by kernel_rfl) (by kernel_rfl) (by kernel_rfl) (fun _ _ _ h => h) (by kernel_rfl) (by assumption) ?_ ?_
        rotate_left
        · (intro w hSw; (try dsimp only at hSw); go_simp; try with_reducible rfl)
        simp only [Act.put, List.setIfInBounds_toArray, List.set_cons_zero, List.set_cons_succ]
        refine take_at (i := 14) (v := ?_) rfl (by kernel_rfl) (by kernel_rfl) (by kernel_rfl) (fun _ _ _ h => h) (by kernel_rfl) (by assumption) ?_ ?_
        rotate_left
        · (intro w hSw; (try dsimp only at hSw); go_simp; try with_reducible rfl)
        simp only [Act.put, List.setIfInBounds_toArray, List.set_cons_zero, List.set_cons_succ]
        refine take_at (i := 15) (v := ?_) rfl (by kernel_rfl) (by kernel_rfl) (by kernel_rfl) (fun _ _ _ h => h) (by kernel_rfl) (by assumption) ?_ ?_
        rotate_left
        · (intro w hSw; (try dsimp only at hSw); go_simp; try with_reducible rfl)
        simp only [Act.put, List.setIfInBounds_toArray, List.set_cons_zero, List.set_cons_succ]
        refine wpAnyH_done (by kernel_rfl) ?_ _
        obtain ⟨l0, hl0⟩ : ∃ l0, l0 = (List.range k).map (labD L) := ⟨_, rfl⟩
        have hR1 : u0.ownsRow w0.heap.size 42 1 u3 k (lvV l0) := by have := HR.out; unfold LRow at this; rw [← hl0] at this; rwa [show l0.length = k by rw [hl0]; simp] at this
        have HL0 := Lib.hid hl0
        have HHL := Lib.hid (show labD L k = 1 from by unfold labD; rw [if_neg (by rw [← HN.out]; omega), ← HN.out, ← HSE.out, ← HDE.out, ← HHE.out]; rfl)
        have hsz : w0.heap.size ≤ u0.heap.size := HW.out.size
        clear HR hl0 HKEEP hHeld
        go_wp2_with (at_builtin; refine wpList_append_own _ rfl (.tmp 30) (.tmp 32) 63 rfl w0.heap.size 42 ib (.int .u8 0) 1 1 Try.underlying63 hi hz0 hz1 hz2 rfl (by decide) u3 k (lvV l0) rfl (hR1.alloc _) ⟨u0.heap.size, 0, none⟩ 1 1 [.int .u8 1] rfl rfl ?c1 ?c2 ?c3 ?c4 ?c5 ?_)
        case c1 => exact new_cells u0 [.int .u8 1] 42 _ rfl
        case c2 => simp [Value.oneCell']
        case c3 => unfold maxLen; omega
        case c4 => omega
        case c5 => simp; omega
        intro v' w2 own2 grow2 _
        have hlt2 : ∀ j, u3.ownBlock = some j → w0.heap.size ≤ j := fun j hj => (hR1.lt j hj).1
        have HR2 := Lib.hid (show LRow w2 w0.heap.size v' ((List.range (k + 1)).map (labD L)) by
          unfold LRow
          rw [labM_snoc, List.length_append, ← HL0.out, HHL.out, show l0.length = k by rw [HL0.out]; simp]
          simpa [lvV] using own2)
        have HA2 := Lib.hid (show LnAt w2 w.heap.size cols (.slice (some ⟨g, o, none⟩) n lc) from (HA.out.below ((Below.refl _ _).alloc (Nat.le_refl _) _)).same grow2.size (grow2.block _ (by have := HA.out.1; simp; omega) (fun e => by have := hlt2 _ e.symm; have := HAL.out; omega)))
        have HW2 := Lib.hid (show Below w0.heap.size w0 w2 from (HW.out.alloc HW.out.size _).grown grow2 (by simp; omega) hlt2)
        clear own2 grow2 hR1 hlt2 HA HW hsz
        go_wp2
        go_roundg (q - (k + 1))
        case rel => exact ⟨k + 1, by go_num, by omega, Nat.le_refl _, HR2, HA2, HW2⟩
        case measure => omega
    · have hkq' : k = q := by omega
      subst hkq'
      go_wp2
      go_ret
      exact ⟨u3, rfl, by unfold labM; rw [← HQ.out]; exact own_lower HR.out HS0.out, HB0.out.trans (HW.out.mono HB0.out.size)⟩
end Go.Proofs.Ythildghpgajgoaa.Lab
