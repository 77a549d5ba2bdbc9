/- RowMoves: what is inserted and then deleted leaves what was not cut; two deletes are one of both; a row made longer and cut again is as it was; a text has a rune for each cell but Rights. -/
import Derived.Test.YthildghpgajgoaaRmMath
import Derived.Test.YthildghpgajgoaaRqRaise
import Derived.Lib.OthersKept
namespace Go.Proofs.Ythildghpgajgoaa.Lab
open Go Go.RowKit Go.ChangeShapes Go.WideShapes Go.ChangeAt Go.Lib

def ItAt (w0 w : World) (s : ByteArray) (pos : Nat) : Prop := w.heap[w0.heap.size]? = some (.stringIter s pos) ∧ Below w0.heap.size w0 w
theorem ItAt.fresh (w : World) (s : ByteArray) (pos : Nat) : ItAt w (w.iter s pos) s pos := ⟨World.iter_heap w s pos, (Below.refl _ _).alloc (Nat.le_refl _) _⟩
theorem ItAt.move {w0 w : World} {s : ByteArray} {pos : Nat} (h : ItAt w0 w s pos) (pos' : Nat) : ItAt w0 (w.iterAt w0.heap.size s pos') s pos' :=
  ⟨iterAt_heap w _ s pos pos' h.1, below_iterAt h.2 (Nat.le_refl _) s pos'⟩
theorem iterPos_of {w : World} {k : Nat} {s : ByteArray} {p : Nat} (h : w.heap[k]? = some (.stringIter s p)) : w.iterPos k = p := by simp [World.iterPos, h]
theorem ItAt.pos {w0 w : World} {s : ByteArray} {pos : Nat} (h : ItAt w0 w s pos) : w.iterPos w0.heap.size = pos := iterPos_of h.1
def mBlank : Cel := ⟨0, 0, 0, 0, { fg := Cl.zero, bg := ⟨2, 5, 0, 0⟩, fl := 0 }, 1⟩
theorem mBlank_eq (w : World) (b : Cel) (hb : b = mBlank) : (Op.equalIn 10000 44 (celV b) (.agg #[.int .i32 0, .int .i32 0, .int .i32 0, .int .u8 0, .int .u8 0, .int .u8 0, .int .u8 0, .int .u8 0, .int .u8 2, .int .u8 5, .int .u8 0, .int .u8 0, .int .u16 0, .int .u8 1])).run Try.prog w = .ok true w := by
  subst hb
  have := eqCel w mBlank mBlank
  rw [decide_eq_true rfl] at this
  exact this
theorem blank_is (W : World) : Calls Try.prog 13 #[.agg #[.int .u8 1, .int .u8 0, .int .u8 0, .int .u8 0, .int .u8 2, .int .u8 5, .int .u8 0, .int .u8 0, .int .u16 1], .int .u8 1] W fun e w' => e = .returned (celV mBlank) ∧ Below W.heap.size W w' :=
  blank_any W { fg := ⟨1, 0, 0, 0⟩, bg := ⟨2, 5, 0, 0⟩, fl := 1 } 1
theorem psOne (w W : World) (s : Nat) (hs : s = w.heap.size) (i : Nat) (hi : i < 10000) (hW : W = w.alloc (.cells #[.int .i64 (i : Nat)] 3)) : PsAt W (.slice (some ⟨s, 0, none⟩) 1 1) [(i : Int)] := by
  subst hs
  subst hW
  refine ⟨w.heap.size, 0, 1, rfl, by simp, by simp, fun j hj => ?_, fun j hj => ?_⟩
  · obtain rfl : j = 0 := by simpa using hj
    simp
  · obtain rfl : j = 0 := by simpa using hj
    show (-100000 : Int) < (i : Int) ∧ (i : Int) < 100000
    omega
theorem psTwo (w W : World) (s : Nat) (hs : s = w.heap.size) (i j : Nat) (hi : i < 10000) (hj : j < 10000) (hW : W = w.alloc (.cells #[.int .i64 (i : Nat), .int .i64 (j : Nat)] 3)) : PsAt W (.slice (some ⟨s, 0, none⟩) 2 2) [(i : Int), (j : Int)] := by
  subst hs
  subst hW
  refine ⟨w.heap.size, 0, 2, rfl, by simp, by simp, fun k hk => ?_, fun k hk => ?_⟩
  · rcases (show k = 0 ∨ k = 1 by simp at hk; omega) with rfl | rfl
    · simp
    · simp
  · rcases (show k = 0 ∨ k = 1 by simp at hk; omega) with rfl | rfl
    · show (-100000 : Int) < (i : Int) ∧ (i : Int) < 100000
      omega
    · show (-100000 : Int) < (j : Int) ∧ (j : Int) < 100000
      omega
/-- A row as it can be read, and whole. -/
def RW (w : World) (v : Value) (R : Cls) : Prop := RowIn w v R ∧ Wh R ∧ R.length ≤ 60
theorem RW.below {w w' : World} {v : Value} {R : Cls} (h : RW w v R) (hb : Below w.heap.size w w') : RW w' v R := ⟨h.1.below hb, h.2⟩
theorem RW.ins {w : World} {v : Value} {R : Cls} (h : RW w v R) (i n : Int) (b : Cel) (hb : b.k = 0) : Calls Try.prog 15 #[v, .int .i64 i, .int .i64 n, celV b] w fun e w' => ∃ v', e = .returned v' ∧ RW w' v' (insertM R i n b) ∧ Below w.heap.size w w' :=
  (insert_any w v R i n b h.1 h.2.1 (by have := h.2.2; omega)).mono fun _ _ ⟨v', e, h1, h2⟩ => ⟨v', e, ⟨h1.row, h.2.1.ins hb (in2 _ _ _), by rw [len_insert]; exact h.2.2⟩, h2⟩
theorem RW.del {w : World} {v : Value} {R : Cls} (h : RW w v R) (i n : Int) (b : Cel) (hb : b.k = 0) : Calls Try.prog 14 #[v, .int .i64 i, .int .i64 n, celV b] w fun e w' => ∃ v', e = .returned v' ∧ RW w' v' (deleteM R i n b) ∧ Below w.heap.size w w' :=
  (delete_any w v R i n b h.1 h.2.1 (by have := h.2.2; omega)).mono fun _ _ ⟨v', e, h1, h2⟩ => ⟨v', e, ⟨h1.row, h.2.1.del hb, by rw [len_delete]; exact h.2.2⟩, h2⟩
theorem RW.brk {w : World} {v : Value} {R : Cls} (h : RW w v R) {u : Value} {L : List Int} (hu : PsAt w u L) {Q : Cls} (hQ : L.foldl breakM R = Q) : Calls Try.prog 16 #[v, u] w fun e w' => ∃ v', e = .returned v' ∧ RW w' v' Q ∧ Below w.heap.size w w' := by
  subst hQ
  exact (break_any w v R u L h.1 h.2.1 (by have := h.2.2; omega) hu).mono fun _ _ ⟨g, c, e, _, h1, _, _, h2⟩ => ⟨_, e, ⟨h1.row, h.2.1.breaks L, by rw [len_breaks]; exact h.2.2⟩, h2⟩
theorem RW.res {w : World} {v : Value} {R : Cls} (h : RW w v R) (i : Nat) (b : Cel) (hb : b.k = 0) (hi : i ≤ 60) : Calls Try.prog 19 #[v, .int .i64 (i : Nat), celV b] w fun e w' => ∃ v', e = .returned v' ∧ RW w' v' (resM R i b) ∧ Below w.heap.size w w' :=
  (resize_any w v R (i : Nat) b h.1 h.2.1 (by have := h.2.2; omega) (by omega)).mono fun _ _ ⟨v', e, h1, h2⟩ => ⟨v', e, ⟨by have := h1.row; unfold resizeM at this; rw [Int.toNat_natCast] at this; exact this, h.2.1.res hb, by rw [len_res]; exact hi⟩, h2⟩
set_option maxHeartbeats 16000000 in
set_option maxRecDepth 100000 in
theorem moves_core (W : World) (cols : Nat) (u : Value) (L : List Dc) (x0 x1 x2 : Nat) (hc : cols < 256) (hL : DsIn W u L) (h0 : x0 < 256) (h1 : x1 < 256) (h2 : x2 < 256) :
    Calls Try.prog 4 #[.agg #[.int .u8 (cols : Nat), u], .agg #[.int .u8 (x0 : Nat), .int .u8 (x1 : Nat), .int .u8 (x2 : Nat)]] W fun e w' => e = .returned (.bool true) ∧ Below W.heap.size W w' := by
  have HLD := Lib.hid hL
  obtain ⟨la, lc, rfl⟩ := hL.shape
  obtain ⟨ln, hln⟩ : ∃ n, n = L.length := ⟨_, rfl⟩
  rw [← hln] at HLD ⊢
  obtain ⟨w0, hw0⟩ : ∃ y, y = (W.alloc (.cells #[.int .u8 (cols : Nat), .slice la ln lc] 24)).alloc (.cells #[.int .u8 (x0 : Nat), .int .u8 (x1 : Nat), .int .u8 (x2 : Nat)] 47) := ⟨_, rfl⟩
  obtain ⟨z, hz⟩ : ∃ y, y = W.heap.size := ⟨_, rfl⟩
  obtain ⟨t, ht⟩ : ∃ y, y = W.heap.size + 1 := ⟨_, rfl⟩
  have HB := Lib.hid (show Below W.heap.size W w0 by rw [hw0]; exact ((Below.refl _ _).alloc (Nat.le_refl _) _).alloc (by simp) _)
  have HZ := Lib.hid (show LnAt w0 z cols (.slice la ln lc) by rw [hw0]; exact (LnAt.newAt W z hz cols _ _).below ((Below.refl _ _).alloc (Nat.le_refl _) _))
  have HT := Lib.hid (show t < w0.heap.size ∧ w0.cell? ⟨t, 0, none⟩ = some (.int .u8 (x0 : Nat)) ∧ w0.cell? ⟨t, 1, none⟩ = some (.int .u8 (x1 : Nat)) ∧ w0.cell? ⟨t, 2, none⟩ = some (.int .u8 (x2 : Nat)) by rw [hw0, ht]; exact ⟨by simp, by simp, by simp, by simp⟩)
  have HCO := Lib.hid hc
  clear hL hln hc
  go_enter Try.func4, Try.ntmps4
  go_upto_region 1 with (fail)
  rw [← hw0, ← ht, ← hz]
  clear hw0 ht hz
  go_wp2_with fail
  refine (works_any w0).mono ?_
  rintro e w1 ⟨rfl, bb⟩
  replace HZ := Lib.hid (HZ.out.below bb)
  have HTB := Lib.hid bb
  replace HB := Lib.hid (HB.out.trans (bb.mono HB.out.size))
  clear bb
  obtain ⟨_, z0, z1⟩ := HZ.out
  go_wp2_with fail
  refine (rrow_any _ cols _ L HCO.out (HLD.out.below HB.out)).mono ?_
  rintro e w2 ⟨r, rfl, r2, bb⟩
  obtain ⟨R, hR⟩ : ∃ R, R = rowM cols L := ⟨_, rfl⟩
  have HRF := Lib.hid (show Wh R ∧ R.length ≤ 30 ∧ AllD R by rw [hR]; exact ⟨(rowM_whole cols L).1, by rw [(rowM_whole cols L).2.2]; omega, drawn_row cols L⟩)
  rw [← hR] at r2
  obtain ⟨ra, rc, rfl⟩ := r2.shape
  obtain ⟨n, hn⟩ : ∃ n, n = R.length := ⟨_, rfl⟩
  have HN := Lib.hid hn
  rw [← hn] at r2 ⊢
  have hn30 : n ≤ 30 := by rw [hn]; exact HRF.out.2.1
  have HR := Lib.hid (show RW w2 (.slice ra n rc) R from ⟨r2.row, HRF.out.1, by have := HRF.out.2.1; omega⟩)
  have HT2 := Lib.hid (show ∀ V, Below w2.heap.size w2 V → V.cell? ⟨t, 0, none⟩ = some (.int .u8 (x0 : Nat)) ∧ V.cell? ⟨t, 1, none⟩ = some (.int .u8 (x1 : Nat)) ∧ V.cell? ⟨t, 2, none⟩ = some (.int .u8 (x2 : Nat)) from fun V hv => by
    have hb : Below w0.heap.size w0 V := (HTB.out.trans (bb.mono HTB.out.size)).trans (hv.mono (HTB.out.trans (bb.mono HTB.out.size)).size)
    have k : ∀ i, V.cell? ⟨t, i, none⟩ = w0.cell? ⟨t, i, none⟩ := fun i => World.cell?_of_block (a := ⟨t, i, none⟩) (hb.block t HT.out.1)
    exact ⟨(k 0).trans HT.out.2.1, (k 1).trans HT.out.2.2.1, (k 2).trans HT.out.2.2.2⟩)
  replace HB := Lib.hid (HB.out.trans (bb.mono HB.out.size))
  clear r2 bb HZ z0 z1 hR hn HLD HT HTB
  obtain ⟨n1, hn1⟩ : ∃ y, y = n + 1 := ⟨_, rfl⟩
  obtain ⟨p, hp⟩ : ∃ y, y = x0 % n1 := ⟨_, rfl⟩
  obtain ⟨nn, hnn⟩ : ∃ y, y = x1 % 6 := ⟨_, rfl⟩
  obtain ⟨mm, hmm⟩ : ∃ y, y = x2 % 6 := ⟨_, rfl⟩
  have hpn : p ≤ n := by have := Nat.mod_lt x0 (show 0 < n1 by omega); omega
  have hnn6 : nn < 6 := by rw [hnn]; exact Nat.mod_lt _ (by decide)
  have hmm6 : mm < 6 := by rw [hmm]; exact Nat.mod_lt _ (by decide)
  have c0 : IntKind.i64.wrap (x0 : Int) = (x0 : Int) := by rw [IntKind.wrap_i64]; omega
  have c1 : IntKind.i64.wrap ((n : Int) + 1) = (n1 : Int) := by rw [IntKind.wrap_i64]; omega
  have c2 : (x0 : Int).tmod (n1 : Int) = (p : Int) := by rw [Int.tmod_eq_emod_of_nonneg (by omega), hp]; rfl
  have c3 : (x0 : Int) % (n1 : Int) = (p : Int) := by rw [hp]; rfl
  have c4 : IntKind.i64.wrap (p : Int) = (p : Int) := by rw [IntKind.wrap_i64]; omega
  have c5 : ¬ (n1 : Int) = 0 := by omega
  have c5n : ¬ n1 = 0 := by omega
  have c6 : (x1 : Int).tmod 6 = (nn : Int) := by rw [Int.tmod_eq_emod_of_nonneg (by omega), hnn]; rfl
  have c7 : (x1 : Int) % 6 = (nn : Int) := by rw [hnn]; rfl
  have c8 : IntKind.u8.wrap (nn : Int) = (nn : Int) := by rw [IntKind.wrap_u8]; omega
  have c9 : IntKind.i64.wrap (nn : Int) = (nn : Int) := by rw [IntKind.wrap_i64]; omega
  have c10 : (x2 : Int).tmod 6 = (mm : Int) := by rw [Int.tmod_eq_emod_of_nonneg (by omega), hmm]; rfl
  have c11 : (x2 : Int) % 6 = (mm : Int) := by rw [hmm]; rfl
  have c12 : IntKind.u8.wrap (mm : Int) = (mm : Int) := by rw [IntKind.wrap_u8]; omega
  have c13 : IntKind.i64.wrap (mm : Int) = (mm : Int) := by rw [IntKind.wrap_i64]; omega
  clear hn1 hp hnn hmm h0 h1 h2
  go_upto_region 4 with (fail)
  go_cut [6, 7, 8] (fun v6 v7 v8 wc => v6 = .int .i64 (p : Nat) ∧ v7 = .int .i64 (nn : Nat) ∧ v8 = .int .i64 (mm : Nat) ∧ Hid (Below w2.heap.size w2 wc))
  case first => as_aux_lemma =>
    refine wp_region_held_drew (S := fun w' => w'.cell? ⟨t, 0, none⟩ = some (.int .u8 (x0 : Nat)) ∧ w'.cell? ⟨t, 1, none⟩ = some (.int .u8 (x1 : Nat)) ∧ w'.cell? ⟨t, 2, none⟩ = some (.int .u8 (x2 : Nat))) (by kernel_rfl) ?_ (fun hHeld => ?_)
    · exact HT2.out _ ⟨rfl, rfl, rfl, Nat.le_refl _, fun _ _ => rfl⟩
    obtain ⟨u0, hu0⟩ : ∃ y, y = w2.drew := ⟨_, rfl⟩
    have bd : Below w2.heap.size w2 u0 := by rw [hu0]; exact ⟨rfl, rfl, rfl, Nat.le_refl _, fun _ _ => rfl⟩
    have HU0 := Lib.hid bd
    replace hHeld := HT2.out _ bd
    rw [← hu0]
    clear hu0 bd
    refine take_at (i := 0) (v := ?_) rfl (by kernel_rfl) (by kernel_rfl) (by kernel_rfl) (fun _ _ _ h => h) (by kernel_rfl) (by assumption) ?_ ?_
    rotate_left
    · (intro w hSw; (try dsimp only at hSw); go_simp; try with_reducible rfl)
    simp only [Act.put, List.setIfInBounds_toArray, List.set_cons_zero, List.set_cons_succ]
    refine take_at (i := 1) (v := ?_) rfl (by kernel_rfl) (by kernel_rfl) (by kernel_rfl) (fun _ _ _ h => h) (by kernel_rfl) (by assumption) ?_ ?_
    rotate_left
    · (intro w hSw; (try dsimp only at hSw); go_simp; try with_reducible rfl)
    simp only [Act.put, List.setIfInBounds_toArray, List.set_cons_zero, List.set_cons_succ]
    refine take_at (i := 2) (v := ?_) rfl (by kernel_rfl) (by kernel_rfl) (by kernel_rfl) (fun _ _ _ h => h) (by kernel_rfl) (by assumption) ?_ ?_
    rotate_left
    · (intro w hSw; (try dsimp only at hSw); go_simp; try with_reducible rfl)
    simp only [Act.put, List.setIfInBounds_toArray, List.set_cons_zero, List.set_cons_succ]
    refine take_at (i := 3) (v := ?_) rfl (by kernel_rfl) (by kernel_rfl) (by kernel_rfl) (fun _ _ _ h => h) (by kernel_rfl) (by assumption) ?_ ?_
    rotate_left
    · (intro w hSw; (try dsimp only at hSw); go_simp; try with_reducible rfl)
    simp only [Act.put, List.setIfInBounds_toArray, List.set_cons_zero, List.set_cons_succ]
    refine take_at (i := 4) (v := ?_) rfl (by kernel_rfl) (by kernel_rfl) (by kernel_rfl) (fun _ _ _ h => h) (by kernel_rfl) (by assumption) ?_ ?_
    rotate_left
    · (intro w hSw; (try dsimp only at hSw); go_simp; try with_reducible rfl)
    simp only [Act.put, List.setIfInBounds_toArray, List.set_cons_zero, List.set_cons_succ]
    refine take_at (i := 5) (v := ?_) rfl (by kernel_rfl) (by kernel_rfl) (by kernel_rfl) (fun _ _ _ h => h) (by kernel_rfl) (by assumption) ?_ ?_
    rotate_left
    · (intro w hSw; (try dsimp only at hSw); go_simp; try with_reducible rfl)
    simp only [Act.put, List.setIfInBounds_toArray, List.set_cons_zero, List.set_cons_succ]
    refine take_at (i := 6) (v := ?_) rfl (by kernel_rfl) (by kernel_rfl) (by kernel_rfl) (fun _ _ _ h => h) (by kernel_rfl) (by assumption) ?_ ?_
    rotate_left
    · (intro w hSw; (try dsimp only at hSw); go_simp; try with_reducible rfl)
    simp only [Act.put, List.setIfInBounds_toArray, List.set_cons_zero, List.set_cons_succ]
    refine take_at (i := 7) (v := ?_) rfl (by kernel_rfl) (by kernel_rfl) (by kernel_rfl) (fun _ _ _ h => h) (by kernel_rfl) (by assumption) ?_ ?_
    rotate_left
    · (intro w hSw; (try dsimp only at hSw); go_simp; try with_reducible rfl)
    simp only [Act.put, List.setIfInBounds_toArray, List.set_cons_zero, List.set_cons_succ]
    refine take_at (i := 8) (v := ?_) rfl (by kernel_rfl) (by kernel_rfl) (by kernel_rfl) (fun _ _ _ h => h) (by kernel_rfl) (by assumption) ?_ ?_
    rotate_left
    · (intro w hSw; (try dsimp only at hSw); go_simp; try with_reducible rfl)
    simp only [Act.put, List.setIfInBounds_toArray, List.set_cons_zero, List.set_cons_succ]
    refine take_at (i := 9) (v := ?_) rfl (by kernel_rfl) (by kernel_rfl) (by kernel_rfl) (fun _ _ _ h => h) (by kernel_rfl) (by assumption) ?_ ?_
    rotate_left
    · (intro w hSw; (try dsimp only at hSw); go_simp; try with_reducible rfl)
    simp only [Act.put, List.setIfInBounds_toArray, List.set_cons_zero, List.set_cons_succ]
    refine take_at (i := 10) (v := ?_) rfl (by kernel_rfl) (by kernel_rfl) (by kernel_rfl) (fun _ _ _ h => h) (by kernel_rfl) (by assumption) ?_ ?_
    rotate_left
    · (intro w hSw; (try dsimp only at hSw); go_simp; try with_reducible rfl)
    simp only [Act.put, List.setIfInBounds_toArray, List.set_cons_zero, List.set_cons_succ]
    refine take_at (i := 11) (v := ?_) rfl (by kernel_rfl) (by kernel_rfl) (by kernel_rfl) (fun _ _ _ h => h) (by kernel_rfl) (by assumption) ?_ ?_
    rotate_left
    · (intro w hSw; (try dsimp only at hSw); go_simp; try with_reducible rfl)
    simp only [Act.put, List.setIfInBounds_toArray, List.set_cons_zero, List.set_cons_succ]
    refine take_at (i := 12) (v := ?_) rfl (by kernel_rfl) (by kernel_rfl) (by kernel_rfl) (fun _ _ _ h => h) (by kernel_rfl) (by assumption) ?_ ?_
    rotate_left
    · (intro w hSw; (try dsimp only at hSw); go_simp; try with_reducible rfl)
    simp only [Act.put, List.setIfInBounds_toArray, List.set_cons_zero, List.set_cons_succ]
    refine take_at (i := 13) (v := ?_) rfl (by kernel_rfl) (by kernel_rfl) (by kernel_rfl) (fun _ _ _ h => h) (by kernel_rfl) (by assumption) ?_ ?_
    rotate_left
    · (intro w hSw; (try dsimp only at hSw); go_simp; try with_reducible rfl)
    simp only [Act.put, List.setIfInBounds_toArray, List.set_cons_zero, List.set_cons_succ]
    refine take_at (i := 14) (v := ?_) rfl (by kernel_rfl) (by kernel_rfl) (by kernel_rfl) (fun _ _ _ h => h) (by kernel_rfl) (by assumption) ?_ ?_
    rotate_left
    · (intro w hSw; (try dsimp only at hSw); go_simp; try with_reducible rfl)
    simp only [Act.put, List.setIfInBounds_toArray, List.set_cons_zero, List.set_cons_succ]
    refine take_at (i := 15) (v := ?_) rfl (by kernel_rfl) (by kernel_rfl) (by kernel_rfl) (fun _ _ _ h => h) (by kernel_rfl) (by assumption) ?_ ?_
    rotate_left
    · (intro w hSw; (try dsimp only at hSw); go_simp; try with_reducible rfl)
    simp only [Act.put, List.setIfInBounds_toArray, List.set_cons_zero, List.set_cons_succ]
    refine take_at (i := 16) (v := ?_) rfl (by kernel_rfl) (by kernel_rfl) (by kernel_rfl) (fun _ _ _ h => h) (by kernel_rfl) (by assumption) ?_ ?_
    rotate_left
    · (intro w hSw; (try dsimp only at hSw); go_simp; try with_reducible rfl)
    simp only [Act.put, List.setIfInBounds_toArray, List.set_cons_zero, List.set_cons_succ]
    refine take_at (i := 17) (v := ?_) rfl (by kernel_rfl) (by kernel_rfl) (by kernel_rfl) (fun _ _ _ h => h) (by kernel_rfl) (by assumption) ?_ ?_
    rotate_left
    · (intro w hSw; (try dsimp only at hSw); go_simp; try with_reducible rfl)
    simp only [Act.put, List.setIfInBounds_toArray, List.set_cons_zero, List.set_cons_succ]
    refine wpAnyH_done (by kernel_rfl) ?_ _
    clear hHeld
    go_wp2
    go_meet
    case rel => exact ⟨rfl, rfl, rfl, HU0⟩
  case rest =>
  obtain ⟨rfl, rfl, rfl, HU⟩ := hcut
  obtain ⟨w3, rfl⟩ : ∃ v : World, v = wc := ⟨_, rfl⟩
  have bb := HU.out
  replace HR := Lib.hid (HR.out.below bb)
  replace HB := Lib.hid (HB.out.trans (bb.mono HB.out.size))
  clear HU bb HT2 c0 c1 c2 c3 c4 c5 c5n c6 c7 c8 c9 c10 c11 c12 c13
  go_wp2_with fail
  refine (blank_is w3).mono ?_
  rintro e w4 ⟨rfl, bb⟩
  replace HR := Lib.hid (HR.out.below bb)
  replace HB := Lib.hid (HB.out.trans (bb.mono HB.out.size))
  clear bb
  obtain ⟨b, hb⟩ : ∃ b, b = mBlank := ⟨_, rfl⟩
  have HBB := Lib.hid hb
  have HBK := Lib.hid (show b.k = 0 by rw [hb]; rfl)
  rw [← hb]
  clear hb
  obtain ⟨w5, hw5⟩ : ∃ y, y = w4.alloc (.cells #[.int .i32 b.ru, .int .i32 b.m0, .int .i32 b.m1, .int .u8 b.k, .int .u8 b.a.fg.k, .int .u8 b.a.fg.r, .int .u8 b.a.fg.g, .int .u8 b.a.fg.b, .int .u8 b.a.bg.k, .int .u8 b.a.bg.r, .int .u8 b.a.bg.g, .int .u8 b.a.bg.b, .int .u16 (b.a.fl : Nat), .int .u8 b.l] 44) := ⟨_, rfl⟩
  obtain ⟨x, hx⟩ : ∃ y, y = w4.heap.size := ⟨_, rfl⟩
  have bb : Below w4.heap.size w4 w5 := by rw [hw5]; exact (Below.refl _ _).alloc (Nat.le_refl _) _
  have HX := Lib.hid (show BAt w5 x b by rw [hw5]; exact BAt.newAt w4 x hx b _)
  replace HR := Lib.hid (HR.out.below bb)
  replace HB := Lib.hid (HB.out.trans (bb.mono HB.out.size))
  clear bb
  go_upto_region 6 with (fail)
  rw [← hw5, ← hx]
  clear hw5 hx
  have hq := fun w => mBlank_eq w b HBB.out
  obtain ⟨yl, ⟨y0, y1, y2, y3, y4, y5, y6, y7, y8, y9, y10, y11, y12, y13⟩, yr⟩ := HX.out
  clear yl yr
  go_upto_region 8 with (fail)
  clear y0 y1 y2 y3 y4 y5 y6 y7 y8 y9 y10 y11 y12 y13 hq
  refine wp_region_held_drew (S := fun w' => w'.cell? ⟨x, 0, none⟩ = some (.int .i32 b.ru) ∧ w'.cell? ⟨x, 1, none⟩ = some (.int .i32 b.m0) ∧ w'.cell? ⟨x, 2, none⟩ = some (.int .i32 b.m1) ∧ w'.cell? ⟨x, 3, none⟩ = some (.int .u8 b.k) ∧ w'.cell? ⟨x, 4, none⟩ = some (.int .u8 b.a.fg.k) ∧ w'.cell? ⟨x, 5, none⟩ = some (.int .u8 b.a.fg.r) ∧ w'.cell? ⟨x, 6, none⟩ = some (.int .u8 b.a.fg.g) ∧ w'.cell? ⟨x, 7, none⟩ = some (.int .u8 b.a.fg.b) ∧ w'.cell? ⟨x, 8, none⟩ = some (.int .u8 b.a.bg.k) ∧ w'.cell? ⟨x, 9, none⟩ = some (.int .u8 b.a.bg.r) ∧ w'.cell? ⟨x, 10, none⟩ = some (.int .u8 b.a.bg.g) ∧ w'.cell? ⟨x, 11, none⟩ = some (.int .u8 b.a.bg.b) ∧ w'.cell? ⟨x, 12, none⟩ = some (.int .u16 (b.a.fl : Nat)) ∧ w'.cell? ⟨x, 13, none⟩ = some (.int .u8 b.l)) (by kernel_rfl) ?_ (fun hHeld => ?_)
  · exact HX.out.2.1
  obtain ⟨u5, hu5⟩ : ∃ y, y = w5.drew := ⟨_, rfl⟩
  have bb : Below w5.heap.size w5 u5 := by rw [hu5]; exact ⟨rfl, rfl, rfl, Nat.le_refl _, fun _ _ => rfl⟩
  replace HR := Lib.hid (HR.out.below bb)
  replace HX := Lib.hid (HX.out.below bb)
  replace HB := Lib.hid (HB.out.trans (bb.mono HB.out.size))
  replace hHeld := HX.out.2.1
  unfold D14 at hHeld
  rw [← hu5]
  clear hu5 bb
  refine take_at (i := 0) (v := ?_) rfl (by kernel_rfl) (by kernel_rfl) (by kernel_rfl) (fun _ _ _ h => h) (by kernel_rfl) (by assumption) ?_ ?_
  rotate_left
  · (intro w hSw; (try dsimp only at hSw); go_simp; try with_reducible rfl)
  simp only [Act.put, List.setIfInBounds_toArray, List.set_cons_zero, List.set_cons_succ]
  refine take_at (i := 1) (v := ?_) rfl (by kernel_rfl) (by kernel_rfl) (by kernel_rfl) (fun _ _ _ h => h) (by kernel_rfl) (by assumption) ?_ ?_
  rotate_left
  · (intro w hSw; (try dsimp only at hSw); go_simp; try with_reducible rfl)
  simp only [Act.put, List.setIfInBounds_toArray, List.set_cons_zero, List.set_cons_succ]
  refine take_at (i := 2) (v := ?_) rfl (by kernel_rfl) (by kernel_rfl) (by kernel_rfl) (fun _ _ _ h => h) (by kernel_rfl) (by assumption) ?_ ?_
  rotate_left
  · (intro w hSw; (try dsimp only at hSw); go_simp; try with_reducible rfl)
  simp only [Act.put, List.setIfInBounds_toArray, List.set_cons_zero, List.set_cons_succ]
  refine take_at (i := 3) (v := ?_) rfl (by kernel_rfl) (by kernel_rfl) (by kernel_rfl) (fun _ _ _ h => h) (by kernel_rfl) (by assumption) ?_ ?_
  rotate_left
  · (intro w hSw; (try dsimp only at hSw); go_simp; try with_reducible rfl)
  simp only [Act.put, List.setIfInBounds_toArray, List.set_cons_zero, List.set_cons_succ]
  refine take_at (i := 5) (v := ?_) rfl (by kernel_rfl) (by kernel_rfl) (by kernel_rfl) (fun _ _ _ h => h) (by kernel_rfl) (by assumption) ?_ ?_
  rotate_left
  · (intro w hSw; (try dsimp only at hSw); go_simp; try with_reducible rfl)
  simp only [Act.put, List.setIfInBounds_toArray, List.set_cons_zero, List.set_cons_succ]
  refine take_at (i := 6) (v := ?_) rfl (by kernel_rfl) (by kernel_rfl) (by kernel_rfl) (fun _ _ _ h => h) (by kernel_rfl) (by assumption) ?_ ?_
  rotate_left
  · (intro w hSw; (try dsimp only at hSw); go_simp; try with_reducible rfl)
  simp only [Act.put, List.setIfInBounds_toArray, List.set_cons_zero, List.set_cons_succ]
  refine take_at (i := 7) (v := ?_) rfl (by kernel_rfl) (by kernel_rfl) (by kernel_rfl) (fun _ _ _ h => h) (by kernel_rfl) (by assumption) ?_ ?_
  rotate_left
  · (intro w hSw; (try dsimp only at hSw); go_simp; try with_reducible rfl)
  simp only [Act.put, List.setIfInBounds_toArray, List.set_cons_zero, List.set_cons_succ]
  refine do_at (i := 4) rfl (by kernel_rfl) (by kernel_rfl) (fun K hK => ?_)
  clear hHeld
  go_wp2_with fail
  refine (HR.out.ins (p : Nat) (nn : Nat) b HBK.out).mono ?_
  rintro e v1 ⟨i1, rfl, i2, bb⟩
  have HI := Lib.hid i2
  replace HR := Lib.hid (HR.out.below bb)
  replace HX := Lib.hid (HX.out.below bb)
  replace HB := Lib.hid (HB.out.trans (bb.mono HB.out.size))
  clear bb i2
  go_wp2_with fail
  refine hK.out _ _ ?_ (fun hHeld => ?_)
  · exact HX.out.2.1
  clear hK K
  try simp only [Act.put, List.setIfInBounds_toArray, List.set_cons_zero, List.set_cons_succ]
  refine do_at (i := 8) rfl (by kernel_rfl) (by kernel_rfl) (fun K hK => ?_)
  clear hHeld
  go_wp2_with fail
  refine (HI.out.del (p : Nat) (nn : Nat) b HBK.out).mono ?_
  rintro e v2 ⟨bk, rfl, i2, bb⟩
  have HK := Lib.hid i2
  replace HR := Lib.hid (HR.out.below bb)
  replace HX := Lib.hid (HX.out.below bb)
  replace HB := Lib.hid (HB.out.trans (bb.mono HB.out.size))
  clear bb i2 HI
  go_wp2_with fail
  refine hK.out _ _ ?_ (fun hHeld => ?_)
  · exact HX.out.2.1
  clear hK K
  try simp only [Act.put, List.setIfInBounds_toArray, List.set_cons_zero, List.set_cons_succ]
  refine take_at (i := 9) (v := ?_) rfl (by kernel_rfl) (by kernel_rfl) (by kernel_rfl) (fun _ _ _ h => h) (by kernel_rfl) (by assumption) ?_ ?_
  rotate_left
  · (intro w hSw; (try dsimp only at hSw); go_simp; try with_reducible rfl)
  simp only [Act.put, List.setIfInBounds_toArray, List.set_cons_zero, List.set_cons_succ]
  refine wpAnyH_done (by kernel_rfl) ?_ _
  clear hHeld
  obtain ⟨Bk, hBk⟩ : ∃ y, y = deleteM (insertM R (p : Nat) (nn : Nat) b) (p : Nat) (nn : Nat) b := ⟨_, rfl⟩
  rw [← hBk] at HK
  obtain ⟨q, hq⟩ : ∃ y, y = max p (n - nn) := ⟨_, rfl⟩
  have hqn : q ≤ n := by omega
  have HBA := Lib.hid (back_at HRF.out.1 nn HBK.out (show p ≤ R.length by rw [← HN.out]; exact hpn))
  rw [← hBk, ← HN.out, ← hq] at HBA
  have HKL := Lib.hid (show n = Bk.length by rw [hBk, len_delete, len_insert]; exact HN.out)
  obtain ⟨ka, kc, rfl⟩ := HK.out.1.shape
  rw [← HKL.out] at HK ⊢
  have s1 : IntKind.i64.wrap ((n : Int) - (nn : Int)) = (n : Int) - (nn : Int) := by rw [IntKind.wrap_i64]; omega
  have mx : max (p : Int) ((n : Int) - (nn : Int)) = (q : Int) := by omega
  clear hBk hq
  obtain ⟨v3, hv3⟩ : ∃ y, y = v2.alloc (.cells #[.int .i64 (p : Nat), .int .i64 (q : Nat)] 3) := ⟨_, rfl⟩
  obtain ⟨s, hs⟩ : ∃ y, y = v2.heap.size := ⟨_, rfl⟩
  have HPS := Lib.hid (psTwo v2 v3 s hs p q (by omega) (by omega) hv3)
  have bb : Below v2.heap.size v2 v3 := by rw [hv3]; exact (Below.refl _ _).alloc (Nat.le_refl _) _
  replace HR := Lib.hid (HR.out.below bb)
  replace HX := Lib.hid (HX.out.below bb)
  replace HK := Lib.hid (HK.out.below bb)
  replace HB := Lib.hid (HB.out.trans (bb.mono HB.out.size))
  clear bb
  go_wp2_with fail
  rw [← hv3, ← hs]
  clear hv3 hs
  refine (HR.out.brk HPS.out (breaks_two R (by rw [← HN.out]; exact hpn) (by rw [← HN.out]; exact hqn))).mono ?_
  rintro e v4 ⟨wh, rfl, i2, bb⟩
  have HW := Lib.hid i2
  replace HR := Lib.hid (HR.out.below bb)
  replace HX := Lib.hid (HX.out.below bb)
  replace HK := Lib.hid (HK.out.below bb)
  replace HB := Lib.hid (HB.out.trans (bb.mono HB.out.size))
  obtain ⟨Wr, hWr⟩ : ∃ y, y = brk (brk R p) q := ⟨_, rfl⟩
  rw [← hWr] at HW HBA
  have HWL := Lib.hid (show n = Wr.length by rw [hWr, len_brk, len_brk]; exact HN.out)
  obtain ⟨wa, wcp, rfl⟩ := HW.out.1.shape
  rw [← HWL.out] at HW ⊢
  clear bb i2 HPS hWr
  go_wp2
  go_loopg [12] q (fun G i wr => ∃ k : Nat, i = .int .i64 k ∧ k ≤ q ∧ q - k ≤ G ∧ Hid (Below v4.heap.size v4 wr))
  case atStart => exact ⟨0, rfl, Nat.zero_le _, Nat.sub_le _ _, Lib.hid (Below.refl _ _)⟩
  case round =>
    obtain ⟨k, rfl, hkq, hgk, HV⟩ := hrel
    by_cases hlt : k < q
    · have hkn : k < n := by omega
      obtain ⟨g, o, cp, e, _, hg, hC⟩ := (HK.out.1.below HV.out).open (by rw [← HKL.out]; omega)
      injection e with e1 e2 e3
      subst e1 e3
      clear e2
      obtain ⟨h, o2, cq, e, _, hh, hD⟩ := (HW.out.1.below HV.out).open (by rw [← HWL.out]; omega)
      injection e with e1 e2 e3
      subst e1 e3
      clear e2
      obtain ⟨c, hc⟩ : ∃ c, c = gc Bk k := ⟨_, rfl⟩
      have hat := hC k (by rw [← HKL.out]; exact hkn)
      have hbt := hD k (by rw [← HWL.out]; exact hkn)
      rw [← HBA.out.1 k hlt, ← hc] at hbt
      rw [← hc] at hat
      have HAT := Lib.hid hat
      have HBT := Lib.hid hbt
      have HG := Lib.hid hg
      have HH := Lib.hid hh
      have d1 : ¬ (n : Int) ≤ (k : Int) := by omega
      have d2 : decide ((n : Int) ≤ (k : Int)) = false := decide_eq_false d1
      have d3 : ¬ n ≤ k := by omega
      have hq := fun w => eqCel w c c
      rw [show decide (c = c) = true from decide_eq_true rfl] at hq
      have HS := Lib.hid (show ∀ V, Below wr.heap.size wr V → (fun w' => w'.cell? ⟨g, o + k * 14, none⟩ = some (.int .i32 c.ru) ∧ w'.cell? ⟨g, o + k * 14 + 1, none⟩ = some (.int .i32 c.m0) ∧ w'.cell? ⟨g, o + k * 14 + 2, none⟩ = some (.int .i32 c.m1) ∧ w'.cell? ⟨g, o + k * 14 + 3, none⟩ = some (.int .u8 c.k) ∧ w'.cell? ⟨g, o + k * 14 + 4, none⟩ = some (.int .u8 c.a.fg.k) ∧ w'.cell? ⟨g, o + k * 14 + 5, none⟩ = some (.int .u8 c.a.fg.r) ∧ w'.cell? ⟨g, o + k * 14 + 6, none⟩ = some (.int .u8 c.a.fg.g) ∧ w'.cell? ⟨g, o + k * 14 + 7, none⟩ = some (.int .u8 c.a.fg.b) ∧ w'.cell? ⟨g, o + k * 14 + 8, none⟩ = some (.int .u8 c.a.bg.k) ∧ w'.cell? ⟨g, o + k * 14 + 9, none⟩ = some (.int .u8 c.a.bg.r) ∧ w'.cell? ⟨g, o + k * 14 + 10, none⟩ = some (.int .u8 c.a.bg.g) ∧ w'.cell? ⟨g, o + k * 14 + 11, none⟩ = some (.int .u8 c.a.bg.b) ∧ w'.cell? ⟨g, o + k * 14 + 12, none⟩ = some (.int .u16 (c.a.fl : Nat)) ∧ w'.cell? ⟨g, o + k * 14 + 13, none⟩ = some (.int .u8 c.l) ∧ w'.cell? ⟨h, o2 + k * 14, none⟩ = some (.int .i32 c.ru) ∧ w'.cell? ⟨h, o2 + k * 14 + 1, none⟩ = some (.int .i32 c.m0) ∧ w'.cell? ⟨h, o2 + k * 14 + 2, none⟩ = some (.int .i32 c.m1) ∧ w'.cell? ⟨h, o2 + k * 14 + 3, none⟩ = some (.int .u8 c.k) ∧ w'.cell? ⟨h, o2 + k * 14 + 4, none⟩ = some (.int .u8 c.a.fg.k) ∧ w'.cell? ⟨h, o2 + k * 14 + 5, none⟩ = some (.int .u8 c.a.fg.r) ∧ w'.cell? ⟨h, o2 + k * 14 + 6, none⟩ = some (.int .u8 c.a.fg.g) ∧ w'.cell? ⟨h, o2 + k * 14 + 7, none⟩ = some (.int .u8 c.a.fg.b) ∧ w'.cell? ⟨h, o2 + k * 14 + 8, none⟩ = some (.int .u8 c.a.bg.k) ∧ w'.cell? ⟨h, o2 + k * 14 + 9, none⟩ = some (.int .u8 c.a.bg.r) ∧ w'.cell? ⟨h, o2 + k * 14 + 10, none⟩ = some (.int .u8 c.a.bg.g) ∧ w'.cell? ⟨h, o2 + k * 14 + 11, none⟩ = some (.int .u8 c.a.bg.b) ∧ w'.cell? ⟨h, o2 + k * 14 + 12, none⟩ = some (.int .u16 (c.a.fl : Nat)) ∧ w'.cell? ⟨h, o2 + k * 14 + 13, none⟩ = some (.int .u8 c.l)) V from fun V hv => by
        have h1 := HAT.out.same (hv.block g HG.out)
        obtain ⟨a0, a1, a2, a3, a4, a5, a6, a7, a8, a9, a10, a11, a12, a13⟩ := h1
        exact ⟨a0, a1, a2, a3, a4, a5, a6, a7, a8, a9, a10, a11, a12, a13, HBT.out.same (hv.block h HH.out)⟩)
      dsimp only at HS
      clear hC hD hat hbt hg hh hc
      go_upto_region 13 with (fail)
      refine wp_region_held_drew (S := fun w' => w'.cell? ⟨g, o + k * 14, none⟩ = some (.int .i32 c.ru) ∧ w'.cell? ⟨g, o + k * 14 + 1, none⟩ = some (.int .i32 c.m0) ∧ w'.cell? ⟨g, o + k * 14 + 2, none⟩ = some (.int .i32 c.m1) ∧ w'.cell? ⟨g, o + k * 14 + 3, none⟩ = some (.int .u8 c.k) ∧ w'.cell? ⟨g, o + k * 14 + 4, none⟩ = some (.int .u8 c.a.fg.k) ∧ w'.cell? ⟨g, o + k * 14 + 5, none⟩ = some (.int .u8 c.a.fg.r) ∧ w'.cell? ⟨g, o + k * 14 + 6, none⟩ = some (.int .u8 c.a.fg.g) ∧ w'.cell? ⟨g, o + k * 14 + 7, none⟩ = some (.int .u8 c.a.fg.b) ∧ w'.cell? ⟨g, o + k * 14 + 8, none⟩ = some (.int .u8 c.a.bg.k) ∧ w'.cell? ⟨g, o + k * 14 + 9, none⟩ = some (.int .u8 c.a.bg.r) ∧ w'.cell? ⟨g, o + k * 14 + 10, none⟩ = some (.int .u8 c.a.bg.g) ∧ w'.cell? ⟨g, o + k * 14 + 11, none⟩ = some (.int .u8 c.a.bg.b) ∧ w'.cell? ⟨g, o + k * 14 + 12, none⟩ = some (.int .u16 (c.a.fl : Nat)) ∧ w'.cell? ⟨g, o + k * 14 + 13, none⟩ = some (.int .u8 c.l) ∧ w'.cell? ⟨h, o2 + k * 14, none⟩ = some (.int .i32 c.ru) ∧ w'.cell? ⟨h, o2 + k * 14 + 1, none⟩ = some (.int .i32 c.m0) ∧ w'.cell? ⟨h, o2 + k * 14 + 2, none⟩ = some (.int .i32 c.m1) ∧ w'.cell? ⟨h, o2 + k * 14 + 3, none⟩ = some (.int .u8 c.k) ∧ w'.cell? ⟨h, o2 + k * 14 + 4, none⟩ = some (.int .u8 c.a.fg.k) ∧ w'.cell? ⟨h, o2 + k * 14 + 5, none⟩ = some (.int .u8 c.a.fg.r) ∧ w'.cell? ⟨h, o2 + k * 14 + 6, none⟩ = some (.int .u8 c.a.fg.g) ∧ w'.cell? ⟨h, o2 + k * 14 + 7, none⟩ = some (.int .u8 c.a.fg.b) ∧ w'.cell? ⟨h, o2 + k * 14 + 8, none⟩ = some (.int .u8 c.a.bg.k) ∧ w'.cell? ⟨h, o2 + k * 14 + 9, none⟩ = some (.int .u8 c.a.bg.r) ∧ w'.cell? ⟨h, o2 + k * 14 + 10, none⟩ = some (.int .u8 c.a.bg.g) ∧ w'.cell? ⟨h, o2 + k * 14 + 11, none⟩ = some (.int .u8 c.a.bg.b) ∧ w'.cell? ⟨h, o2 + k * 14 + 12, none⟩ = some (.int .u16 (c.a.fl : Nat)) ∧ w'.cell? ⟨h, o2 + k * 14 + 13, none⟩ = some (.int .u8 c.l)) (by kernel_rfl) ?_ (fun hHeld => ?_)
      · exact HS.out _ ⟨rfl, rfl, rfl, Nat.le_refl _, fun _ _ => rfl⟩
      obtain ⟨u0, hu0⟩ : ∃ y, y = wr.drew := ⟨_, rfl⟩
      have bd : Below wr.heap.size wr u0 := by rw [hu0]; exact ⟨rfl, rfl, rfl, Nat.le_refl _, fun _ _ => rfl⟩
      have HV2 := Lib.hid (HV.out.trans (bd.mono HV.out.size))
      replace hHeld := HS.out _ bd
      rw [← hu0]
      clear hu0 bd HV
      refine take_at (i := 0) (v := ?_) rfl (by kernel_rfl) (by kernel_rfl) (by kernel_rfl) (fun _ _ _ h => h) (by kernel_rfl) (by assumption) ?_ ?_
      rotate_left
      · (intro w hSw; (try dsimp only at hSw); go_simp; try with_reducible rfl)
      simp only [Act.put, List.setIfInBounds_toArray, List.set_cons_zero, List.set_cons_succ]
      refine take_at (i := 1) (v := ?_) rfl (by kernel_rfl) (by kernel_rfl) (by kernel_rfl) (fun _ _ _ h => h) (by kernel_rfl) (by assumption) ?_ ?_
      rotate_left
      · (intro w hSw; (try dsimp only at hSw); go_simp; try with_reducible rfl)
      simp only [Act.put, List.setIfInBounds_toArray, List.set_cons_zero, List.set_cons_succ]
      refine take_at (i := 2) (v := ?_) rfl (by kernel_rfl) (by kernel_rfl) (by kernel_rfl) (fun _ _ _ h => h) (by kernel_rfl) (by assumption) ?_ ?_
      rotate_left
      · (intro w hSw; (try dsimp only at hSw); go_simp; try with_reducible rfl)
      simp only [Act.put, List.setIfInBounds_toArray, List.set_cons_zero, List.set_cons_succ]
      refine take_at (i := 3) (v := ?_) rfl (by kernel_rfl) (by kernel_rfl) (by kernel_rfl) (fun _ _ _ h => h) (by kernel_rfl) (by assumption) ?_ ?_
      rotate_left
      · (intro w hSw; (try dsimp only at hSw); go_simp; try with_reducible rfl)
      simp only [Act.put, List.setIfInBounds_toArray, List.set_cons_zero, List.set_cons_succ]
      refine take_at (i := 4) (v := ?_) rfl (by kernel_rfl) (by kernel_rfl) (by kernel_rfl) (fun _ _ _ h => h) (by kernel_rfl) (by assumption) ?_ ?_
      rotate_left
      · (intro w hSw; (try dsimp only at hSw); go_simp; try with_reducible rfl)
      simp only [Act.put, List.setIfInBounds_toArray, List.set_cons_zero, List.set_cons_succ]
      refine take_at (i := 5) (v := ?_) rfl (by kernel_rfl) (by kernel_rfl) (by kernel_rfl) (fun _ _ _ h => h) (by kernel_rfl) (by assumption) ?_ ?_
      rotate_left
      · (intro w hSw; (try dsimp only at hSw); go_simp; try with_reducible rfl)
      simp only [Act.put, List.setIfInBounds_toArray, List.set_cons_zero, List.set_cons_succ]
      refine take_at (i := 6) (v := ?_) rfl (by kernel_rfl) (by kernel_rfl) (by kernel_rfl) (fun _ _ _ h => h) (by kernel_rfl) (by assumption) ?_ ?_
      rotate_left
      · (intro w hSw; (try dsimp only at hSw); go_simp; try with_reducible rfl)
      simp only [Act.put, List.setIfInBounds_toArray, List.set_cons_zero, List.set_cons_succ]
      refine take_at (i := 7) (v := ?_) rfl (by kernel_rfl) (by kernel_rfl) (by kernel_rfl) (fun _ _ _ h => h) (by kernel_rfl) (by assumption) ?_ ?_
      rotate_left
      · (intro w hSw; (try dsimp only at hSw); go_simp; try with_reducible rfl)
      simp only [Act.put, List.setIfInBounds_toArray, List.set_cons_zero, List.set_cons_succ]
      refine take_at (i := 8) (v := ?_) rfl (by kernel_rfl) (by kernel_rfl) (by kernel_rfl) (fun _ _ _ h => h) (by kernel_rfl) (by assumption) ?_ ?_
      rotate_left
      · (intro w hSw; (try dsimp only at hSw); go_simp; try with_reducible rfl)
      simp only [Act.put, List.setIfInBounds_toArray, List.set_cons_zero, List.set_cons_succ]
      refine take_at (i := 9) (v := ?_) rfl (by kernel_rfl) (by kernel_rfl) (by kernel_rfl) (fun _ _ _ h => h) (by kernel_rfl) (by assumption) ?_ ?_
      rotate_left
      · (intro w hSw; (try dsimp only at hSw); go_simp; try with_reducible rfl)
      simp only [Act.put, List.setIfInBounds_toArray, List.set_cons_zero, List.set_cons_succ]
      refine take_at (i := 10) (v := ?_) rfl (by kernel_rfl) (by kernel_rfl) (by kernel_rfl) (fun _ _ _ h => h) (by kernel_rfl) (by assumption) ?_ ?_
      rotate_left
      · (intro w hSw; (try dsimp only at hSw); go_simp; try with_reducible rfl)
      simp only [Act.put, List.setIfInBounds_toArray, List.set_cons_zero, List.set_cons_succ]
      refine take_at (i := 11) (v := ?_) rfl (by kernel_rfl) (by kernel_rfl) (by kernel_rfl) (fun _ _ _ h => h) (by kernel_rfl) (by assumption) ?_ ?_
      rotate_left
      · (intro w hSw; (try dsimp only at hSw); go_simp; try with_reducible rfl)
      simp only [Act.put, List.setIfInBounds_toArray, List.set_cons_zero, List.set_cons_succ]
      refine take_at (i := 12) (v := ?_) rfl (by kernel_rfl) (by kernel_rfl) (by kernel_rfl) (fun _ _ _ h => h) (by kernel_rfl) (by assumption) ?_ ?_
      rotate_left
      · (intro w hSw; (try dsimp only at hSw); go_simp; try with_reducible rfl)
      simp only [Act.put, List.setIfInBounds_toArray, List.set_cons_zero, List.set_cons_succ]
      refine take_at (i := 13) (v := ?_) rfl (by kernel_rfl) (by kernel_rfl) (by kernel_rfl) (fun _ _ _ h => h) (by kernel_rfl) (by assumption) ?_ ?_
      rotate_left
      · (intro w hSw; (try dsimp only at hSw); go_simp; try with_reducible rfl)
      simp only [Act.put, List.setIfInBounds_toArray, List.set_cons_zero, List.set_cons_succ]
      refine take_at (i := 14) (v := ?_) rfl (by kernel_rfl) (by kernel_rfl) (by kernel_rfl) (fun _ _ _ h => h) (by kernel_rfl) (by assumption) ?_ ?_
      rotate_left
      · (intro w hSw; (try dsimp only at hSw); go_simp; try with_reducible rfl)
      simp only [Act.put, List.setIfInBounds_toArray, List.set_cons_zero, List.set_cons_succ]
      refine wpAnyH_done (by kernel_rfl) ?_ _
      clear hHeld HS hq HAT
      go_wp2
      go_roundg (q - (k + 1))
      case rel => exact ⟨k + 1, by go_num, by omega, Nat.le_refl _, HV2⟩
      case measure => omega
    · have hkq2 : ¬ (k : Int) < (q : Int) := by omega
      obtain ⟨vq, hvq⟩ : ∃ y : World, y = wr := ⟨_, rfl⟩
      rw [← hvq] at HV ⊢
      have bb := HV.out
      replace HR := Lib.hid (HR.out.below bb)
      replace HX := Lib.hid (HX.out.below bb)
      replace HK := Lib.hid (HK.out.below bb)
      replace HB := Lib.hid (HB.out.trans (bb.mono HB.out.size))
      clear bb HV HW HWL hvq
      go_wp2
      go_loopg [13] n (fun G i wr => ∃ k : Nat, i = .int .i64 k ∧ q ≤ k ∧ k ≤ n ∧ n - k ≤ G ∧ Hid (Below vq.heap.size vq wr))
      case atStart => exact ⟨q, rfl, Nat.le_refl _, hqn, Nat.sub_le _ _, Lib.hid (Below.refl _ _)⟩
      case round =>
        obtain ⟨j, rfl, hqj, hjn, hgj, HV⟩ := hrel
        by_cases hlt2 : j < n
        · obtain ⟨g, o, cp, e, _, hg, hC⟩ := (HK.out.1.below HV.out).open (by rw [← HKL.out]; omega)
          injection e with e1 e2 e3
          subst e1 e3
          clear e2
          have hat := hC j (by rw [← HKL.out]; exact hlt2)
          rw [HBA.out.2 j hqj hlt2] at hat
          have HAT := Lib.hid hat
          have HG := Lib.hid hg
          have hq := fun w => eqCel w b b
          rw [show decide (b = b) = true from decide_eq_true rfl] at hq
          have HS := Lib.hid (show ∀ V, Below wr.heap.size wr V → (fun w' => w'.cell? ⟨g, o + j * 14, none⟩ = some (.int .i32 b.ru) ∧ w'.cell? ⟨g, o + j * 14 + 1, none⟩ = some (.int .i32 b.m0) ∧ w'.cell? ⟨g, o + j * 14 + 2, none⟩ = some (.int .i32 b.m1) ∧ w'.cell? ⟨g, o + j * 14 + 3, none⟩ = some (.int .u8 b.k) ∧ w'.cell? ⟨g, o + j * 14 + 4, none⟩ = some (.int .u8 b.a.fg.k) ∧ w'.cell? ⟨g, o + j * 14 + 5, none⟩ = some (.int .u8 b.a.fg.r) ∧ w'.cell? ⟨g, o + j * 14 + 6, none⟩ = some (.int .u8 b.a.fg.g) ∧ w'.cell? ⟨g, o + j * 14 + 7, none⟩ = some (.int .u8 b.a.fg.b) ∧ w'.cell? ⟨g, o + j * 14 + 8, none⟩ = some (.int .u8 b.a.bg.k) ∧ w'.cell? ⟨g, o + j * 14 + 9, none⟩ = some (.int .u8 b.a.bg.r) ∧ w'.cell? ⟨g, o + j * 14 + 10, none⟩ = some (.int .u8 b.a.bg.g) ∧ w'.cell? ⟨g, o + j * 14 + 11, none⟩ = some (.int .u8 b.a.bg.b) ∧ w'.cell? ⟨g, o + j * 14 + 12, none⟩ = some (.int .u16 (b.a.fl : Nat)) ∧ w'.cell? ⟨g, o + j * 14 + 13, none⟩ = some (.int .u8 b.l) ∧ w'.cell? ⟨x, 0, none⟩ = some (.int .i32 b.ru) ∧ w'.cell? ⟨x, 1, none⟩ = some (.int .i32 b.m0) ∧ w'.cell? ⟨x, 2, none⟩ = some (.int .i32 b.m1) ∧ w'.cell? ⟨x, 3, none⟩ = some (.int .u8 b.k) ∧ w'.cell? ⟨x, 4, none⟩ = some (.int .u8 b.a.fg.k) ∧ w'.cell? ⟨x, 5, none⟩ = some (.int .u8 b.a.fg.r) ∧ w'.cell? ⟨x, 6, none⟩ = some (.int .u8 b.a.fg.g) ∧ w'.cell? ⟨x, 7, none⟩ = some (.int .u8 b.a.fg.b) ∧ w'.cell? ⟨x, 8, none⟩ = some (.int .u8 b.a.bg.k) ∧ w'.cell? ⟨x, 9, none⟩ = some (.int .u8 b.a.bg.r) ∧ w'.cell? ⟨x, 10, none⟩ = some (.int .u8 b.a.bg.g) ∧ w'.cell? ⟨x, 11, none⟩ = some (.int .u8 b.a.bg.b) ∧ w'.cell? ⟨x, 12, none⟩ = some (.int .u16 (b.a.fl : Nat)) ∧ w'.cell? ⟨x, 13, none⟩ = some (.int .u8 b.l)) V from fun V hv => by
            have h1 := HAT.out.same (hv.block g HG.out)
            obtain ⟨a0, a1, a2, a3, a4, a5, a6, a7, a8, a9, a10, a11, a12, a13⟩ := h1
            exact ⟨a0, a1, a2, a3, a4, a5, a6, a7, a8, a9, a10, a11, a12, a13, ((HX.out.below HV.out).below hv).2.1⟩)
          dsimp only at HS
          clear hC hat hg
          go_upto_region 18 with (fail)
          refine wp_region_held_drew (S := fun w' => w'.cell? ⟨g, o + j * 14, none⟩ = some (.int .i32 b.ru) ∧ w'.cell? ⟨g, o + j * 14 + 1, none⟩ = some (.int .i32 b.m0) ∧ w'.cell? ⟨g, o + j * 14 + 2, none⟩ = some (.int .i32 b.m1) ∧ w'.cell? ⟨g, o + j * 14 + 3, none⟩ = some (.int .u8 b.k) ∧ w'.cell? ⟨g, o + j * 14 + 4, none⟩ = some (.int .u8 b.a.fg.k) ∧ w'.cell? ⟨g, o + j * 14 + 5, none⟩ = some (.int .u8 b.a.fg.r) ∧ w'.cell? ⟨g, o + j * 14 + 6, none⟩ = some (.int .u8 b.a.fg.g) ∧ w'.cell? ⟨g, o + j * 14 + 7, none⟩ = some (.int .u8 b.a.fg.b) ∧ w'.cell? ⟨g, o + j * 14 + 8, none⟩ = some (.int .u8 b.a.bg.k) ∧ w'.cell? ⟨g, o + j * 14 + 9, none⟩ = some (.int .u8 b.a.bg.r) ∧ w'.cell? ⟨g, o + j * 14 + 10, none⟩ = some (.int .u8 b.a.bg.g) ∧ w'.cell? ⟨g, o + j * 14 + 11, none⟩ = some (.int .u8 b.a.bg.b) ∧ w'.cell? ⟨g, o + j * 14 + 12, none⟩ = some (.int .u16 (b.a.fl : Nat)) ∧ w'.cell? ⟨g, o + j * 14 + 13, none⟩ = some (.int .u8 b.l) ∧ w'.cell? ⟨x, 0, none⟩ = some (.int .i32 b.ru) ∧ w'.cell? ⟨x, 1, none⟩ = some (.int .i32 b.m0) ∧ w'.cell? ⟨x, 2, none⟩ = some (.int .i32 b.m1) ∧ w'.cell? ⟨x, 3, none⟩ = some (.int .u8 b.k) ∧ w'.cell? ⟨x, 4, none⟩ = some (.int .u8 b.a.fg.k) ∧ w'.cell? ⟨x, 5, none⟩ = some (.int .u8 b.a.fg.r) ∧ w'.cell? ⟨x, 6, none⟩ = some (.int .u8 b.a.fg.g) ∧ w'.cell? ⟨x, 7, none⟩ = some (.int .u8 b.a.fg.b) ∧ w'.cell? ⟨x, 8, none⟩ = some (.int .u8 b.a.bg.k) ∧ w'.cell? ⟨x, 9, none⟩ = some (.int .u8 b.a.bg.r) ∧ w'.cell? ⟨x, 10, none⟩ = some (.int .u8 b.a.bg.g) ∧ w'.cell? ⟨x, 11, none⟩ = some (.int .u8 b.a.bg.b) ∧ w'.cell? ⟨x, 12, none⟩ = some (.int .u16 (b.a.fl : Nat)) ∧ w'.cell? ⟨x, 13, none⟩ = some (.int .u8 b.l)) (by kernel_rfl) ?_ (fun hHeld => ?_)
          · exact HS.out _ ⟨rfl, rfl, rfl, Nat.le_refl _, fun _ _ => rfl⟩
          obtain ⟨u0, hu0⟩ : ∃ y, y = wr.drew := ⟨_, rfl⟩
          have bd : Below wr.heap.size wr u0 := by rw [hu0]; exact ⟨rfl, rfl, rfl, Nat.le_refl _, fun _ _ => rfl⟩
          have HV2 := Lib.hid (HV.out.trans (bd.mono HV.out.size))
          replace hHeld := HS.out _ bd
          rw [← hu0]
          clear hu0 bd HV
          refine take_at (i := 0) (v := ?_) rfl (by kernel_rfl) (by kernel_rfl) (by kernel_rfl) (fun _ _ _ h => h) (by kernel_rfl) (by assumption) ?_ ?_
          rotate_left
          · (intro w hSw; (try dsimp only at hSw); go_simp; try with_reducible rfl)
          simp only [Act.put, List.setIfInBounds_toArray, List.set_cons_zero, List.set_cons_succ]
          refine take_at (i := 1) (v := ?_) rfl (by kernel_rfl) (by kernel_rfl) (by kernel_rfl) (fun _ _ _ h => h) (by kernel_rfl) (by assumption) ?_ ?_
          rotate_left
          · (intro w hSw; (try dsimp only at hSw); go_simp; try with_reducible rfl)
          simp only [Act.put, List.setIfInBounds_toArray, List.set_cons_zero, List.set_cons_succ]
          refine take_at (i := 2) (v := ?_) rfl (by kernel_rfl) (by kernel_rfl) (by kernel_rfl) (fun _ _ _ h => h) (by kernel_rfl) (by assumption) ?_ ?_
          rotate_left
          · (intro w hSw; (try dsimp only at hSw); go_simp; try with_reducible rfl)
          simp only [Act.put, List.setIfInBounds_toArray, List.set_cons_zero, List.set_cons_succ]
          refine take_at (i := 3) (v := ?_) rfl (by kernel_rfl) (by kernel_rfl) (by kernel_rfl) (fun _ _ _ h => h) (by kernel_rfl) (by assumption) ?_ ?_
          rotate_left
          · (intro w hSw; (try dsimp only at hSw); go_simp; try with_reducible rfl)
          simp only [Act.put, List.setIfInBounds_toArray, List.set_cons_zero, List.set_cons_succ]
          refine take_at (i := 4) (v := ?_) rfl (by kernel_rfl) (by kernel_rfl) (by kernel_rfl) (fun _ _ _ h => h) (by kernel_rfl) (by assumption) ?_ ?_
          rotate_left
          · (intro w hSw; (try dsimp only at hSw); go_simp; try with_reducible rfl)
          simp only [Act.put, List.setIfInBounds_toArray, List.set_cons_zero, List.set_cons_succ]
          refine take_at (i := 5) (v := ?_) rfl (by kernel_rfl) (by kernel_rfl) (by kernel_rfl) (fun _ _ _ h => h) (by kernel_rfl) (by assumption) ?_ ?_
          rotate_left
          · (intro w hSw; (try dsimp only at hSw); go_simp; try with_reducible rfl)
          simp only [Act.put, List.setIfInBounds_toArray, List.set_cons_zero, List.set_cons_succ]
          refine wpAnyH_done (by kernel_rfl) ?_ _
          clear hHeld HS hq HAT
          go_wp2
          go_roundg (n - (j + 1))
          case rel => exact ⟨j + 1, by go_num, by omega, by omega, Nat.le_refl _, HV2⟩
          case measure => omega
        · have hjn2 : ¬ (j : Int) < (n : Int) := by omega
          obtain ⟨vr, hvr⟩ : ∃ y : World, y = wr := ⟨_, rfl⟩
          rw [← hvr] at HV ⊢
          have bb := HV.out
          replace HR := Lib.hid (HR.out.below bb)
          replace HX := Lib.hid (HX.out.below bb)
          replace HB := Lib.hid (HB.out.trans (bb.mono HB.out.size))
          clear bb HV HK HKL HBA hvr mx s1
          obtain ⟨e1, he1⟩ : ∃ y, y = p + nn := ⟨_, rfl⟩
          obtain ⟨e2, he2⟩ : ∃ y, y = e1 + mm := ⟨_, rfl⟩
          obtain ⟨e3, he3⟩ : ∃ y, y = nn + mm := ⟨_, rfl⟩
          have s2 : IntKind.i64.wrap ((p : Int) + (nn : Int)) = (e1 : Int) := by rw [IntKind.wrap_i64]; omega
          have s3 : IntKind.i64.wrap ((e1 : Int) + (mm : Int)) = (e2 : Int) := by rw [IntKind.wrap_i64]; omega
          have s4 : IntKind.i64.wrap ((nn : Int) + (mm : Int)) = (e3 : Int) := by rw [IntKind.wrap_i64]; omega
          have HE := Lib.hid (show e1 = p + nn ∧ e2 = e1 + mm ∧ e3 = nn + mm from ⟨he1, he2, he3⟩)
          have he1b : e1 < 10000 := by omega
          clear he1 he2 he3
          go_upto_region 20 with (fail)
          go_cut [146] (fun v wc => v = .bool false ∧ Hid (Below vr.heap.size vr wc))
          case first => as_aux_lemma =>
            by_cases hfit : e2 ≤ n
            · have f1 : (e2 : Int) ≤ (n : Int) := by omega
              have f1d : decide ((e2 : Int) ≤ (n : Int)) = true := decide_eq_true f1
              have f1n : decide (e2 ≤ n) = true := decide_eq_true hfit
              have HBR := Lib.hid (show [((e1 : Nat) : Int)].foldl breakM R = brk R e1 by
                show breakM R (e1 : Int) = _
                unfold breakM
                rw [inN_nat (by rw [← HN.out]; have := HE.out; omega)])
              have HDT := Lib.hid (show decide (deleteM (deleteM (brk R e1) (p : Nat) (nn : Nat) b) (p : Nat) (mm : Nat) b = deleteM (brk R e1) (p : Nat) (e3 : Nat) b) = true by
                refine decide_eq_true ?_
                rw [HE.out.1, HE.out.2.2]
                have := del_two (R := R) HRF.out.1 (p := p) (n := nn) (m := mm) HBK.out (by rw [← HN.out]; have := HE.out; omega)
                rw [this]
                congr 1)
              refine wp_region_held_drew (S := fun w' => w'.cell? ⟨x, 0, none⟩ = some (.int .i32 b.ru) ∧ w'.cell? ⟨x, 1, none⟩ = some (.int .i32 b.m0) ∧ w'.cell? ⟨x, 2, none⟩ = some (.int .i32 b.m1) ∧ w'.cell? ⟨x, 3, none⟩ = some (.int .u8 b.k) ∧ w'.cell? ⟨x, 4, none⟩ = some (.int .u8 b.a.fg.k) ∧ w'.cell? ⟨x, 5, none⟩ = some (.int .u8 b.a.fg.r) ∧ w'.cell? ⟨x, 6, none⟩ = some (.int .u8 b.a.fg.g) ∧ w'.cell? ⟨x, 7, none⟩ = some (.int .u8 b.a.fg.b) ∧ w'.cell? ⟨x, 8, none⟩ = some (.int .u8 b.a.bg.k) ∧ w'.cell? ⟨x, 9, none⟩ = some (.int .u8 b.a.bg.r) ∧ w'.cell? ⟨x, 10, none⟩ = some (.int .u8 b.a.bg.g) ∧ w'.cell? ⟨x, 11, none⟩ = some (.int .u8 b.a.bg.b) ∧ w'.cell? ⟨x, 12, none⟩ = some (.int .u16 (b.a.fl : Nat)) ∧ w'.cell? ⟨x, 13, none⟩ = some (.int .u8 b.l)) (by kernel_rfl) ?_ (fun hHeld => ?_)
              · exact HX.out.2.1
              obtain ⟨u0, hu0⟩ : ∃ y, y = vr.drew := ⟨_, rfl⟩
              have bb : Below vr.heap.size vr u0 := by rw [hu0]; exact ⟨rfl, rfl, rfl, Nat.le_refl _, fun _ _ => rfl⟩
              have HUU := Lib.hid bb
              replace HR := Lib.hid (HR.out.below bb)
              replace HX := Lib.hid (HX.out.below bb)
              replace hHeld := HX.out.2.1
              unfold D14 at hHeld
              rw [← hu0]
              clear hu0 bb
              refine take_at (i := 0) (v := ?_) rfl (by kernel_rfl) (by kernel_rfl) (by kernel_rfl) (fun _ _ _ h => h) (by kernel_rfl) (by assumption) ?_ ?_
              rotate_left
              · (intro w hSw; (try dsimp only at hSw); go_simp; try with_reducible rfl)
              simp only [Act.put, List.setIfInBounds_toArray, List.set_cons_zero, List.set_cons_succ]
              refine take_at (i := 1) (v := ?_) rfl (by kernel_rfl) (by kernel_rfl) (by kernel_rfl) (fun _ _ _ h => h) (by kernel_rfl) (by assumption) ?_ ?_
              rotate_left
              · (intro w hSw; (try dsimp only at hSw); go_simp; try with_reducible rfl)
              simp only [Act.put, List.setIfInBounds_toArray, List.set_cons_zero, List.set_cons_succ]
              refine take_at (i := 2) (v := ?_) rfl (by kernel_rfl) (by kernel_rfl) (by kernel_rfl) (fun _ _ _ h => h) (by kernel_rfl) (by assumption) ?_ ?_
              rotate_left
              · (intro w hSw; (try dsimp only at hSw); go_simp; try with_reducible rfl)
              simp only [Act.put, List.setIfInBounds_toArray, List.set_cons_zero, List.set_cons_succ]
              refine take_at (i := 3) (v := ?_) rfl (by kernel_rfl) (by kernel_rfl) (by kernel_rfl) (fun _ _ _ h => h) (by kernel_rfl) (by assumption) ?_ ?_
              rotate_left
              · (intro w hSw; (try dsimp only at hSw); go_simp; try with_reducible rfl)
              simp only [Act.put, List.setIfInBounds_toArray, List.set_cons_zero, List.set_cons_succ]
              refine take_at (i := 4) (v := ?_) rfl (by kernel_rfl) (by kernel_rfl) (by kernel_rfl) (fun _ _ _ h => h) (by kernel_rfl) (by assumption) ?_ ?_
              rotate_left
              · (intro w hSw; (try dsimp only at hSw); go_simp; try with_reducible rfl)
              simp only [Act.put, List.setIfInBounds_toArray, List.set_cons_zero, List.set_cons_succ]
              refine take_at (i := 5) (v := ?_) rfl (by kernel_rfl) (by kernel_rfl) (by kernel_rfl) (fun _ _ _ h => h) (by kernel_rfl) (by assumption) ?_ ?_
              rotate_left
              · (intro w hSw; (try dsimp only at hSw); go_simp; try with_reducible rfl)
              simp only [Act.put, List.setIfInBounds_toArray, List.set_cons_zero, List.set_cons_succ]
              refine take_at (i := 6) (v := ?_) rfl (by kernel_rfl) (by kernel_rfl) (by kernel_rfl) (fun _ _ _ h => h) (by kernel_rfl) (by assumption) ?_ ?_
              rotate_left
              · (intro w hSw; (try dsimp only at hSw); go_simp; try with_reducible rfl)
              simp only [Act.put, List.setIfInBounds_toArray, List.set_cons_zero, List.set_cons_succ]
              refine take_at (i := 7) (v := ?_) rfl (by kernel_rfl) (by kernel_rfl) (by kernel_rfl) (fun _ _ _ h => h) (by kernel_rfl) (by assumption) ?_ ?_
              rotate_left
              · (intro w hSw; (try dsimp only at hSw); go_simp; try with_reducible rfl)
              simp only [Act.put, List.setIfInBounds_toArray, List.set_cons_zero, List.set_cons_succ]
              refine take_at (i := 8) (v := ?_) rfl (by kernel_rfl) (by kernel_rfl) (by kernel_rfl) (fun _ _ _ h => h) (by kernel_rfl) (by assumption) ?_ ?_
              rotate_left
              · (intro w hSw; (try dsimp only at hSw); go_simp; try with_reducible rfl)
              simp only [Act.put, List.setIfInBounds_toArray, List.set_cons_zero, List.set_cons_succ]
              refine take_at (i := 9) (v := ?_) rfl (by kernel_rfl) (by kernel_rfl) (by kernel_rfl) (fun _ _ _ h => h) (by kernel_rfl) (by assumption) ?_ ?_
              rotate_left
              · (intro w hSw; (try dsimp only at hSw); go_simp; try with_reducible rfl)
              simp only [Act.put, List.setIfInBounds_toArray, List.set_cons_zero, List.set_cons_succ]
              refine take_at (i := 10) (v := ?_) rfl (by kernel_rfl) (by kernel_rfl) (by kernel_rfl) (fun _ _ _ h => h) (by kernel_rfl) (by assumption) ?_ ?_
              rotate_left
              · (intro w hSw; (try dsimp only at hSw); go_simp; try with_reducible rfl)
              simp only [Act.put, List.setIfInBounds_toArray, List.set_cons_zero, List.set_cons_succ]
              refine take_at (i := 11) (v := ?_) rfl (by kernel_rfl) (by kernel_rfl) (by kernel_rfl) (fun _ _ _ h => h) (by kernel_rfl) (by assumption) ?_ ?_
              rotate_left
              · (intro w hSw; (try dsimp only at hSw); go_simp; try with_reducible rfl)
              simp only [Act.put, List.setIfInBounds_toArray, List.set_cons_zero, List.set_cons_succ]
              refine take_at (i := 12) (v := ?_) rfl (by kernel_rfl) (by kernel_rfl) (by kernel_rfl) (fun _ _ _ h => h) (by kernel_rfl) (by assumption) ?_ ?_
              rotate_left
              · (intro w hSw; (try dsimp only at hSw); go_simp; try with_reducible rfl)
              simp only [Act.put, List.setIfInBounds_toArray, List.set_cons_zero, List.set_cons_succ]
              refine take_at (i := 15) (v := ?_) rfl (by kernel_rfl) (by kernel_rfl) (by kernel_rfl) (fun _ _ _ h => h) (by kernel_rfl) (by assumption) ?_ ?_
              rotate_left
              · (intro w hSw; (try dsimp only at hSw); go_simp; try with_reducible rfl)
              simp only [Act.put, List.setIfInBounds_toArray, List.set_cons_zero, List.set_cons_succ]
              refine take_at (i := 16) (v := ?_) rfl (by kernel_rfl) (by kernel_rfl) (by kernel_rfl) (fun _ _ _ h => h) (by kernel_rfl) (by assumption) ?_ ?_
              rotate_left
              · (intro w hSw; (try dsimp only at hSw); go_simp; try with_reducible rfl)
              simp only [Act.put, List.setIfInBounds_toArray, List.set_cons_zero, List.set_cons_succ]
              refine take_at (i := 17) (v := ?_) rfl (by kernel_rfl) (by kernel_rfl) (by kernel_rfl) (fun _ _ _ h => h) (by kernel_rfl) (by assumption) ?_ ?_
              rotate_left
              · (intro w hSw; (try dsimp only at hSw); go_simp; try with_reducible rfl)
              simp only [Act.put, List.setIfInBounds_toArray, List.set_cons_zero, List.set_cons_succ]
              refine take_at (i := 19) (v := ?_) rfl (by kernel_rfl) (by kernel_rfl) (by kernel_rfl) (fun _ _ _ h => h) (by kernel_rfl) (by assumption) ?_ ?_
              rotate_left
              · (intro w hSw; (try dsimp only at hSw); go_simp; try with_reducible rfl)
              simp only [Act.put, List.setIfInBounds_toArray, List.set_cons_zero, List.set_cons_succ]
              refine take_at (i := 20) (v := ?_) rfl (by kernel_rfl) (by kernel_rfl) (by kernel_rfl) (fun _ _ _ h => h) (by kernel_rfl) (by assumption) ?_ ?_
              rotate_left
              · (intro w hSw; (try dsimp only at hSw); go_simp; try with_reducible rfl)
              simp only [Act.put, List.setIfInBounds_toArray, List.set_cons_zero, List.set_cons_succ]
              refine take_at (i := 21) (v := ?_) rfl (by kernel_rfl) (by kernel_rfl) (by kernel_rfl) (fun _ _ _ h => h) (by kernel_rfl) (by assumption) ?_ ?_
              rotate_left
              · (intro w hSw; (try dsimp only at hSw); go_simp; try with_reducible rfl)
              simp only [Act.put, List.setIfInBounds_toArray, List.set_cons_zero, List.set_cons_succ]
              refine take_at (i := 23) (v := ?_) rfl (by kernel_rfl) (by kernel_rfl) (by kernel_rfl) (fun _ _ _ h => h) (by kernel_rfl) (by assumption) ?_ ?_
              rotate_left
              · (intro w hSw; (try dsimp only at hSw); go_simp; try with_reducible rfl)
              simp only [Act.put, List.setIfInBounds_toArray, List.set_cons_zero, List.set_cons_succ]
              refine take_at (i := 24) (v := ?_) rfl (by kernel_rfl) (by kernel_rfl) (by kernel_rfl) (fun _ _ _ h => h) (by kernel_rfl) (by assumption) ?_ ?_
              rotate_left
              · (intro w hSw; (try dsimp only at hSw); go_simp; try with_reducible rfl)
              simp only [Act.put, List.setIfInBounds_toArray, List.set_cons_zero, List.set_cons_succ]
              refine take_at (i := 25) (v := ?_) rfl (by kernel_rfl) (by kernel_rfl) (by kernel_rfl) (fun _ _ _ h => h) (by kernel_rfl) (by assumption) ?_ ?_
              rotate_left
              · (intro w hSw; (try dsimp only at hSw); go_simp; try with_reducible rfl)
              simp only [Act.put, List.setIfInBounds_toArray, List.set_cons_zero, List.set_cons_succ]
              refine take_at (i := 26) (v := ?_) rfl (by kernel_rfl) (by kernel_rfl) (by kernel_rfl) (fun _ _ _ h => h) (by kernel_rfl) (by assumption) ?_ ?_
              rotate_left
              · (intro w hSw; (try dsimp only at hSw); go_simp; try with_reducible rfl)
              simp only [Act.put, List.setIfInBounds_toArray, List.set_cons_zero, List.set_cons_succ]
              refine take_at (i := 29) (v := ?_) rfl (by kernel_rfl) (by kernel_rfl) (by kernel_rfl) (fun _ _ _ h => h) (by kernel_rfl) (by assumption) ?_ ?_
              rotate_left
              · (intro w hSw; (try dsimp only at hSw); go_simp; try with_reducible rfl)
              simp only [Act.put, List.setIfInBounds_toArray, List.set_cons_zero, List.set_cons_succ]
              refine take_at (i := 30) (v := ?_) rfl (by kernel_rfl) (by kernel_rfl) (by kernel_rfl) (fun _ _ _ h => h) (by kernel_rfl) (by assumption) ?_ ?_
              rotate_left
              · (intro w hSw; (try dsimp only at hSw); go_simp; try with_reducible rfl)
              simp only [Act.put, List.setIfInBounds_toArray, List.set_cons_zero, List.set_cons_succ]
              refine take_at (i := 31) (v := ?_) rfl (by kernel_rfl) (by kernel_rfl) (by kernel_rfl) (fun _ _ _ h => h) (by kernel_rfl) (by assumption) ?_ ?_
              rotate_left
              · (intro w hSw; (try dsimp only at hSw); go_simp; try with_reducible rfl)
              simp only [Act.put, List.setIfInBounds_toArray, List.set_cons_zero, List.set_cons_succ]
              refine take_at (i := 32) (v := ?_) rfl (by kernel_rfl) (by kernel_rfl) (by kernel_rfl) (fun _ _ _ h => h) (by kernel_rfl) (by assumption) ?_ ?_
              rotate_left
              · (intro w hSw; (try dsimp only at hSw); go_simp; try with_reducible rfl)
              simp only [Act.put, List.setIfInBounds_toArray, List.set_cons_zero, List.set_cons_succ]
              refine take_at (i := 33) (v := ?_) rfl (by kernel_rfl) (by kernel_rfl) (by kernel_rfl) (fun _ _ _ h => h) (by kernel_rfl) (by assumption) ?_ ?_
              rotate_left
              · (intro w hSw; (try dsimp only at hSw); go_simp; try with_reducible rfl)
              simp only [Act.put, List.setIfInBounds_toArray, List.set_cons_zero, List.set_cons_succ]
              refine two_at (i := 13) (j := 27) rfl rfl (by kernel_rfl) (by kernel_rfl) (by kernel_rfl) (fun K hK => ?_) (fun K hK => ?_)
              · clear hHeld
                obtain ⟨v20, hv20⟩ : ∃ y, y = u0.alloc (.cells #[.int .i64 (e1 : Nat)] 3) := ⟨_, rfl⟩
                obtain ⟨s1, hs1⟩ : ∃ y, y = u0.heap.size := ⟨_, rfl⟩
                have bb : Below u0.heap.size u0 v20 := by rw [hv20]; exact (Below.refl _ _).alloc (Nat.le_refl _) _
                replace HR := Lib.hid (HR.out.below bb)
                replace HX := Lib.hid (HX.out.below bb)
                replace HUU := Lib.hid (HUU.out.trans (bb.mono HUU.out.size))
                have HP1 := Lib.hid (psOne u0 v20 s1 hs1 e1 he1b hv20)
                clear bb
                go_wp2_with fail
                rw [← hv20, ← hs1]
                clear hv20 hs1
                refine hK.out _ _ ?_ (fun hHeld => ?_)
                · exact HX.out.2.1
                clear hK K
                try simp only [Act.put, List.setIfInBounds_toArray, List.set_cons_zero, List.set_cons_succ]
                refine two_at (i := 14) (j := 27) rfl rfl (by kernel_rfl) (by kernel_rfl) (by kernel_rfl) (fun K hK => ?_) (fun K hK => ?_)
                · clear hHeld
                  go_wp2_with fail
                  refine (HR.out.brk HP1.out HBR.out).mono ?_
                  rintro e v21 ⟨c1, rfl, i2, bb⟩
                  replace HR := Lib.hid (HR.out.below bb)
                  replace HX := Lib.hid (HX.out.below bb)
                  replace HUU := Lib.hid (HUU.out.trans (bb.mono HUU.out.size))
                  have HC1 := Lib.hid i2
                  clear bb i2 HP1
                  go_wp2_with fail
                  refine hK.out _ _ ?_ (fun hHeld => ?_)
                  · exact HX.out.2.1
                  clear hK K
                  try simp only [Act.put, List.setIfInBounds_toArray, List.set_cons_zero, List.set_cons_succ]
                  refine two_at (i := 18) (j := 27) rfl rfl (by kernel_rfl) (by kernel_rfl) (by kernel_rfl) (fun K hK => ?_) (fun K hK => ?_)
                  · clear hHeld
                    go_wp2_with fail
                    refine (HC1.out.del (p : Nat) (nn : Nat) b HBK.out).mono ?_
                    rintro e v22 ⟨c2, rfl, i2, bb⟩
                    replace HR := Lib.hid (HR.out.below bb)
                    replace HX := Lib.hid (HX.out.below bb)
                    replace HUU := Lib.hid (HUU.out.trans (bb.mono HUU.out.size))
                    have HC2 := Lib.hid i2
                    clear bb i2 HC1
                    go_wp2_with fail
                    refine hK.out _ _ ?_ (fun hHeld => ?_)
                    · exact HX.out.2.1
                    clear hK K
                    try simp only [Act.put, List.setIfInBounds_toArray, List.set_cons_zero, List.set_cons_succ]
                    refine two_at (i := 22) (j := 27) rfl rfl (by kernel_rfl) (by kernel_rfl) (by kernel_rfl) (fun K hK => ?_) (fun K hK => ?_)
                    · clear hHeld
                      go_wp2_with fail
                      refine (HC2.out.del (p : Nat) (mm : Nat) b HBK.out).mono ?_
                      rintro e v23 ⟨c3, rfl, i2, bb⟩
                      replace HR := Lib.hid (HR.out.below bb)
                      replace HX := Lib.hid (HX.out.below bb)
                      replace HUU := Lib.hid (HUU.out.trans (bb.mono HUU.out.size))
                      have HC3 := Lib.hid i2
                      clear bb i2 HC2
                      go_wp2_with fail
                      refine hK.out _ _ ?_ (fun hHeld => ?_)
                      · exact HX.out.2.1
                      clear hK K
                      try simp only [Act.put, List.setIfInBounds_toArray, List.set_cons_zero, List.set_cons_succ]
                      refine do_at (i := 27) rfl (by kernel_rfl) (by kernel_rfl) (fun K hK => ?_)
                      clear hHeld
                      obtain ⟨v24, hv24⟩ : ∃ y, y = v23.alloc (.cells #[.int .i64 (e1 : Nat)] 3) := ⟨_, rfl⟩
                      obtain ⟨s2, hs2⟩ : ∃ y, y = v23.heap.size := ⟨_, rfl⟩
                      have bb : Below v23.heap.size v23 v24 := by rw [hv24]; exact (Below.refl _ _).alloc (Nat.le_refl _) _
                      replace HR := Lib.hid (HR.out.below bb)
                      replace HX := Lib.hid (HX.out.below bb)
                      replace HC3 := Lib.hid (HC3.out.below bb)
                      replace HUU := Lib.hid (HUU.out.trans (bb.mono HUU.out.size))
                      have HP2 := Lib.hid (psOne v23 v24 s2 hs2 e1 he1b hv24)
                      clear bb
                      go_wp2_with fail
                      rw [← hv24, ← hs2]
                      clear hv24 hs2
                      refine hK.out _ _ ?_ (fun hHeld => ?_)
                      · exact HX.out.2.1
                      clear hK K
                      try simp only [Act.put, List.setIfInBounds_toArray, List.set_cons_zero, List.set_cons_succ]
                      refine do_at (i := 28) rfl (by kernel_rfl) (by kernel_rfl) (fun K hK => ?_)
                      clear hHeld
                      go_wp2_with fail
                      refine (HR.out.brk HP2.out HBR.out).mono ?_
                      rintro e v25 ⟨c4, rfl, i2, bb⟩
                      replace HR := Lib.hid (HR.out.below bb)
                      replace HX := Lib.hid (HX.out.below bb)
                      replace HC3 := Lib.hid (HC3.out.below bb)
                      replace HUU := Lib.hid (HUU.out.trans (bb.mono HUU.out.size))
                      have HC4 := Lib.hid i2
                      clear bb i2 HP2
                      go_wp2_with fail
                      refine hK.out _ _ ?_ (fun hHeld => ?_)
                      · exact HX.out.2.1
                      clear hK K
                      try simp only [Act.put, List.setIfInBounds_toArray, List.set_cons_zero, List.set_cons_succ]
                      refine do_at (i := 34) rfl (by kernel_rfl) (by kernel_rfl) (fun K hK => ?_)
                      clear hHeld
                      go_wp2_with fail
                      refine (HC4.out.del (p : Nat) (e3 : Nat) b HBK.out).mono ?_
                      rintro e v26 ⟨c5, rfl, i2, bb⟩
                      replace HR := Lib.hid (HR.out.below bb)
                      replace HX := Lib.hid (HX.out.below bb)
                      replace HC3 := Lib.hid (HC3.out.below bb)
                      replace HUU := Lib.hid (HUU.out.trans (bb.mono HUU.out.size))
                      have HC5 := Lib.hid i2
                      clear bb i2 HC4
                      go_wp2_with fail
                      refine hK.out _ _ ?_ (fun hHeld => ?_)
                      · exact HX.out.2.1
                      clear hK K
                      try simp only [Act.put, List.setIfInBounds_toArray, List.set_cons_zero, List.set_cons_succ]
                      refine do_at (i := 35) rfl (by kernel_rfl) (by kernel_rfl) (fun K hK => ?_)
                      clear hHeld
                      go_wp2_with fail
                      refine (rsame_any v26 _ _ _ _ HC3.out.1 HC5.out.1 (by have := HC3.out.2.2; omega)).mono ?_
                      rintro e v27 ⟨rfl, bb⟩
                      rw [HDT.out]
                      replace HX := Lib.hid (HX.out.below bb)
                      replace HUU := Lib.hid (HUU.out.trans (bb.mono HUU.out.size))
                      clear bb HC3 HC5
                      go_wp2_with fail
                      refine hK.out _ _ ?_ (fun hHeld => ?_)
                      · exact HX.out.2.1
                      clear hK K
                      try simp only [Act.put, List.setIfInBounds_toArray, List.set_cons_zero, List.set_cons_succ]
                      refine take_at (i := 36) (v := ?_) rfl (by kernel_rfl) (by kernel_rfl) (by kernel_rfl) (fun _ _ _ h => h) (by kernel_rfl) (by assumption) ?_ ?_
                      rotate_left
                      · (intro w hSw; (try dsimp only at hSw); go_simp; try with_reducible rfl)
                      simp only [Act.put, List.setIfInBounds_toArray, List.set_cons_zero, List.set_cons_succ]
                      refine take_at (i := 37) (v := ?_) rfl (by kernel_rfl) (by kernel_rfl) (by kernel_rfl) (fun _ _ _ h => h) (by kernel_rfl) (by assumption) ?_ ?_
                      rotate_left
                      · (intro w hSw; (try dsimp only at hSw); go_simp; try with_reducible rfl)
                      simp only [Act.put, List.setIfInBounds_toArray, List.set_cons_zero, List.set_cons_succ]
                      refine wpAnyH_done (by kernel_rfl) ?_ _
                      clear hHeld
                      go_wp2
                      go_meet
                      case rel => exact ⟨rfl, HUU⟩
                    · clear hHeld
                      obtain ⟨v23, hv23⟩ : ∃ y, y = v22.alloc (.cells #[.int .i64 (e1 : Nat)] 3) := ⟨_, rfl⟩
                      obtain ⟨s2, hs2⟩ : ∃ y, y = v22.heap.size := ⟨_, rfl⟩
                      have bb : Below v22.heap.size v22 v23 := by rw [hv23]; exact (Below.refl _ _).alloc (Nat.le_refl _) _
                      replace HR := Lib.hid (HR.out.below bb)
                      replace HX := Lib.hid (HX.out.below bb)
                      replace HC2 := Lib.hid (HC2.out.below bb)
                      replace HUU := Lib.hid (HUU.out.trans (bb.mono HUU.out.size))
                      have HP2 := Lib.hid (psOne v22 v23 s2 hs2 e1 he1b hv23)
                      clear bb
                      go_wp2_with fail
                      rw [← hv23, ← hs2]
                      clear hv23 hs2
                      refine hK.out _ _ ?_ (fun hHeld => ?_)
                      · exact HX.out.2.1
                      clear hK K
                      try simp only [Act.put, List.setIfInBounds_toArray, List.set_cons_zero, List.set_cons_succ]
                      refine do_at (i := 22) rfl (by kernel_rfl) (by kernel_rfl) (fun K hK => ?_)
                      clear hHeld
                      go_wp2_with fail
                      refine (HC2.out.del (p : Nat) (mm : Nat) b HBK.out).mono ?_
                      rintro e v24 ⟨c3, rfl, i2, bb⟩
                      replace HR := Lib.hid (HR.out.below bb)
                      replace HX := Lib.hid (HX.out.below bb)
                      replace HP2 := Lib.hid (HP2.out.below bb)
                      replace HUU := Lib.hid (HUU.out.trans (bb.mono HUU.out.size))
                      have HC3 := Lib.hid i2
                      clear bb i2 HC2
                      go_wp2_with fail
                      refine hK.out _ _ ?_ (fun hHeld => ?_)
                      · exact HX.out.2.1
                      clear hK K
                      try simp only [Act.put, List.setIfInBounds_toArray, List.set_cons_zero, List.set_cons_succ]
                      refine do_at (i := 28) rfl (by kernel_rfl) (by kernel_rfl) (fun K hK => ?_)
                      clear hHeld
                      go_wp2_with fail
                      refine (HR.out.brk HP2.out HBR.out).mono ?_
                      rintro e v25 ⟨c4, rfl, i2, bb⟩
                      replace HR := Lib.hid (HR.out.below bb)
                      replace HX := Lib.hid (HX.out.below bb)
                      replace HC3 := Lib.hid (HC3.out.below bb)
                      replace HUU := Lib.hid (HUU.out.trans (bb.mono HUU.out.size))
                      have HC4 := Lib.hid i2
                      clear bb i2 HP2
                      go_wp2_with fail
                      refine hK.out _ _ ?_ (fun hHeld => ?_)
                      · exact HX.out.2.1
                      clear hK K
                      try simp only [Act.put, List.setIfInBounds_toArray, List.set_cons_zero, List.set_cons_succ]
                      refine do_at (i := 34) rfl (by kernel_rfl) (by kernel_rfl) (fun K hK => ?_)
                      clear hHeld
                      go_wp2_with fail
                      refine (HC4.out.del (p : Nat) (e3 : Nat) b HBK.out).mono ?_
                      rintro e v26 ⟨c5, rfl, i2, bb⟩
                      replace HR := Lib.hid (HR.out.below bb)
                      replace HX := Lib.hid (HX.out.below bb)
                      replace HC3 := Lib.hid (HC3.out.below bb)
                      replace HUU := Lib.hid (HUU.out.trans (bb.mono HUU.out.size))
                      have HC5 := Lib.hid i2
                      clear bb i2 HC4
                      go_wp2_with fail
                      refine hK.out _ _ ?_ (fun hHeld => ?_)
                      · exact HX.out.2.1
                      clear hK K
                      try simp only [Act.put, List.setIfInBounds_toArray, List.set_cons_zero, List.set_cons_succ]
                      refine do_at (i := 35) rfl (by kernel_rfl) (by kernel_rfl) (fun K hK => ?_)
                      clear hHeld
                      go_wp2_with fail
                      refine (rsame_any v26 _ _ _ _ HC3.out.1 HC5.out.1 (by have := HC3.out.2.2; omega)).mono ?_
                      rintro e v27 ⟨rfl, bb⟩
                      rw [HDT.out]
                      replace HX := Lib.hid (HX.out.below bb)
                      replace HUU := Lib.hid (HUU.out.trans (bb.mono HUU.out.size))
                      clear bb HC3 HC5
                      go_wp2_with fail
                      refine hK.out _ _ ?_ (fun hHeld => ?_)
                      · exact HX.out.2.1
                      clear hK K
                      try simp only [Act.put, List.setIfInBounds_toArray, List.set_cons_zero, List.set_cons_succ]
                      refine take_at (i := 36) (v := ?_) rfl (by kernel_rfl) (by kernel_rfl) (by kernel_rfl) (fun _ _ _ h => h) (by kernel_rfl) (by assumption) ?_ ?_
                      rotate_left
                      · (intro w hSw; (try dsimp only at hSw); go_simp; try with_reducible rfl)
                      simp only [Act.put, List.setIfInBounds_toArray, List.set_cons_zero, List.set_cons_succ]
                      refine take_at (i := 37) (v := ?_) rfl (by kernel_rfl) (by kernel_rfl) (by kernel_rfl) (fun _ _ _ h => h) (by kernel_rfl) (by assumption) ?_ ?_
                      rotate_left
                      · (intro w hSw; (try dsimp only at hSw); go_simp; try with_reducible rfl)
                      simp only [Act.put, List.setIfInBounds_toArray, List.set_cons_zero, List.set_cons_succ]
                      refine wpAnyH_done (by kernel_rfl) ?_ _
                      clear hHeld
                      go_wp2
                      go_meet
                      case rel => exact ⟨rfl, HUU⟩
                  · clear hHeld
                    obtain ⟨v22, hv22⟩ : ∃ y, y = v21.alloc (.cells #[.int .i64 (e1 : Nat)] 3) := ⟨_, rfl⟩
                    obtain ⟨s2, hs2⟩ : ∃ y, y = v21.heap.size := ⟨_, rfl⟩
                    have bb : Below v21.heap.size v21 v22 := by rw [hv22]; exact (Below.refl _ _).alloc (Nat.le_refl _) _
                    replace HR := Lib.hid (HR.out.below bb)
                    replace HX := Lib.hid (HX.out.below bb)
                    replace HC1 := Lib.hid (HC1.out.below bb)
                    replace HUU := Lib.hid (HUU.out.trans (bb.mono HUU.out.size))
                    have HP2 := Lib.hid (psOne v21 v22 s2 hs2 e1 he1b hv22)
                    clear bb
                    go_wp2_with fail
                    rw [← hv22, ← hs2]
                    clear hv22 hs2
                    refine hK.out _ _ ?_ (fun hHeld => ?_)
                    · exact HX.out.2.1
                    clear hK K
                    try simp only [Act.put, List.setIfInBounds_toArray, List.set_cons_zero, List.set_cons_succ]
                    refine do_at (i := 18) rfl (by kernel_rfl) (by kernel_rfl) (fun K hK => ?_)
                    clear hHeld
                    go_wp2_with fail
                    refine (HC1.out.del (p : Nat) (nn : Nat) b HBK.out).mono ?_
                    rintro e v23 ⟨c2, rfl, i2, bb⟩
                    replace HR := Lib.hid (HR.out.below bb)
                    replace HX := Lib.hid (HX.out.below bb)
                    replace HP2 := Lib.hid (HP2.out.below bb)
                    replace HUU := Lib.hid (HUU.out.trans (bb.mono HUU.out.size))
                    have HC2 := Lib.hid i2
                    clear bb i2 HC1
                    go_wp2_with fail
                    refine hK.out _ _ ?_ (fun hHeld => ?_)
                    · exact HX.out.2.1
                    clear hK K
                    try simp only [Act.put, List.setIfInBounds_toArray, List.set_cons_zero, List.set_cons_succ]
                    refine do_at (i := 22) rfl (by kernel_rfl) (by kernel_rfl) (fun K hK => ?_)
                    clear hHeld
                    go_wp2_with fail
                    refine (HC2.out.del (p : Nat) (mm : Nat) b HBK.out).mono ?_
                    rintro e v24 ⟨c3, rfl, i2, bb⟩
                    replace HR := Lib.hid (HR.out.below bb)
                    replace HX := Lib.hid (HX.out.below bb)
                    replace HP2 := Lib.hid (HP2.out.below bb)
                    replace HUU := Lib.hid (HUU.out.trans (bb.mono HUU.out.size))
                    have HC3 := Lib.hid i2
                    clear bb i2 HC2
                    go_wp2_with fail
                    refine hK.out _ _ ?_ (fun hHeld => ?_)
                    · exact HX.out.2.1
                    clear hK K
                    try simp only [Act.put, List.setIfInBounds_toArray, List.set_cons_zero, List.set_cons_succ]
                    refine do_at (i := 28) rfl (by kernel_rfl) (by kernel_rfl) (fun K hK => ?_)
                    clear hHeld
                    go_wp2_with fail
                    refine (HR.out.brk HP2.out HBR.out).mono ?_
                    rintro e v25 ⟨c4, rfl, i2, bb⟩
                    replace HR := Lib.hid (HR.out.below bb)
                    replace HX := Lib.hid (HX.out.below bb)
                    replace HC3 := Lib.hid (HC3.out.below bb)
                    replace HUU := Lib.hid (HUU.out.trans (bb.mono HUU.out.size))
                    have HC4 := Lib.hid i2
                    clear bb i2 HP2
                    go_wp2_with fail
                    refine hK.out _ _ ?_ (fun hHeld => ?_)
                    · exact HX.out.2.1
                    clear hK K
                    try simp only [Act.put, List.setIfInBounds_toArray, List.set_cons_zero, List.set_cons_succ]
                    refine do_at (i := 34) rfl (by kernel_rfl) (by kernel_rfl) (fun K hK => ?_)
                    clear hHeld
                    go_wp2_with fail
                    refine (HC4.out.del (p : Nat) (e3 : Nat) b HBK.out).mono ?_
                    rintro e v26 ⟨c5, rfl, i2, bb⟩
                    replace HR := Lib.hid (HR.out.below bb)
                    replace HX := Lib.hid (HX.out.below bb)
                    replace HC3 := Lib.hid (HC3.out.below bb)
                    replace HUU := Lib.hid (HUU.out.trans (bb.mono HUU.out.size))
                    have HC5 := Lib.hid i2
                    clear bb i2 HC4
                    go_wp2_with fail
                    refine hK.out _ _ ?_ (fun hHeld => ?_)
                    · exact HX.out.2.1
                    clear hK K
                    try simp only [Act.put, List.setIfInBounds_toArray, List.set_cons_zero, List.set_cons_succ]
                    refine do_at (i := 35) rfl (by kernel_rfl) (by kernel_rfl) (fun K hK => ?_)
                    clear hHeld
                    go_wp2_with fail
                    refine (rsame_any v26 _ _ _ _ HC3.out.1 HC5.out.1 (by have := HC3.out.2.2; omega)).mono ?_
                    rintro e v27 ⟨rfl, bb⟩
                    rw [HDT.out]
                    replace HX := Lib.hid (HX.out.below bb)
                    replace HUU := Lib.hid (HUU.out.trans (bb.mono HUU.out.size))
                    clear bb HC3 HC5
                    go_wp2_with fail
                    refine hK.out _ _ ?_ (fun hHeld => ?_)
                    · exact HX.out.2.1
                    clear hK K
                    try simp only [Act.put, List.setIfInBounds_toArray, List.set_cons_zero, List.set_cons_succ]
                    refine take_at (i := 36) (v := ?_) rfl (by kernel_rfl) (by kernel_rfl) (by kernel_rfl) (fun _ _ _ h => h) (by kernel_rfl) (by assumption) ?_ ?_
                    rotate_left
                    · (intro w hSw; (try dsimp only at hSw); go_simp; try with_reducible rfl)
                    simp only [Act.put, List.setIfInBounds_toArray, List.set_cons_zero, List.set_cons_succ]
                    refine take_at (i := 37) (v := ?_) rfl (by kernel_rfl) (by kernel_rfl) (by kernel_rfl) (fun _ _ _ h => h) (by kernel_rfl) (by assumption) ?_ ?_
                    rotate_left
                    · (intro w hSw; (try dsimp only at hSw); go_simp; try with_reducible rfl)
                    simp only [Act.put, List.setIfInBounds_toArray, List.set_cons_zero, List.set_cons_succ]
                    refine wpAnyH_done (by kernel_rfl) ?_ _
                    clear hHeld
                    go_wp2
                    go_meet
                    case rel => exact ⟨rfl, HUU⟩
                · clear hHeld
                  obtain ⟨v21, hv21⟩ : ∃ y, y = v20.alloc (.cells #[.int .i64 (e1 : Nat)] 3) := ⟨_, rfl⟩
                  obtain ⟨s2, hs2⟩ : ∃ y, y = v20.heap.size := ⟨_, rfl⟩
                  have bb : Below v20.heap.size v20 v21 := by rw [hv21]; exact (Below.refl _ _).alloc (Nat.le_refl _) _
                  replace HR := Lib.hid (HR.out.below bb)
                  replace HX := Lib.hid (HX.out.below bb)
                  replace HP1 := Lib.hid (HP1.out.below bb)
                  replace HUU := Lib.hid (HUU.out.trans (bb.mono HUU.out.size))
                  have HP2 := Lib.hid (psOne v20 v21 s2 hs2 e1 he1b hv21)
                  clear bb
                  go_wp2_with fail
                  rw [← hv21, ← hs2]
                  clear hv21 hs2
                  refine hK.out _ _ ?_ (fun hHeld => ?_)
                  · exact HX.out.2.1
                  clear hK K
                  try simp only [Act.put, List.setIfInBounds_toArray, List.set_cons_zero, List.set_cons_succ]
                  refine do_at (i := 14) rfl (by kernel_rfl) (by kernel_rfl) (fun K hK => ?_)
                  clear hHeld
                  go_wp2_with fail
                  refine (HR.out.brk HP1.out HBR.out).mono ?_
                  rintro e v22 ⟨c1, rfl, i2, bb⟩
                  replace HR := Lib.hid (HR.out.below bb)
                  replace HX := Lib.hid (HX.out.below bb)
                  replace HP2 := Lib.hid (HP2.out.below bb)
                  replace HUU := Lib.hid (HUU.out.trans (bb.mono HUU.out.size))
                  have HC1 := Lib.hid i2
                  clear bb i2 HP1
                  go_wp2_with fail
                  refine hK.out _ _ ?_ (fun hHeld => ?_)
                  · exact HX.out.2.1
                  clear hK K
                  try simp only [Act.put, List.setIfInBounds_toArray, List.set_cons_zero, List.set_cons_succ]
                  refine do_at (i := 18) rfl (by kernel_rfl) (by kernel_rfl) (fun K hK => ?_)
                  clear hHeld
                  go_wp2_with fail
                  refine (HC1.out.del (p : Nat) (nn : Nat) b HBK.out).mono ?_
                  rintro e v23 ⟨c2, rfl, i2, bb⟩
                  replace HR := Lib.hid (HR.out.below bb)
                  replace HX := Lib.hid (HX.out.below bb)
                  replace HP2 := Lib.hid (HP2.out.below bb)
                  replace HUU := Lib.hid (HUU.out.trans (bb.mono HUU.out.size))
                  have HC2 := Lib.hid i2
                  clear bb i2 HC1
                  go_wp2_with fail
                  refine hK.out _ _ ?_ (fun hHeld => ?_)
                  · exact HX.out.2.1
                  clear hK K
                  try simp only [Act.put, List.setIfInBounds_toArray, List.set_cons_zero, List.set_cons_succ]
                  refine do_at (i := 22) rfl (by kernel_rfl) (by kernel_rfl) (fun K hK => ?_)
                  clear hHeld
                  go_wp2_with fail
                  refine (HC2.out.del (p : Nat) (mm : Nat) b HBK.out).mono ?_
                  rintro e v24 ⟨c3, rfl, i2, bb⟩
                  replace HR := Lib.hid (HR.out.below bb)
                  replace HX := Lib.hid (HX.out.below bb)
                  replace HP2 := Lib.hid (HP2.out.below bb)
                  replace HUU := Lib.hid (HUU.out.trans (bb.mono HUU.out.size))
                  have HC3 := Lib.hid i2
                  clear bb i2 HC2
                  go_wp2_with fail
                  refine hK.out _ _ ?_ (fun hHeld => ?_)
                  · exact HX.out.2.1
                  clear hK K
                  try simp only [Act.put, List.setIfInBounds_toArray, List.set_cons_zero, List.set_cons_succ]
                  refine do_at (i := 28) rfl (by kernel_rfl) (by kernel_rfl) (fun K hK => ?_)
                  clear hHeld
                  go_wp2_with fail
                  refine (HR.out.brk HP2.out HBR.out).mono ?_
                  rintro e v25 ⟨c4, rfl, i2, bb⟩
                  replace HR := Lib.hid (HR.out.below bb)
                  replace HX := Lib.hid (HX.out.below bb)
                  replace HC3 := Lib.hid (HC3.out.below bb)
                  replace HUU := Lib.hid (HUU.out.trans (bb.mono HUU.out.size))
                  have HC4 := Lib.hid i2
                  clear bb i2 HP2
                  go_wp2_with fail
                  refine hK.out _ _ ?_ (fun hHeld => ?_)
                  · exact HX.out.2.1
                  clear hK K
                  try simp only [Act.put, List.setIfInBounds_toArray, List.set_cons_zero, List.set_cons_succ]
                  refine do_at (i := 34) rfl (by kernel_rfl) (by kernel_rfl) (fun K hK => ?_)
                  clear hHeld
                  go_wp2_with fail
                  refine (HC4.out.del (p : Nat) (e3 : Nat) b HBK.out).mono ?_
                  rintro e v26 ⟨c5, rfl, i2, bb⟩
                  replace HR := Lib.hid (HR.out.below bb)
                  replace HX := Lib.hid (HX.out.below bb)
                  replace HC3 := Lib.hid (HC3.out.below bb)
                  replace HUU := Lib.hid (HUU.out.trans (bb.mono HUU.out.size))
                  have HC5 := Lib.hid i2
                  clear bb i2 HC4
                  go_wp2_with fail
                  refine hK.out _ _ ?_ (fun hHeld => ?_)
                  · exact HX.out.2.1
                  clear hK K
                  try simp only [Act.put, List.setIfInBounds_toArray, List.set_cons_zero, List.set_cons_succ]
                  refine do_at (i := 35) rfl (by kernel_rfl) (by kernel_rfl) (fun K hK => ?_)
                  clear hHeld
                  go_wp2_with fail
                  refine (rsame_any v26 _ _ _ _ HC3.out.1 HC5.out.1 (by have := HC3.out.2.2; omega)).mono ?_
                  rintro e v27 ⟨rfl, bb⟩
                  rw [HDT.out]
                  replace HX := Lib.hid (HX.out.below bb)
                  replace HUU := Lib.hid (HUU.out.trans (bb.mono HUU.out.size))
                  clear bb HC3 HC5
                  go_wp2_with fail
                  refine hK.out _ _ ?_ (fun hHeld => ?_)
                  · exact HX.out.2.1
                  clear hK K
                  try simp only [Act.put, List.setIfInBounds_toArray, List.set_cons_zero, List.set_cons_succ]
                  refine take_at (i := 36) (v := ?_) rfl (by kernel_rfl) (by kernel_rfl) (by kernel_rfl) (fun _ _ _ h => h) (by kernel_rfl) (by assumption) ?_ ?_
                  rotate_left
                  · (intro w hSw; (try dsimp only at hSw); go_simp; try with_reducible rfl)
                  simp only [Act.put, List.setIfInBounds_toArray, List.set_cons_zero, List.set_cons_succ]
                  refine take_at (i := 37) (v := ?_) rfl (by kernel_rfl) (by kernel_rfl) (by kernel_rfl) (fun _ _ _ h => h) (by kernel_rfl) (by assumption) ?_ ?_
                  rotate_left
                  · (intro w hSw; (try dsimp only at hSw); go_simp; try with_reducible rfl)
                  simp only [Act.put, List.setIfInBounds_toArray, List.set_cons_zero, List.set_cons_succ]
                  refine wpAnyH_done (by kernel_rfl) ?_ _
                  clear hHeld
                  go_wp2
                  go_meet
                  case rel => exact ⟨rfl, HUU⟩
              · clear hHeld
                obtain ⟨v20, hv20⟩ : ∃ y, y = u0.alloc (.cells #[.int .i64 (e1 : Nat)] 3) := ⟨_, rfl⟩
                obtain ⟨s2, hs2⟩ : ∃ y, y = u0.heap.size := ⟨_, rfl⟩
                have bb : Below u0.heap.size u0 v20 := by rw [hv20]; exact (Below.refl _ _).alloc (Nat.le_refl _) _
                replace HR := Lib.hid (HR.out.below bb)
                replace HX := Lib.hid (HX.out.below bb)
                replace HUU := Lib.hid (HUU.out.trans (bb.mono HUU.out.size))
                have HP2 := Lib.hid (psOne u0 v20 s2 hs2 e1 he1b hv20)
                clear bb
                go_wp2_with fail
                rw [← hv20, ← hs2]
                clear hv20 hs2
                refine hK.out _ _ ?_ (fun hHeld => ?_)
                · exact HX.out.2.1
                clear hK K
                try simp only [Act.put, List.setIfInBounds_toArray, List.set_cons_zero, List.set_cons_succ]
                refine do_at (i := 13) rfl (by kernel_rfl) (by kernel_rfl) (fun K hK => ?_)
                clear hHeld
                obtain ⟨v21, hv21⟩ : ∃ y, y = v20.alloc (.cells #[.int .i64 (e1 : Nat)] 3) := ⟨_, rfl⟩
                obtain ⟨s1, hs1⟩ : ∃ y, y = v20.heap.size := ⟨_, rfl⟩
                have bb : Below v20.heap.size v20 v21 := by rw [hv21]; exact (Below.refl _ _).alloc (Nat.le_refl _) _
                replace HR := Lib.hid (HR.out.below bb)
                replace HX := Lib.hid (HX.out.below bb)
                replace HP2 := Lib.hid (HP2.out.below bb)
                replace HUU := Lib.hid (HUU.out.trans (bb.mono HUU.out.size))
                have HP1 := Lib.hid (psOne v20 v21 s1 hs1 e1 he1b hv21)
                clear bb
                go_wp2_with fail
                rw [← hv21, ← hs1]
                clear hv21 hs1
                refine hK.out _ _ ?_ (fun hHeld => ?_)
                · exact HX.out.2.1
                clear hK K
                try simp only [Act.put, List.setIfInBounds_toArray, List.set_cons_zero, List.set_cons_succ]
                refine do_at (i := 14) rfl (by kernel_rfl) (by kernel_rfl) (fun K hK => ?_)
                clear hHeld
                go_wp2_with fail
                refine (HR.out.brk HP1.out HBR.out).mono ?_
                rintro e v22 ⟨c1, rfl, i2, bb⟩
                replace HR := Lib.hid (HR.out.below bb)
                replace HX := Lib.hid (HX.out.below bb)
                replace HP2 := Lib.hid (HP2.out.below bb)
                replace HUU := Lib.hid (HUU.out.trans (bb.mono HUU.out.size))
                have HC1 := Lib.hid i2
                clear bb i2 HP1
                go_wp2_with fail
                refine hK.out _ _ ?_ (fun hHeld => ?_)
                · exact HX.out.2.1
                clear hK K
                try simp only [Act.put, List.setIfInBounds_toArray, List.set_cons_zero, List.set_cons_succ]
                refine do_at (i := 18) rfl (by kernel_rfl) (by kernel_rfl) (fun K hK => ?_)
                clear hHeld
                go_wp2_with fail
                refine (HC1.out.del (p : Nat) (nn : Nat) b HBK.out).mono ?_
                rintro e v23 ⟨c2, rfl, i2, bb⟩
                replace HR := Lib.hid (HR.out.below bb)
                replace HX := Lib.hid (HX.out.below bb)
                replace HP2 := Lib.hid (HP2.out.below bb)
                replace HUU := Lib.hid (HUU.out.trans (bb.mono HUU.out.size))
                have HC2 := Lib.hid i2
                clear bb i2 HC1
                go_wp2_with fail
                refine hK.out _ _ ?_ (fun hHeld => ?_)
                · exact HX.out.2.1
                clear hK K
                try simp only [Act.put, List.setIfInBounds_toArray, List.set_cons_zero, List.set_cons_succ]
                refine do_at (i := 22) rfl (by kernel_rfl) (by kernel_rfl) (fun K hK => ?_)
                clear hHeld
                go_wp2_with fail
                refine (HC2.out.del (p : Nat) (mm : Nat) b HBK.out).mono ?_
                rintro e v24 ⟨c3, rfl, i2, bb⟩
                replace HR := Lib.hid (HR.out.below bb)
                replace HX := Lib.hid (HX.out.below bb)
                replace HP2 := Lib.hid (HP2.out.below bb)
                replace HUU := Lib.hid (HUU.out.trans (bb.mono HUU.out.size))
                have HC3 := Lib.hid i2
                clear bb i2 HC2
                go_wp2_with fail
                refine hK.out _ _ ?_ (fun hHeld => ?_)
                · exact HX.out.2.1
                clear hK K
                try simp only [Act.put, List.setIfInBounds_toArray, List.set_cons_zero, List.set_cons_succ]
                refine do_at (i := 28) rfl (by kernel_rfl) (by kernel_rfl) (fun K hK => ?_)
                clear hHeld
                go_wp2_with fail
                refine (HR.out.brk HP2.out HBR.out).mono ?_
                rintro e v25 ⟨c4, rfl, i2, bb⟩
                replace HR := Lib.hid (HR.out.below bb)
                replace HX := Lib.hid (HX.out.below bb)
                replace HC3 := Lib.hid (HC3.out.below bb)
                replace HUU := Lib.hid (HUU.out.trans (bb.mono HUU.out.size))
                have HC4 := Lib.hid i2
                clear bb i2 HP2
                go_wp2_with fail
                refine hK.out _ _ ?_ (fun hHeld => ?_)
                · exact HX.out.2.1
                clear hK K
                try simp only [Act.put, List.setIfInBounds_toArray, List.set_cons_zero, List.set_cons_succ]
                refine do_at (i := 34) rfl (by kernel_rfl) (by kernel_rfl) (fun K hK => ?_)
                clear hHeld
                go_wp2_with fail
                refine (HC4.out.del (p : Nat) (e3 : Nat) b HBK.out).mono ?_
                rintro e v26 ⟨c5, rfl, i2, bb⟩
                replace HR := Lib.hid (HR.out.below bb)
                replace HX := Lib.hid (HX.out.below bb)
                replace HC3 := Lib.hid (HC3.out.below bb)
                replace HUU := Lib.hid (HUU.out.trans (bb.mono HUU.out.size))
                have HC5 := Lib.hid i2
                clear bb i2 HC4
                go_wp2_with fail
                refine hK.out _ _ ?_ (fun hHeld => ?_)
                · exact HX.out.2.1
                clear hK K
                try simp only [Act.put, List.setIfInBounds_toArray, List.set_cons_zero, List.set_cons_succ]
                refine do_at (i := 35) rfl (by kernel_rfl) (by kernel_rfl) (fun K hK => ?_)
                clear hHeld
                go_wp2_with fail
                refine (rsame_any v26 _ _ _ _ HC3.out.1 HC5.out.1 (by have := HC3.out.2.2; omega)).mono ?_
                rintro e v27 ⟨rfl, bb⟩
                rw [HDT.out]
                replace HX := Lib.hid (HX.out.below bb)
                replace HUU := Lib.hid (HUU.out.trans (bb.mono HUU.out.size))
                clear bb HC3 HC5
                go_wp2_with fail
                refine hK.out _ _ ?_ (fun hHeld => ?_)
                · exact HX.out.2.1
                clear hK K
                try simp only [Act.put, List.setIfInBounds_toArray, List.set_cons_zero, List.set_cons_succ]
                refine take_at (i := 36) (v := ?_) rfl (by kernel_rfl) (by kernel_rfl) (by kernel_rfl) (fun _ _ _ h => h) (by kernel_rfl) (by assumption) ?_ ?_
                rotate_left
                · (intro w hSw; (try dsimp only at hSw); go_simp; try with_reducible rfl)
                simp only [Act.put, List.setIfInBounds_toArray, List.set_cons_zero, List.set_cons_succ]
                refine take_at (i := 37) (v := ?_) rfl (by kernel_rfl) (by kernel_rfl) (by kernel_rfl) (fun _ _ _ h => h) (by kernel_rfl) (by assumption) ?_ ?_
                rotate_left
                · (intro w hSw; (try dsimp only at hSw); go_simp; try with_reducible rfl)
                simp only [Act.put, List.setIfInBounds_toArray, List.set_cons_zero, List.set_cons_succ]
                refine wpAnyH_done (by kernel_rfl) ?_ _
                clear hHeld
                go_wp2
                go_meet
                case rel => exact ⟨rfl, HUU⟩
            · have f1 : ¬ (e2 : Int) ≤ (n : Int) := by omega
              have f1d : decide ((e2 : Int) ≤ (n : Int)) = false := decide_eq_false f1
              have f1n : decide (e2 ≤ n) = false := decide_eq_false hfit
              refine wp_region_held_drew (S := fun _ => True) (by kernel_rfl) ?_ (fun hHeld => ?_)
              · trivial
              obtain ⟨u0, hu0⟩ : ∃ y, y = vr.drew := ⟨_, rfl⟩
              have HU0 := Lib.hid (show Below vr.heap.size vr u0 by rw [hu0]; exact ⟨rfl, rfl, rfl, Nat.le_refl _, fun _ _ => rfl⟩)
              rw [← hu0]
              clear hu0
              refine take_at (i := 0) (v := ?_) rfl (by kernel_rfl) (by kernel_rfl) (by kernel_rfl) (fun _ _ _ h => h) (by kernel_rfl) (by assumption) ?_ ?_
              rotate_left
              · (intro w hSw; (try dsimp only at hSw); go_simp; try with_reducible rfl)
              simp only [Act.put, List.setIfInBounds_toArray, List.set_cons_zero, List.set_cons_succ]
              refine take_at (i := 1) (v := ?_) rfl (by kernel_rfl) (by kernel_rfl) (by kernel_rfl) (fun _ _ _ h => h) (by kernel_rfl) (by assumption) ?_ ?_
              rotate_left
              · (intro w hSw; (try dsimp only at hSw); go_simp; try with_reducible rfl)
              simp only [Act.put, List.setIfInBounds_toArray, List.set_cons_zero, List.set_cons_succ]
              refine take_at (i := 2) (v := ?_) rfl (by kernel_rfl) (by kernel_rfl) (by kernel_rfl) (fun _ _ _ h => h) (by kernel_rfl) (by assumption) ?_ ?_
              rotate_left
              · (intro w hSw; (try dsimp only at hSw); go_simp; try with_reducible rfl)
              simp only [Act.put, List.setIfInBounds_toArray, List.set_cons_zero, List.set_cons_succ]
              refine take_at (i := 3) (v := ?_) rfl (by kernel_rfl) (by kernel_rfl) (by kernel_rfl) (fun _ _ _ h => h) (by kernel_rfl) (by assumption) ?_ ?_
              rotate_left
              · (intro w hSw; (try dsimp only at hSw); go_simp; try with_reducible rfl)
              simp only [Act.put, List.setIfInBounds_toArray, List.set_cons_zero, List.set_cons_succ]
              refine take_at (i := 4) (v := ?_) rfl (by kernel_rfl) (by kernel_rfl) (by kernel_rfl) (fun _ _ _ h => h) (by kernel_rfl) (by assumption) ?_ ?_
              rotate_left
              · (intro w hSw; (try dsimp only at hSw); go_simp; try with_reducible rfl)
              simp only [Act.put, List.setIfInBounds_toArray, List.set_cons_zero, List.set_cons_succ]
              refine take_at (i := 5) (v := ?_) rfl (by kernel_rfl) (by kernel_rfl) (by kernel_rfl) (fun _ _ _ h => h) (by kernel_rfl) (by assumption) ?_ ?_
              rotate_left
              · (intro w hSw; (try dsimp only at hSw); go_simp; try with_reducible rfl)
              simp only [Act.put, List.setIfInBounds_toArray, List.set_cons_zero, List.set_cons_succ]
              refine take_at (i := 6) (v := ?_) rfl (by kernel_rfl) (by kernel_rfl) (by kernel_rfl) (fun _ _ _ h => h) (by kernel_rfl) (by assumption) ?_ ?_
              rotate_left
              · (intro w hSw; (try dsimp only at hSw); go_simp; try with_reducible rfl)
              simp only [Act.put, List.setIfInBounds_toArray, List.set_cons_zero, List.set_cons_succ]
              refine take_at (i := 7) (v := ?_) rfl (by kernel_rfl) (by kernel_rfl) (by kernel_rfl) (fun _ _ _ h => h) (by kernel_rfl) (by assumption) ?_ ?_
              rotate_left
              · (intro w hSw; (try dsimp only at hSw); go_simp; try with_reducible rfl)
              simp only [Act.put, List.setIfInBounds_toArray, List.set_cons_zero, List.set_cons_succ]
              refine take_at (i := 8) (v := ?_) rfl (by kernel_rfl) (by kernel_rfl) (by kernel_rfl) (fun _ _ _ h => h) (by kernel_rfl) (by assumption) ?_ ?_
              rotate_left
              · (intro w hSw; (try dsimp only at hSw); go_simp; try with_reducible rfl)
              simp only [Act.put, List.setIfInBounds_toArray, List.set_cons_zero, List.set_cons_succ]
              refine skip_at (i := 9) rfl (by kernel_rfl) (by kernel_rfl) (by kernel_rfl) (fun _ _ _ h => h) (by kernel_rfl) (by assumption) ?_
              simp only [Act.put, List.setIfInBounds_toArray, List.set_cons_zero, List.set_cons_succ]
              refine skip_at (i := 10) rfl (by kernel_rfl) (by kernel_rfl) (by kernel_rfl) (fun _ _ _ h => h) (by kernel_rfl) (by assumption) ?_
              simp only [Act.put, List.setIfInBounds_toArray, List.set_cons_zero, List.set_cons_succ]
              refine skip_at (i := 11) rfl (by kernel_rfl) (by kernel_rfl) (by kernel_rfl) (fun _ _ _ h => h) (by kernel_rfl) (by assumption) ?_
              simp only [Act.put, List.setIfInBounds_toArray, List.set_cons_zero, List.set_cons_succ]
              refine skip_at (i := 12) rfl (by kernel_rfl) (by kernel_rfl) (by kernel_rfl) (fun _ _ _ h => h) (by kernel_rfl) (by assumption) ?_
              simp only [Act.put, List.setIfInBounds_toArray, List.set_cons_zero, List.set_cons_succ]
              refine skip_at (i := 13) rfl (by kernel_rfl) (by kernel_rfl) (by kernel_rfl) (fun _ _ _ h => h) (by kernel_rfl) (by assumption) ?_
              simp only [Act.put, List.setIfInBounds_toArray, List.set_cons_zero, List.set_cons_succ]
              refine skip_at (i := 14) rfl (by kernel_rfl) (by kernel_rfl) (by kernel_rfl) (fun _ _ _ h => h) (by kernel_rfl) (by assumption) ?_
              simp only [Act.put, List.setIfInBounds_toArray, List.set_cons_zero, List.set_cons_succ]
              refine skip_at (i := 15) rfl (by kernel_rfl) (by kernel_rfl) (by kernel_rfl) (fun _ _ _ h => h) (by kernel_rfl) (by assumption) ?_
              simp only [Act.put, List.setIfInBounds_toArray, List.set_cons_zero, List.set_cons_succ]
              refine skip_at (i := 16) rfl (by kernel_rfl) (by kernel_rfl) (by kernel_rfl) (fun _ _ _ h => h) (by kernel_rfl) (by assumption) ?_
              simp only [Act.put, List.setIfInBounds_toArray, List.set_cons_zero, List.set_cons_succ]
              refine skip_at (i := 17) rfl (by kernel_rfl) (by kernel_rfl) (by kernel_rfl) (fun _ _ _ h => h) (by kernel_rfl) (by assumption) ?_
              simp only [Act.put, List.setIfInBounds_toArray, List.set_cons_zero, List.set_cons_succ]
              refine skip_at (i := 18) rfl (by kernel_rfl) (by kernel_rfl) (by kernel_rfl) (fun _ _ _ h => h) (by kernel_rfl) (by assumption) ?_
              simp only [Act.put, List.setIfInBounds_toArray, List.set_cons_zero, List.set_cons_succ]
              refine skip_at (i := 19) rfl (by kernel_rfl) (by kernel_rfl) (by kernel_rfl) (fun _ _ _ h => h) (by kernel_rfl) (by assumption) ?_
              simp only [Act.put, List.setIfInBounds_toArray, List.set_cons_zero, List.set_cons_succ]
              refine skip_at (i := 20) rfl (by kernel_rfl) (by kernel_rfl) (by kernel_rfl) (fun _ _ _ h => h) (by kernel_rfl) (by assumption) ?_
              simp only [Act.put, List.setIfInBounds_toArray, List.set_cons_zero, List.set_cons_succ]
              refine skip_at (i := 21) rfl (by kernel_rfl) (by kernel_rfl) (by kernel_rfl) (fun _ _ _ h => h) (by kernel_rfl) (by assumption) ?_
              simp only [Act.put, List.setIfInBounds_toArray, List.set_cons_zero, List.set_cons_succ]
              refine skip_at (i := 22) rfl (by kernel_rfl) (by kernel_rfl) (by kernel_rfl) (fun _ _ _ h => h) (by kernel_rfl) (by assumption) ?_
              simp only [Act.put, List.setIfInBounds_toArray, List.set_cons_zero, List.set_cons_succ]
              refine skip_at (i := 23) rfl (by kernel_rfl) (by kernel_rfl) (by kernel_rfl) (fun _ _ _ h => h) (by kernel_rfl) (by assumption) ?_
              simp only [Act.put, List.setIfInBounds_toArray, List.set_cons_zero, List.set_cons_succ]
              refine skip_at (i := 24) rfl (by kernel_rfl) (by kernel_rfl) (by kernel_rfl) (fun _ _ _ h => h) (by kernel_rfl) (by assumption) ?_
              simp only [Act.put, List.setIfInBounds_toArray, List.set_cons_zero, List.set_cons_succ]
              refine skip_at (i := 25) rfl (by kernel_rfl) (by kernel_rfl) (by kernel_rfl) (fun _ _ _ h => h) (by kernel_rfl) (by assumption) ?_
              simp only [Act.put, List.setIfInBounds_toArray, List.set_cons_zero, List.set_cons_succ]
              refine skip_at (i := 26) rfl (by kernel_rfl) (by kernel_rfl) (by kernel_rfl) (fun _ _ _ h => h) (by kernel_rfl) (by assumption) ?_
              simp only [Act.put, List.setIfInBounds_toArray, List.set_cons_zero, List.set_cons_succ]
              refine skip_at (i := 27) rfl (by kernel_rfl) (by kernel_rfl) (by kernel_rfl) (fun _ _ _ h => h) (by kernel_rfl) (by assumption) ?_
              simp only [Act.put, List.setIfInBounds_toArray, List.set_cons_zero, List.set_cons_succ]
              refine skip_at (i := 28) rfl (by kernel_rfl) (by kernel_rfl) (by kernel_rfl) (fun _ _ _ h => h) (by kernel_rfl) (by assumption) ?_
              simp only [Act.put, List.setIfInBounds_toArray, List.set_cons_zero, List.set_cons_succ]
              refine skip_at (i := 29) rfl (by kernel_rfl) (by kernel_rfl) (by kernel_rfl) (fun _ _ _ h => h) (by kernel_rfl) (by assumption) ?_
              simp only [Act.put, List.setIfInBounds_toArray, List.set_cons_zero, List.set_cons_succ]
              refine skip_at (i := 30) rfl (by kernel_rfl) (by kernel_rfl) (by kernel_rfl) (fun _ _ _ h => h) (by kernel_rfl) (by assumption) ?_
              simp only [Act.put, List.setIfInBounds_toArray, List.set_cons_zero, List.set_cons_succ]
              refine skip_at (i := 31) rfl (by kernel_rfl) (by kernel_rfl) (by kernel_rfl) (fun _ _ _ h => h) (by kernel_rfl) (by assumption) ?_
              simp only [Act.put, List.setIfInBounds_toArray, List.set_cons_zero, List.set_cons_succ]
              refine skip_at (i := 32) rfl (by kernel_rfl) (by kernel_rfl) (by kernel_rfl) (fun _ _ _ h => h) (by kernel_rfl) (by assumption) ?_
              simp only [Act.put, List.setIfInBounds_toArray, List.set_cons_zero, List.set_cons_succ]
              refine skip_at (i := 33) rfl (by kernel_rfl) (by kernel_rfl) (by kernel_rfl) (fun _ _ _ h => h) (by kernel_rfl) (by assumption) ?_
              simp only [Act.put, List.setIfInBounds_toArray, List.set_cons_zero, List.set_cons_succ]
              refine skip_at (i := 34) rfl (by kernel_rfl) (by kernel_rfl) (by kernel_rfl) (fun _ _ _ h => h) (by kernel_rfl) (by assumption) ?_
              simp only [Act.put, List.setIfInBounds_toArray, List.set_cons_zero, List.set_cons_succ]
              refine skip_at (i := 35) rfl (by kernel_rfl) (by kernel_rfl) (by kernel_rfl) (fun _ _ _ h => h) (by kernel_rfl) (by assumption) ?_
              simp only [Act.put, List.setIfInBounds_toArray, List.set_cons_zero, List.set_cons_succ]
              refine skip_at (i := 36) rfl (by kernel_rfl) (by kernel_rfl) (by kernel_rfl) (fun _ _ _ h => h) (by kernel_rfl) (by assumption) ?_
              simp only [Act.put, List.setIfInBounds_toArray, List.set_cons_zero, List.set_cons_succ]
              refine take_at (i := 37) (v := ?_) rfl (by kernel_rfl) (by kernel_rfl) (by kernel_rfl) (fun _ _ _ h => h) (by kernel_rfl) (by assumption) ?_ ?_
              rotate_left
              · (intro w hSw; (try dsimp only at hSw); go_simp; try with_reducible rfl)
              simp only [Act.put, List.setIfInBounds_toArray, List.set_cons_zero, List.set_cons_succ]
              refine wpAnyH_done (by kernel_rfl) ?_ _
              clear hHeld
              go_wp2
              go_meet
              case rel => exact ⟨rfl, HU0⟩
          case rest =>
          obtain ⟨rfl, HU⟩ := hcut
          obtain ⟨vs, rfl⟩ : ∃ v : World, v = wc := ⟨_, rfl⟩
          have bb := HU.out
          replace HR := Lib.hid (HR.out.below bb)
          replace HX := Lib.hid (HX.out.below bb)
          replace HB := Lib.hid (HB.out.trans (bb.mono HB.out.size))
          clear bb HU HE s2 s3 s4 he1b
          go_wp2
          go_loopg [14, 15] n (fun G cv i wr => ∃ k : Nat, cv = .int .i64 (wholesTo R k : Nat) ∧ i = .int .i64 k ∧ k ≤ n ∧ n - k ≤ G ∧ wr = vs)
          case atStart => exact ⟨0, rfl, rfl, Nat.zero_le _, Nat.sub_le _ _, rfl⟩
          case round =>
            obtain ⟨k, rfl, rfl, hkn2, hgk2, rfl⟩ := hrel
            by_cases hlt3 : k < n
            · obtain ⟨g, o, cp, e, _, hg, hC⟩ := HR.out.1.open (by rw [← HN.out]; omega)
              injection e with e4 e5 e6
              subst e4 e6
              clear e5
              have hst := Lib.hid (wholes_step R k (by rw [← HN.out]; exact hlt3))
              obtain ⟨_, _, _, g3, _⟩ := hC k (by rw [← HN.out]; exact hlt3)
              obtain ⟨c, hc⟩ : ∃ c, c = (gc R k).k := ⟨_, rfl⟩
              rw [← hc] at g3 hst
              obtain ⟨cnt, hcnt⟩ : ∃ y, y = wholesTo R k := ⟨_, rfl⟩
              have hcb : cnt ≤ k := by rw [hcnt]; exact wholes_le R k
              have s5 : IntKind.i64.wrap ((cnt : Int) + 1) = ((cnt + 1 : Nat) : Int) := by rw [IntKind.wrap_i64]; omega
              rw [← hcnt] at hst ⊢
              clear hC hg hc hcnt
              by_cases h2 : c = 2
              · have k2 : (c != 2) = false := by simp [h2]
                have HE := Lib.hid (show cnt = wholesTo R (k + 1) by rw [hst.out, if_pos h2]; rfl)
                clear h2
                go_wp2
                go_roundg (n - (k + 1))
                case rel => exact ⟨k + 1, by rw [← HE.out], by go_num, by omega, Nat.le_refl _, rfl⟩
                case measure => omega
              · have k2 : (c != 2) = true := by simp [h2]
                have HE := Lib.hid (show cnt + 1 = wholesTo R (k + 1) by rw [hst.out, if_neg h2])
                clear h2
                go_wp2
                go_roundg (n - (k + 1))
                case rel => exact ⟨k + 1, by rw [← HE.out]; go_num, by go_num, by omega, Nat.le_refl _, rfl⟩
                case measure => omega
            · obtain ⟨N, hN⟩ : ∃ y, y = wholesTo R k := ⟨_, rfl⟩
              have HNN := Lib.hid (show shownN (runesM R) = N by
                rw [hN, show k = R.length by rw [← HN.out]; omega]
                exact shown_row HRF.out.2.2)
              have hNb : N ≤ n := by rw [hN]; have := wholes_le R k; omega
              rw [← hN]
              clear hN
              obtain ⟨s, hs⟩ : ∃ s : ByteArray, s = ⟨(textM R).toArray⟩ := ⟨_, rfl⟩
              have CT := Lib.hid (text_any wr _ R HR.out.1 (txt_row HRF.out.2.2) (by have := HRF.out.2.1; omega))
              rw [← hs] at CT
              have HSR := Lib.hid (show s.data.toList.drop 0 = (runesM R).flatMap encR by rw [hs, List.drop_zero, ← text_runes])
              have hkn3 : ¬ (k : Int) < (n : Int) := by omega
              clear hs
              go_wp2_with fail
              refine CT.out.mono ?_
              rintro e v5 ⟨rfl, bb⟩
              replace HR := Lib.hid (HR.out.below bb)
              replace HX := Lib.hid (HX.out.below bb)
              replace HB := Lib.hid (HB.out.trans (bb.mono HB.out.size))
              clear bb CT
              go_wp2
              go_loopw [16] (fun cm wr => ∃ (pos a : Nat) (rs : List Int), cm = .int .i64 a ∧ pos ≤ s.size ∧ Hid (s.data.toList.drop pos = rs.flatMap encR) ∧ Hid (∀ r ∈ rs, Shows r) ∧ Hid (a + shownN rs = N) ∧ Hid (ItAt v5 wr s pos)) (fun _ wr => s.size - wr.iterPos v5.heap.size)
              case atStart => exact ⟨0, 0, runesM R, rfl, Nat.zero_le _, HSR, Lib.hid (shows_row HRF.out.2.2), Lib.hid (by rw [HNN.out, Nat.zero_add]), Lib.hid (ItAt.fresh v5 s 0)⟩
              case round =>
                obtain ⟨pos, a, rs, rfl, hps, HD, HSH, HQ, HIT⟩ := hrel
                cases rs with
                | nil =>
                  have hnx : ∀ ty, (Instr.next (.pointer (some ⟨v5.heap.size, 0, none⟩)) true ty).run Try.prog wr = .ok (.tuple #[.bool false]) wr :=
                    fun ty => run_next_end_at wr _ s pos ty HIT.out.1 (end_rune HD.out)
                  obtain rfl : a = N := HQ.out
                  have bb := HIT.out.2
                  replace HR := Lib.hid (HR.out.below bb)
                  replace HX := Lib.hid (HX.out.below bb)
                  replace HB := Lib.hid (HB.out.trans (bb.mono HB.out.size))
                  clear bb
                  go_upto_region 34 with (fail)
                  obtain ⟨nm, hnm⟩ : ∃ y, y = n + mm := ⟨_, rfl⟩
                  have s7 : IntKind.i64.wrap ((n : Int) + (mm : Int)) = (nm : Int) := by rw [IntKind.wrap_i64]; omega
                  have hnm40 : nm ≤ 40 := by omega
                  have HRR := Lib.hid (show decide (resM (resM R nm b) n b = R) = true by
                    refine decide_eq_true ?_
                    rw [hnm, HN.out]
                    exact res_res HRF.out.1 mm b)
                  clear hnm hnx
                  refine wp_region_held_drew (S := fun w' => w'.cell? ⟨x, 0, none⟩ = some (.int .i32 b.ru) ∧ w'.cell? ⟨x, 1, none⟩ = some (.int .i32 b.m0) ∧ w'.cell? ⟨x, 2, none⟩ = some (.int .i32 b.m1) ∧ w'.cell? ⟨x, 3, none⟩ = some (.int .u8 b.k) ∧ w'.cell? ⟨x, 4, none⟩ = some (.int .u8 b.a.fg.k) ∧ w'.cell? ⟨x, 5, none⟩ = some (.int .u8 b.a.fg.r) ∧ w'.cell? ⟨x, 6, none⟩ = some (.int .u8 b.a.fg.g) ∧ w'.cell? ⟨x, 7, none⟩ = some (.int .u8 b.a.fg.b) ∧ w'.cell? ⟨x, 8, none⟩ = some (.int .u8 b.a.bg.k) ∧ w'.cell? ⟨x, 9, none⟩ = some (.int .u8 b.a.bg.r) ∧ w'.cell? ⟨x, 10, none⟩ = some (.int .u8 b.a.bg.g) ∧ w'.cell? ⟨x, 11, none⟩ = some (.int .u8 b.a.bg.b) ∧ w'.cell? ⟨x, 12, none⟩ = some (.int .u16 (b.a.fl : Nat)) ∧ w'.cell? ⟨x, 13, none⟩ = some (.int .u8 b.l)) (by kernel_rfl) ?_ (fun hHeld => ?_)
                  · exact HX.out.2.1
                  obtain ⟨u9, hu9⟩ : ∃ y, y = wr.drew := ⟨_, rfl⟩
                  have bb : Below wr.heap.size wr u9 := by rw [hu9]; exact ⟨rfl, rfl, rfl, Nat.le_refl _, fun _ _ => rfl⟩
                  replace HR := Lib.hid (HR.out.below bb)
                  replace HX := Lib.hid (HX.out.below bb)
                  replace HB := Lib.hid (HB.out.trans (bb.mono HB.out.size))
                  replace hHeld := HX.out.2.1
                  unfold D14 at hHeld
                  rw [← hu9]
                  clear hu9 bb
                  refine take_at (i := 0) (v := ?_) rfl (by kernel_rfl) (by kernel_rfl) (by kernel_rfl) (fun _ _ _ h => h) (by kernel_rfl) (by assumption) ?_ ?_
                  rotate_left
                  · (intro w hSw; (try dsimp only at hSw); go_simp; try with_reducible rfl)
                  simp only [Act.put, List.setIfInBounds_toArray, List.set_cons_zero, List.set_cons_succ]
                  refine take_at (i := 1) (v := ?_) rfl (by kernel_rfl) (by kernel_rfl) (by kernel_rfl) (fun _ _ _ h => h) (by kernel_rfl) (by assumption) ?_ ?_
                  rotate_left
                  · (intro w hSw; (try dsimp only at hSw); go_simp; try with_reducible rfl)
                  simp only [Act.put, List.setIfInBounds_toArray, List.set_cons_zero, List.set_cons_succ]
                  refine take_at (i := 2) (v := ?_) rfl (by kernel_rfl) (by kernel_rfl) (by kernel_rfl) (fun _ _ _ h => h) (by kernel_rfl) (by assumption) ?_ ?_
                  rotate_left
                  · (intro w hSw; (try dsimp only at hSw); go_simp; try with_reducible rfl)
                  simp only [Act.put, List.setIfInBounds_toArray, List.set_cons_zero, List.set_cons_succ]
                  refine take_at (i := 3) (v := ?_) rfl (by kernel_rfl) (by kernel_rfl) (by kernel_rfl) (fun _ _ _ h => h) (by kernel_rfl) (by assumption) ?_ ?_
                  rotate_left
                  · (intro w hSw; (try dsimp only at hSw); go_simp; try with_reducible rfl)
                  simp only [Act.put, List.setIfInBounds_toArray, List.set_cons_zero, List.set_cons_succ]
                  refine take_at (i := 4) (v := ?_) rfl (by kernel_rfl) (by kernel_rfl) (by kernel_rfl) (fun _ _ _ h => h) (by kernel_rfl) (by assumption) ?_ ?_
                  rotate_left
                  · (intro w hSw; (try dsimp only at hSw); go_simp; try with_reducible rfl)
                  simp only [Act.put, List.setIfInBounds_toArray, List.set_cons_zero, List.set_cons_succ]
                  refine take_at (i := 5) (v := ?_) rfl (by kernel_rfl) (by kernel_rfl) (by kernel_rfl) (fun _ _ _ h => h) (by kernel_rfl) (by assumption) ?_ ?_
                  rotate_left
                  · (intro w hSw; (try dsimp only at hSw); go_simp; try with_reducible rfl)
                  simp only [Act.put, List.setIfInBounds_toArray, List.set_cons_zero, List.set_cons_succ]
                  refine take_at (i := 6) (v := ?_) rfl (by kernel_rfl) (by kernel_rfl) (by kernel_rfl) (fun _ _ _ h => h) (by kernel_rfl) (by assumption) ?_ ?_
                  rotate_left
                  · (intro w hSw; (try dsimp only at hSw); go_simp; try with_reducible rfl)
                  simp only [Act.put, List.setIfInBounds_toArray, List.set_cons_zero, List.set_cons_succ]
                  refine take_at (i := 7) (v := ?_) rfl (by kernel_rfl) (by kernel_rfl) (by kernel_rfl) (fun _ _ _ h => h) (by kernel_rfl) (by assumption) ?_ ?_
                  rotate_left
                  · (intro w hSw; (try dsimp only at hSw); go_simp; try with_reducible rfl)
                  simp only [Act.put, List.setIfInBounds_toArray, List.set_cons_zero, List.set_cons_succ]
                  refine take_at (i := 8) (v := ?_) rfl (by kernel_rfl) (by kernel_rfl) (by kernel_rfl) (fun _ _ _ h => h) (by kernel_rfl) (by assumption) ?_ ?_
                  rotate_left
                  · (intro w hSw; (try dsimp only at hSw); go_simp; try with_reducible rfl)
                  simp only [Act.put, List.setIfInBounds_toArray, List.set_cons_zero, List.set_cons_succ]
                  refine take_at (i := 9) (v := ?_) rfl (by kernel_rfl) (by kernel_rfl) (by kernel_rfl) (fun _ _ _ h => h) (by kernel_rfl) (by assumption) ?_ ?_
                  rotate_left
                  · (intro w hSw; (try dsimp only at hSw); go_simp; try with_reducible rfl)
                  simp only [Act.put, List.setIfInBounds_toArray, List.set_cons_zero, List.set_cons_succ]
                  refine take_at (i := 11) (v := ?_) rfl (by kernel_rfl) (by kernel_rfl) (by kernel_rfl) (fun _ _ _ h => h) (by kernel_rfl) (by assumption) ?_ ?_
                  rotate_left
                  · (intro w hSw; (try dsimp only at hSw); go_simp; try with_reducible rfl)
                  simp only [Act.put, List.setIfInBounds_toArray, List.set_cons_zero, List.set_cons_succ]
                  refine take_at (i := 12) (v := ?_) rfl (by kernel_rfl) (by kernel_rfl) (by kernel_rfl) (fun _ _ _ h => h) (by kernel_rfl) (by assumption) ?_ ?_
                  rotate_left
                  · (intro w hSw; (try dsimp only at hSw); go_simp; try with_reducible rfl)
                  simp only [Act.put, List.setIfInBounds_toArray, List.set_cons_zero, List.set_cons_succ]
                  refine take_at (i := 13) (v := ?_) rfl (by kernel_rfl) (by kernel_rfl) (by kernel_rfl) (fun _ _ _ h => h) (by kernel_rfl) (by assumption) ?_ ?_
                  rotate_left
                  · (intro w hSw; (try dsimp only at hSw); go_simp; try with_reducible rfl)
                  simp only [Act.put, List.setIfInBounds_toArray, List.set_cons_zero, List.set_cons_succ]
                  refine take_at (i := 15) (v := ?_) rfl (by kernel_rfl) (by kernel_rfl) (by kernel_rfl) (fun _ _ _ h => h) (by kernel_rfl) (by assumption) ?_ ?_
                  rotate_left
                  · (intro w hSw; (try dsimp only at hSw); go_simp; try with_reducible rfl)
                  simp only [Act.put, List.setIfInBounds_toArray, List.set_cons_zero, List.set_cons_succ]
                  refine do_at (i := 10) rfl (by kernel_rfl) (by kernel_rfl) (fun K hK => ?_)
                  clear hHeld
                  go_wp2_with fail
                  refine (HR.out.res nm b HBK.out (by omega)).mono ?_
                  rintro e v6 ⟨g1, rfl, i2, bb⟩
                  have HG1 := Lib.hid i2
                  replace HR := Lib.hid (HR.out.below bb)
                  replace HX := Lib.hid (HX.out.below bb)
                  replace HB := Lib.hid (HB.out.trans (bb.mono HB.out.size))
                  clear bb i2
                  go_wp2_with fail
                  refine hK.out _ _ ?_ (fun hHeld => ?_)
                  · exact HX.out.2.1
                  clear hK K
                  try simp only [Act.put, List.setIfInBounds_toArray, List.set_cons_zero, List.set_cons_succ]
                  refine do_at (i := 14) rfl (by kernel_rfl) (by kernel_rfl) (fun K hK => ?_)
                  clear hHeld
                  go_wp2_with fail
                  refine (HG1.out.res n b HBK.out (by omega)).mono ?_
                  rintro e v7 ⟨g2, rfl, i2, bb⟩
                  have HG2 := Lib.hid i2
                  replace HR := Lib.hid (HR.out.below bb)
                  replace HX := Lib.hid (HX.out.below bb)
                  replace HB := Lib.hid (HB.out.trans (bb.mono HB.out.size))
                  clear bb i2 HG1
                  go_wp2_with fail
                  refine hK.out _ _ ?_ (fun hHeld => ?_)
                  · exact HX.out.2.1
                  clear hK K
                  try simp only [Act.put, List.setIfInBounds_toArray, List.set_cons_zero, List.set_cons_succ]
                  refine do_at (i := 16) rfl (by kernel_rfl) (by kernel_rfl) (fun K hK => ?_)
                  clear hHeld
                  go_wp2_with fail
                  refine (rsame_any v7 _ _ _ _ HG2.out.1 HR.out.1 (by have := HG2.out.2.2; omega)).mono ?_
                  rintro e v8 ⟨rfl, bb⟩
                  rw [HRR.out]
                  replace HR := Lib.hid (HR.out.below bb)
                  replace HX := Lib.hid (HX.out.below bb)
                  replace HB := Lib.hid (HB.out.trans (bb.mono HB.out.size))
                  clear bb HG2
                  go_wp2_with fail
                  refine hK.out _ _ ?_ (fun hHeld => ?_)
                  · exact HX.out.2.1
                  clear hK K
                  try simp only [Act.put, List.setIfInBounds_toArray, List.set_cons_zero, List.set_cons_succ]
                  refine take_at (i := 17) (v := ?_) rfl (by kernel_rfl) (by kernel_rfl) (by kernel_rfl) (fun _ _ _ h => h) (by kernel_rfl) (by assumption) ?_ ?_
                  rotate_left
                  · (intro w hSw; (try dsimp only at hSw); go_simp; try with_reducible rfl)
                  simp only [Act.put, List.setIfInBounds_toArray, List.set_cons_zero, List.set_cons_succ]
                  refine take_at (i := 18) (v := ?_) rfl (by kernel_rfl) (by kernel_rfl) (by kernel_rfl) (fun _ _ _ h => h) (by kernel_rfl) (by assumption) ?_ ?_
                  rotate_left
                  · (intro w hSw; (try dsimp only at hSw); go_simp; try with_reducible rfl)
                  simp only [Act.put, List.setIfInBounds_toArray, List.set_cons_zero, List.set_cons_succ]
                  refine wpAnyH_done (by kernel_rfl) ?_ _
                  clear hHeld
                  go_wp2
                  go_ret
                  exact ⟨rfl, HB.out⟩
                | cons r rs =>
                  obtain ⟨n2, n3, n4, n5, n6⟩ := next_rune HD.out (HSH.out r (by simp))
                  have hrb : Shows r := HSH.out r (by simp)
                  have hrn : ((r.toNat : Nat) : Int) = r := by unfold Shows at hrb; omega
                  have HSH2 := Lib.hid (show ∀ q ∈ rs, Shows q from fun q hq => HSH.out q (by simp [hq]))
                  have HQ2 := Lib.hid (show a + ((if (r != 769) = true then 1 else 0) + shownN rs) = N by rw [← shown_cons]; exact HQ.out)
                  have ha : a ≤ N := by have := HQ.out; omega
                  have hnx : ∀ ty, (Instr.next (.pointer (some ⟨v5.heap.size, 0, none⟩)) true ty).run Try.prog wr = .ok (.tuple #[.bool true, .int .i64 pos, .int .i32 r]) (wr.iterAt v5.heap.size s (pos + (Utf8.decode s pos).2)) := fun ty => by
                    have := run_next_any_at (P := Try.prog) wr _ s pos ty HIT.out.1 n2
                    rw [n3, hrn] at this
                    exact this
                  have HI2 := Lib.hid (HIT.out.move (pos + (Utf8.decode s pos).2))
                  have HD2 := Lib.hid n4
                  have HPP := Lib.hid HIT.out.pos
                  have HP2 := Lib.hid HI2.out.pos
                  generalize wr.iterAt v5.heap.size s (pos + (Utf8.decode s pos).2) = w2' at *
                  generalize Utf8.decode s pos = dd at *
                  have s6 : IntKind.i64.wrap ((a : Int) + 1) = ((a + 1 : Nat) : Int) := by rw [IntKind.wrap_i64]; omega
                  clear n3 n4 hrn hrb HD HSH HQ HIT
                  cases hr : (r != 769) with
                  | true =>
                    rw [hr] at HQ2
                    go_wp2
                    go_roundw
                    case rel => exact ⟨pos + dd.2, a + 1, rs, by go_num, n5, HD2, HSH2, Lib.hid (by have h := HQ2.out; rw [if_pos rfl] at h; omega), HI2⟩
                    case measure => rw [HPP.out, HP2.out]; omega
                  | false =>
                    rw [hr] at HQ2
                    go_wp2
                    go_roundw
                    case rel => exact ⟨pos + dd.2, a, rs, rfl, n5, HD2, HSH2, Lib.hid (by have h := HQ2.out; rw [if_neg (by decide)] at h; omega), HI2⟩
                    case measure => rw [HPP.out, HP2.out]; omega
theorem rowMoves_walk {H : Type} (enc : TypeId × Value → H) (base : Nat) (W : World)
    (v0 : Value) (d0 : DataW H) (p0 : List MemPlace) (ok0 : Value.okWide Try.prog W .any base 24 v0) (k0 : DataW.Trod enc Try.prog W 0 (fun _ => true) true 24 v0 d0 p0)
    (v1 : Value) (d1 : DataW H) (p1 : List MemPlace) (ok1 : Value.okWide Try.prog W .any base 47 v1) (k1 : DataW.Trod enc Try.prog W 0 (fun _ => true) true 47 v1 d1 p1) :
    Calls Try.prog 4 #[v0, v1] W fun e w' => e = .returned (.bool true) ∧ Below W.heap.size W w' := by
  obtain ⟨cols, u, L, rfl, hc, hL⟩ := open_line enc base W ok0 k0
  obtain ⟨x0, x1, x2, rfl, h0, h1, h2⟩ := open_three enc W k1 (by
    simp only [Value.okWide, Try.underlying47] at ok1
    obtain ⟨cs, h1, _⟩ := ok1
    exact ⟨cs, h1⟩)
  exact moves_core W cols u L x0 x1 x2 hc hL h0 h1 h2
end Go.Proofs.Ythildghpgajgoaa.Lab
