/- The project's join, relabel, Raise, Lower, Clear of a ring. -/
import Derived.Test.YtnefamgjlhdffaaRgPush
import Derived.Test.YtnefamgjlhdffaaRgKept
import Derived.Test.YtnefamgjlhdffaaRgLev
set_option linter.unusedVariables false
namespace Go.Proofs.Ytnefamgjlhdffaa.Lab
open Go Go.RowKit

/-- A cell of this label alone. -/
abbrev lzC (a : Int) : Cel := { Cel.z with l := a }
set_option maxHeartbeats 2000000 in
theorem rjoin_any (w : World) (a b : Int) (ha : a = 0 ∨ a = 1) (hb : b = 0 ∨ b = 1) : Calls Try.prog 38 #[.int .u8 a, .int .u8 b] w fun e w' => e = .returned (.int .u8 (max a b)) ∧ Below w.heap.size w w' := by
  obtain ⟨q, hq⟩ : ∃ q, q = w.heap.size := ⟨_, rfl⟩
  obtain ⟨w1, hw1⟩ : ∃ w1, w1 = w.alloc (.cells #[.int .i32 0, .int .i32 0, .int .i32 0, .int .u8 0, .int .u8 0, .int .u8 0, .int .u8 0, .int .u8 0, .int .u8 0, .int .u8 0, .int .u8 0, .int .u8 0, .int .u16 0, .int .u8 a, .int .i32 0, .int .i32 0, .int .i32 0, .int .u8 0, .int .u8 0, .int .u8 0, .int .u8 0, .int .u8 0, .int .u8 0, .int .u8 0, .int .u8 0, .int .u8 0, .int .u16 0, .int .u8 b] 47) := ⟨_, rfl⟩
  have HB := Lib.hid (show Below w.heap.size w w1 by rw [hw1]; exact (Below.refl _ _).alloc (Nat.le_refl _) _)
  have HR := Lib.hid (show RowIn w1 (.slice (some ⟨q, 0, none⟩) 2 2) [lzC a, lzC b] from by
    refine ⟨_, _, rfl, Nat.le_refl _, (show 2 ≤ maxLen by decide), fun _ => ⟨q, 0, rfl, by rw [hw1, hq]; simp, fun i hi => ?_⟩⟩
    have hc : ∀ j, w1.cell? ⟨q, j, none⟩ = (#[.int .i32 0, .int .i32 0, .int .i32 0, .int .u8 0, .int .u8 0, .int .u8 0, .int .u8 0, .int .u8 0, .int .u8 0, .int .u8 0, .int .u8 0, .int .u8 0, .int .u16 0, .int .u8 a, .int .i32 0, .int .i32 0, .int .i32 0, .int .u8 0, .int .u8 0, .int .u8 0, .int .u8 0, .int .u8 0, .int .u8 0, .int .u8 0, .int .u8 0, .int .u8 0, .int .u16 0, .int .u8 b] : Array Value)[j]? := fun j => by
      rw [hw1, hq, cell_of_row _ _ j _ _ (0, 0) (heap_alloc_new w _)]
    have hi2 : i = 0 ∨ i = 1 := by simp at hi; omega
    rcases hi2 with rfl | rfl
    · exact ⟨hc _, hc _, hc _, hc _, hc _, hc _, hc _, hc _, hc _, hc _, hc _, hc _, hc _, hc _⟩
    · exact ⟨hc _, hc _, hc _, hc _, hc _, hc _, hc _, hc _, hc _, hc _, hc _, hc _, hc _, hc _⟩)
  have HLv := Lib.hid (show Lv [lzC a, lzC b] from fun i hi => by
    have hi2 : i = 0 ∨ i = 1 := by simp at hi; omega
    rcases hi2 with rfl | rfl
    · exact ha
    · exact hb)
  have HE := Lib.hid (show levelM [lzC a, lzC b] 0 2 = max a b from by
    rcases ha with rfl | rfl <;> rcases hb with rfl | rfl <;> decide)
  clear ha hb
  go_enter Try.func38, Try.ntmps38
  go_wp2_with fail
  rw [← hw1, ← hq]
  clear hw1 hq
  refine (level_any w1 _ [lzC a, lzC b] 0 2 HR.out HLv.out (show 2 ≤ 1000 by decide)).mono ?_
  rintro e w2 ⟨rfl, b2⟩
  rw [HE.out]
  have HB2 := Lib.hid (HB.out.trans (b2.mono HB.out.size))
  clear b2
  go_wp2
  go_ret
  exact ⟨rfl, HB2.out⟩
theorem raise1_any (w : World) (q : Nat) (a x : Int) (ha : a = 0 ∨ a = 1) (hx : x = 0 ∨ x = 1) (hq : w.cell? ⟨q, 0, none⟩ = some (.int .u8 x)) :
    Calls Try.prog 37 #[.int .u8 a, .pointer (some ⟨q, 0, none⟩)] w fun e w' => e = .returned (.int .u8 (max a x)) ∧ Below w.heap.size w w' := by
  have HJ := Lib.hid (rjoin_any w a x ha hx)
  clear ha hx
  go_enter Try.func37, Try.ntmps37
  go_wp2_with fail
  refine HJ.out.mono ?_
  rintro e w2 ⟨rfl, b2⟩
  have HB2 := Lib.hid b2
  clear b2 HJ
  go_wp2
  go_ret
  exact ⟨rfl, HB2.out⟩
theorem lower1_any (w : World) (q : Nat) (a x : Int) (hq : w.cell? ⟨q, 0, none⟩ = some (.int .u8 x)) :
    Calls Try.prog 39 #[.int .u8 a, .pointer (some ⟨q, 0, none⟩)] w fun e w' => e = .returned (.int .u8 x) ∧ w = w' := by
  go_enter Try.func39, Try.ntmps39
  go_wp2
  go_ret
  exact ⟨rfl, rfl⟩
set_option maxHeartbeats 2000000 in
theorem relabel_raise (X : Nat → Prop) (w : World) (p n f q : Nat) (v : Value) (H : List Ln) (l x : Int) (h : RgAt X w p n v H f l) (hl : l = 0 ∨ l = 1) (hx : x = 0 ∨ x = 1) (hq : w.cell? ⟨q, 0, none⟩ = some (.int .u8 x)) :
    Calls Try.prog 36 #[pV p, .func (.func 37) #[] #[.pointer (some ⟨q, 0, none⟩)], .slice none 0 0] w fun e w' => e = .returned (.tuple #[]) ∧ RgAt X w' p n v H f (max l x) ∧ Buts X w w' := by
  have HR := Lib.hid h
  have HC := Lib.hid (raise1_any w q l x hl hx hq)
  obtain ⟨c0, c1, c2, c3⟩ := h.cells
  obtain ⟨z, hz⟩ : ∃ z, z = max l x := ⟨_, rfl⟩
  rw [← hz] at HC ⊢
  clear h hl hx hq hz c0 c1 c2
  go_enter Try.func36, Try.ntmps36
  go_wp2_with fail
  refine HC.out.mono ?_
  rintro e w1 ⟨rfl, b1⟩
  have HB := Lib.hid b1
  have HR1 := Lib.hid (HR.out.below b1)
  have d3 := HR1.out.cells.2.2.2
  have e3 := HR1.out.frozen 3
  clear b1 c3 HC
  go_wp2
  refine wp_loop_rounds 1 ?_
  rw [rounds_succ]
  go_wp2
  go_end0
  have r := HR1.out
  exact ⟨rfl, RgAt.field r.at' rfl r.rws r.here r.now r.n1 r.len r.first r.full r.rowl, (Buts.of HB.out).trans (Buts.but (But.set w1 p 3 _) r.here)⟩
set_option maxHeartbeats 2000000 in
/-- The ring's label is joined with x. -/
theorem raise_any (X : Nat → Prop) (w : World) (p n : Nat) (G : List Cls) (l x : Int) (h : Rg X w p n G l) (hl : l = 0 ∨ l = 1) (hx : x = 0 ∨ x = 1) :
    Calls Try.prog 10 #[pV p, .int .u8 x] w fun e w' => e = .returned (.tuple #[]) ∧ Rg X w' p n G (max l x) ∧ Buts X w w' := by
  obtain ⟨v, H, f, h, hG⟩ := h
  obtain ⟨q, hq⟩ : ∃ q, q = w.heap.size := ⟨_, rfl⟩
  obtain ⟨w1, hw1⟩ : ∃ w1, w1 = w.alloc (.cells #[.int .u8 x] 25) := ⟨_, rfl⟩
  have HB := Lib.hid (show Below w.heap.size w w1 by rw [hw1]; exact (Below.refl _ _).alloc (Nat.le_refl _) _)
  have HC := Lib.hid (relabel_raise X w1 p n f q v H l x (h.below HB.out) hl hx (by rw [hw1, hq]; simp))
  clear h hl hx
  go_enter Try.func10, Try.ntmps10
  go_wp2_with fail
  rw [← hw1, ← hq]
  clear hw1 hq
  refine HC.out.mono ?_
  rintro e w2 ⟨rfl, r2, b2⟩
  have HR2 := Lib.hid r2
  have HB2 := Lib.hid b2
  clear r2 b2 HC
  go_wp2
  go_end0
  exact ⟨rfl, ⟨v, H, f, HR2.out, hG⟩, (Buts.of HB.out).trans HB2.out⟩
theorem relabel_nil (w : World) (a b : Value) : Calls Try.prog 36 #[.pointer none, a, b] w fun e w' => e = .returned (.tuple #[]) ∧ w = w' := by
  go_enter Try.func36, Try.ntmps36
  go_wp2
  refine bodyPost_ret (results_none rfl _ _ _) rfl ?_
  exact ⟨rfl, rfl⟩
theorem raise_nil (w : World) (x : Int) : Calls Try.prog 10 #[.pointer none, .int .u8 x] w fun e w' => e = .returned (.tuple #[]) ∧ Below w.heap.size w w' := by
  go_enter Try.func10, Try.ntmps10
  go_wp2_with fail
  refine (relabel_nil _ _ _).mono ?_
  rintro e w2 ⟨rfl, rfl⟩
  go_wp2
  go_end0
  exact ⟨rfl, (Below.refl _ _).alloc (Nat.le_refl _) _⟩
set_option maxHeartbeats 2000000 in
theorem clear_any (X : Nat → Prop) (w : World) (p n : Nat) (G : List Cls) (l x : Int) (h : Rg X w p n G l) :
    Calls Try.prog 14 #[pV p, .int .u8 x] w fun e w' => e = .returned (.tuple #[]) ∧ Rg X w' p n [] x ∧ Buts X w w' := by
  obtain ⟨v, H, f, h, _⟩ := h
  have HR := Lib.hid h
  obtain ⟨c0, c1, c2, c3⟩ := h.cells
  have f0 := h.frozen 0
  have f1 := h.frozen 1
  have f2 := h.frozen 2
  have f3 := h.frozen 3
  clear h
  go_enter Try.func14, Try.ntmps14
  go_wp2
  go_end0
  have r := HR.out
  have a0 := heap_setCell_same w p 0 _ _ (.int .i64 (n : Nat)) r.at'
  have a1 := heap_setCell_same _ p 1 _ _ (.slice none 0 0) a0
  have a2 := heap_setCell_same _ p 2 _ _ (.int .i64 0) a1
  have a3 := heap_setCell_same _ p 3 _ _ (.int .u8 x) a2
  exact ⟨rfl, ⟨.slice none 0 0, [], 0, ⟨a3, Rows1.nil _ _, r.here, fun j hj => by have := r.now j hj; simp; exact this, r.n1, Nat.zero_le _, ⟨Nat.zero_le _, fun h => h⟩, fun h => absurd h (by decide), fun _ h => by cases h⟩, rfl⟩,
    (((Buts.but (But.set w p 0 _) r.here).trans (Buts.but (But.set _ p 1 _) r.here)).trans (Buts.but (But.set _ p 2 _) r.here)).trans (Buts.but (But.set _ p 3 _) r.here)⟩
theorem clear_nil (w : World) (x : Int) : Calls Try.prog 14 #[.pointer none, .int .u8 x] w fun e w' => e = .returned (.tuple #[]) ∧ w = w' := by
  go_enter Try.func14, Try.ntmps14
  go_wp2
  go_end0
  exact ⟨rfl, rfl⟩
/-- All labels of a row made x. -/
abbrev toL (x : Int) (R : Cls) : Cls := R.map fun c => { c with l := x }
abbrev lnL (x : Int) (y : Ln) : Ln := ⟨y.v, toL x y.R⟩
theorem vls_lnL (x : Int) (H : List Ln) : vls (H.map (lnL x)) = vls H := by simp [vls]
theorem rws_lnL (x : Int) (H : List Ln) : rws (H.map (lnL x)) = (rws H).map (toL x) := by simp [rws]
/-- Where the rounds stand: the first k rows, and i cells of the next one, are done. -/
def midR (x : Int) (R : Cls) (i : Nat) : Cls := (toL x R).take i ++ R.drop i
theorem midR_len (x : Int) (R : Cls) (i : Nat) : (midR x R i).length = R.length := by unfold midR; rw [List.length_append, List.length_take, List.length_drop, List.length_map]; omega
theorem midR_zero (x : Int) (R : Cls) : midR x R 0 = R := by simp [midR]
theorem midR_all (x : Int) (R : Cls) : midR x R R.length = toL x R := by unfold midR; rw [List.take_of_length_le (by rw [List.length_map]; exact Nat.le_refl _), List.drop_length, List.append_nil]
theorem midR_gc {x : Int} {R : Cls} {i : Nat} (h : i < R.length) : gc (midR x R i) i = gc R i := by
  unfold midR gc
  rw [List.getD_eq_getElem?_getD, List.getD_eq_getElem?_getD, List.getElem?_append_right (by rw [List.length_take, List.length_map]; omega), List.length_take, List.length_map, List.getElem?_drop]
  congr 2
  omega
theorem midR_set {x : Int} {R : Cls} {i : Nat} (h : i < R.length) : (midR x R i).set i { gc R i with l := x } = midR x R (i + 1) := by
  unfold midR
  rw [List.set_append_right _ _ (by rw [List.length_take, List.length_map]; omega), List.length_take, List.length_map, show i - min i R.length = 0 by omega, List.drop_eq_getElem_cons h, List.set_cons_zero, List.take_succ_eq_append_getElem (by rw [List.length_map]; exact h), List.getElem_map, ← gc_eq h]
  simp
set_option maxHeartbeats 8000000 in
set_option maxRecDepth 100000 in
theorem relabel_lower (X : Nat → Prop) (w : World) (p n f q B : Nat) (v v' : Value) (H : List Ln) (l x : Int) (h : RgAt X w p n v H f l) (hq : w.cell? ⟨q, 0, none⟩ = some (.int .u8 x)) (hqX : ¬ X q)
    (hv : w.ownsRow B 38 1 v' H.length (vls (turnL f H))) (hB : ∀ j, X j → j < B) :
    Calls Try.prog 36 #[pV p, .func (.func 39) #[] #[.pointer (some ⟨q, 0, none⟩)], v'] w fun e w' => e = .returned (.tuple #[]) ∧ RgAt X w' p n v (H.map (lnL x)) f x ∧ Buts X w w' := by
  have HR := Lib.hid h
  have HQ := Lib.hid (And.intro hq hqX)
  obtain ⟨K, hK⟩ : ∃ K, K = turnL f H := ⟨_, rfl⟩
  rw [← hK] at hv
  have HK := Lib.hid hK
  obtain ⟨m, hm⟩ : ∃ m, m = H.length := ⟨_, rfl⟩
  rw [← hm] at hv
  have HM := Lib.hid (show m = K.length ∧ m = H.length ∧ m ≤ 1000 from ⟨by rw [hK, turnL_len, hm], hm, by have := h.len; have := h.n1; omega⟩)
  have HV := Lib.hid hv
  have HBX := Lib.hid hB
  obtain ⟨c0, c1, c2, c3⟩ := h.cells
  obtain ⟨va, vc, ev⟩ := own_shape hv
  have HVE := Lib.hid ev
  subst ev
  clear h hq hqX hv hB hm c0 c1 c2 hK
  go_enter Try.func36, Try.ntmps36
  go_wp2_with fail
  refine (lower1_any w q l x HQ.out.1).mono ?_
  rintro e wx ⟨rfl, rfl⟩
  have e3 := HR.out.frozen 3
  obtain ⟨w1, hw1⟩ : ∃ w1, w1 = w.setCell ⟨p, 3, none⟩ (.int .u8 x) := ⟨_, rfl⟩
  go_wp2
  rw [← hw1]
  have HR1 := Lib.hid (show RgAt X w1 p n v H f x from by
    have r := HR.out
    rw [hw1]
    exact RgAt.field r.at' rfl r.rws r.here r.now r.n1 r.len r.first r.full r.rowl)
  have HB1 := Lib.hid (show Buts X w w1 by rw [hw1]; exact Buts.but (But.set w p 3 _) HR.out.here)
  clear hw1 c3 e3
  have HKO := Lib.hid (show LsOk w1 K ∧ Apart K ∧ Foot K X ∧ ∀ y ∈ K, y.R.length ≤ 1000 from by
    rw [HK.out]
    have r := HR1.out
    have pm := turnL_perm f H
    exact ⟨r.rws.ok.sub (fun y hy => pm.mem_iff.1 hy), r.rws.apart.perm pm.symm, r.rws.foot.sub (fun y hy => pm.mem_iff.1 hy), fun y hy => r.rowl y (pm.mem_iff.1 hy)⟩)
  go_loopg [7, 8, 22, 24, 25, 26, 27, 28, 29, 30, 31, 32, 33, 34, 35, 36, 37, 38, 39, 40, 41, 42] m (fun gl b7 b8 b22 b24 b25 b26 b27 b28 b29 b30 b31 b32 b33 b34 b35 b36 b37 b38 b39 b40 b41 b42 wr => ∃ k : Nat, b22 = .int .i64 k ∧ k ≤ m ∧ m - k ≤ gl ∧ Hid (LsOk wr ((K.take k).map (lnL x) ++ K.drop k)) ∧ Hid (Buts (fun j => X j ∧ ∃ y ∈ K, y.v.ownBlock = some j) w1 wr))
  case atStart => exact ⟨0, rfl, Nat.zero_le _, Nat.le_refl _, Lib.hid (by simpa using HKO.out.1), Lib.hid (Buts.refl _ _)⟩
  case round =>
    obtain ⟨k, rfl, hk, hgk, HL, HT⟩ := hrel
    rename World => wo
    by_cases hlt : k < m
    · have hM := HM.out
      have hkK : k < K.length := by omega
      obtain ⟨y, hy⟩ : ∃ y, y = K[k] := ⟨_, rfl⟩
      have hyK : y ∈ K := by rw [hy]; exact List.getElem_mem _
      have HY := Lib.hid (show K.drop k = y :: K.drop (k + 1) ∧ K.take (k + 1) = K.take k ++ [y] from ⟨by rw [hy]; exact List.drop_eq_getElem_cons hkK, by rw [hy]; exact List.take_succ_eq_append_getElem hkK⟩)
      obtain ⟨gv, cv, e, _, hgv, _, hcv⟩ := Hds.get (H := K) (w := w) (v := .slice va m vc) (by unfold Hds; rw [← hM.1]; exact own_lower HV.out (Nat.zero_le _)) (by omega)
      injection e with e1 e2 e3
      subst e1
      have hvb : B ≤ gv := (World.ownsRow.lt HV.out gv rfl).1
      have hck := hcv k hkK
      rw [← hy] at hck
      have hckr : wo.cell? ⟨gv, k, none⟩ = some y.v := HT.out.cell (HB1.out.cell hck (fun e => by have := HBX.out gv e; omega)) (fun e => by have := HBX.out gv e.1; omega)
      have HYO := Lib.hid (show CRow wo 0 y.v y.R from HL.out y (by rw [HY.out.1]; simp))
      have HYF := Lib.hid (fun b (hb : y.v.ownBlock = some b) => (show X b ∧ ∃ z ∈ K, z.v.ownBlock = some b from ⟨HKO.out.2.2.1 y hyK b hb, y, hyK, hb⟩))
      have HYA := Lib.hid (show ∀ z ∈ K.take k ++ K.drop (k + 1), ∀ b, y.v.ownBlock = some b → z.v.ownBlock ≠ some b from by
        have h1 := HKO.out.2.1
        unfold Apart at h1
        rw [← List.take_append_drop k K, HY.out.1, List.pairwise_append] at h1
        intro z hz b hb e
        rcases List.mem_append.1 hz with hz | hz
        · exact h1.2.2 z hz y (by simp) b e hb
        · exact (List.pairwise_cons.1 h1.2.1).1 z hz b hb e)
      have HYL := Lib.hid (HKO.out.2.2.2 y hyK)
      obtain ⟨ya, yc, ey⟩ := own_shape HYO.out
      obtain ⟨yl, hyl⟩ : ∃ yl, yl = y.R.length := ⟨_, rfl⟩
      rw [ey] at hckr
      rw [← hyl] at hckr ey
      have HEY := Lib.hid ey
      have HYN := Lib.hid hyl
      have HLT := Lib.hid hlt
      clear hM hkK hyK hcv hck hgv e2 e3 hvb hyl ey hy
      go_wp2
      go_loopg [8, 28, 30, 31, 32, 33, 34, 35, 36, 37, 38, 39, 40, 41] yl (fun gl b8 b28 b30 b31 b32 b33 b34 b35 b36 b37 b38 b39 b40 b41 wr => ∃ i : Nat, b28 = .int .i64 i ∧ i ≤ yl ∧ yl - i ≤ gl ∧ Hid (CRow wr 0 y.v (midR x y.R i)) ∧ Hid (Buts (fun j => y.v.ownBlock = some j) wo wr))
      case atStart => exact ⟨0, rfl, Nat.zero_le _, Nat.le_refl _, Lib.hid (by rw [midR_zero]; exact HYO.out), Lib.hid (Buts.refl _ _)⟩
      case round =>
        obtain ⟨i, rfl, hi, hgi, HC, HU⟩ := hrel
        by_cases hil : i < yl
        · have HIL := Lib.hid hil
          obtain ⟨g, cp, eg, _, _⟩ := HC.out.here (by rw [midR_len, ← HYN.out]; omega)
          rw [midR_len, ← HYN.out, HEY.out] at eg
          injection eg with e1 e2 e3
          subst e1 e3
          clear e2
          have HCG := Lib.hid (show CRow wr 0 (.slice (some ⟨g, 0, none⟩) yl yc) (midR x y.R i) by have := HC.out; rw [HEY.out] at this; exact this)
          have HLN := Lib.hid (show yl = (midR x y.R i).length by rw [midR_len, ← HYN.out])
          obtain ⟨_, _, _, _, _, _, _, _, _, _, _, _, _, y13⟩ := HCG.out.at (i := i) (by rw [← HLN.out]; exact hil)
          obtain ⟨lb, hlb⟩ : ∃ lb, lb = (gc (midR x y.R i) i).l := ⟨_, rfl⟩
          rw [← hlb] at y13
          have hf := HCG.out.frozen HLN.out (i * 14 + 13)
          have hqi : wr.cell? ⟨q, 0, none⟩ = some (.int .u8 x) := HU.out.cell (HT.out.cell (HB1.out.cell HQ.out.1 HQ.out.2) (fun e => HQ.out.2 e.1)) (fun e => HQ.out.2 (HYF.out q e).1)
          have HQI := Lib.hid hqi
          have hyl9 : yl ≤ 1000 := by rw [HYN.out]; exact HYL.out
          clear hlb hil
          have hil := HIL.out
          go_wp2_with fail
          refine (lower1_any wr q lb x HQI.out).mono ?_
          rintro e wx ⟨rfl, rfl⟩
          obtain ⟨w2, hw2⟩ : ∃ w2, w2 = wr.setCell ⟨g, i * 14 + 13, none⟩ (.int .u8 x) := ⟨_, rfl⟩
          have HW2 := Lib.hid hw2
          go_wp2
          rw [← hw2]
          clear hw2 hqi hf y13
          go_roundg (yl - (i + 1))
          case rel =>
            have hi2 : i < y.R.length := by rw [← HYN.out]; exact hil
            refine ⟨i + 1, by (first | go_num | (refine congrArg _ ?_; unfold wrap64; omega)), hil, Nat.le_refl _, Lib.hid ?_, Lib.hid (HU.out.trans (by rw [HW2.out]; exact Buts.but (But.set wr g _ _) (by rw [HEY.out]; rfl)))⟩
            rw [HW2.out, HEY.out, ← midR_set hi2]
            exact CRow.fld HCG.out HLN.out (i := i) (j := 13) (by rw [midR_len]; exact hi2) (by decide) (by rw [midR_gc hi2]; rfl)
          case measure => omega
        · obtain rfl : i = yl := by omega
          clear hil
          go_wp2
          go_roundg (m - (k + 1))
          case rel =>
            have hm9 := HM.out.2.2
            refine ⟨k + 1, by (first | go_num | (refine congrArg _ ?_; unfold wrap64; omega)), HLT.out, Nat.le_refl _, Lib.hid ?_, Lib.hid (HT.out.trans (HU.out.mono (fun j _ hj => HYF.out j hj)))⟩
            rw [HY.out.2, List.map_append, List.append_assoc]
            intro z hz
            rcases List.mem_append.1 hz with hz | hz
            · have h1 := HL.out z (List.mem_append.2 (.inl hz))
              refine own_buts h1 HU.out (fun b hb e => ?_)
              obtain ⟨z', hz', rfl⟩ := List.mem_map.1 hz
              exact HYA.out z' (List.mem_append.2 (.inl hz')) b e hb
            · rcases List.mem_cons.1 hz with rfl | hz
              · have h1 := HC.out
                rw [HYN.out, midR_all] at h1
                exact h1
              · have h1 := HL.out z (List.mem_append.2 (.inr (by rw [HY.out.1]; exact List.mem_cons_of_mem _ hz)))
                exact own_buts h1 HU.out (fun b hb e => HYA.out z (List.mem_append.2 (.inr hz)) b e hb)
          case measure => have := HLT.out; omega
    · obtain rfl : k = m := by omega
      go_wp2
      go_end0
      have hM := HM.out
      have r := HR1.out
      have hl := HL.out
      rw [List.take_of_length_le (by omega), List.drop_eq_nil_of_le (by omega), List.append_nil, HK.out] at hl
      have hbx : Buts X w1 wo := HT.out.mono (fun j _ hj => hj.1)
      have hne : ∀ {g : Nat} {cur : Array Value} {T : TypeId}, w1.heap[g]? = some (.cells cur T (0, 0)) → T ≠ 47 → ¬ (X g ∧ ∃ y ∈ K, y.v.ownBlock = some g) := by
        rintro g cur T hg hT ⟨_, y, hy, hyb⟩
        obtain ⟨cu, hc⟩ := own_type (HKO.out.1 y hy) hyb
        exact type_ne hg hc hT rfl
      have pm := turnL_perm f H
      refine ⟨rfl, ⟨(HT.out.block p (r.now p r.here) (hne r.at' (by decide))).trans r.at', ⟨?_, fun z hz => ?_, r.rws.apart.sameV (vls_lnL x H), r.rws.foot.sameV (vls_lnL x H), r.rws.head⟩, r.here, fun j hj => Nat.lt_of_lt_of_le (r.now j hj) HT.out.size, r.n1, by rw [List.length_map]; exact r.len, by rw [List.length_map]; exact r.first, by rw [List.length_map]; exact r.full, fun z hz => ?_⟩, HB1.out.trans hbx⟩
      · unfold Hds
        rw [List.length_map, vls_lnL]
        refine own_buts r.rws.hds HT.out (fun b hb => ?_)
        obtain ⟨cu, hc⟩ := own_type r.rws.hds hb
        exact hne hc (by decide)
      · obtain ⟨y, hy, rfl⟩ := List.mem_map.1 hz
        exact hl _ (List.mem_map_of_mem (pm.mem_iff.2 hy))
      · obtain ⟨y, hy, rfl⟩ := List.mem_map.1 hz
        rw [List.length_map]
        exact r.rowl y hy
set_option maxHeartbeats 2000000 in
/-- The ring's label, and those of all cells, are x. -/
theorem lower_any (X : Nat → Prop) (w : World) (p n : Nat) (G : List Cls) (l x : Int) (h : Rg X w p n G l) :
    Calls Try.prog 12 #[pV p, .int .u8 x] w fun e w' => e = .returned (.tuple #[]) ∧ Rg X w' p n (G.map (toL x)) x ∧ Buts X w w' := by
  obtain ⟨v, H, f, h, rfl⟩ := h
  obtain ⟨q, hq⟩ : ∃ q, q = w.heap.size := ⟨_, rfl⟩
  obtain ⟨w1, hw1⟩ : ∃ w1, w1 = w.alloc (.cells #[.int .u8 x] 25) := ⟨_, rfl⟩
  have HB := Lib.hid (show Below w.heap.size w w1 by rw [hw1]; exact (Below.refl _ _).alloc (Nat.le_refl _) _)
  have HR := Lib.hid (h.below HB.out)
  have HQ := Lib.hid (show w1.cell? ⟨q, 0, none⟩ = some (.int .u8 x) ∧ q < w1.heap.size ∧ ¬ X q from ⟨by rw [hw1, hq]; simp, by rw [hw1, hq]; simp, fun e => by have := h.now q e; omega⟩)
  clear h
  go_enter Try.func12, Try.ntmps12
  go_wp2_with fail
  rw [← hw1, ← hq]
  clear hw1 hq
  refine (kept_any X w1 p n f v H l HR.out).mono ?_
  rintro e w2 ⟨v', rfl, ow, b2⟩
  have HB2 := Lib.hid b2
  have HC := Lib.hid (relabel_lower X w2 p n f q w1.heap.size v v' H l x (HR.out.below b2) ((b2.cell (p := ⟨q, 0, none⟩) HQ.out.2.1).trans HQ.out.1) HQ.out.2.2 ow HR.out.now)
  obtain ⟨va, vc, hv⟩ := own_shape ow
  subst hv
  clear ow b2
  go_wp2_with fail
  refine HC.out.mono ?_
  rintro e w3 ⟨rfl, r3, b3⟩
  have HR3 := Lib.hid r3
  have HB3 := Lib.hid b3
  clear r3 b3 HC
  go_wp2
  go_end0
  exact ⟨rfl, ⟨v, _, f, HR3.out, by rw [rws_lnL, turnL_map]⟩, ((Buts.of HB.out).trans (Buts.of HB2.out)).trans HB3.out⟩
theorem lower_nil (w : World) (x : Int) : Calls Try.prog 12 #[.pointer none, .int .u8 x] w fun e w' => e = .returned (.tuple #[]) ∧ Below w.heap.size w w' := by
  obtain ⟨w1, hw1⟩ : ∃ w1, w1 = w.alloc (.cells #[.int .u8 x] 25) := ⟨_, rfl⟩
  have HB := Lib.hid (show Below w.heap.size w w1 by rw [hw1]; exact (Below.refl _ _).alloc (Nat.le_refl _) _)
  go_enter Try.func12, Try.ntmps12
  go_wp2_with fail
  rw [← hw1]
  clear hw1
  refine (kept_of w1 (.pointer none) 0 [] (fun _ _ => True) rfl each_nil (fun _ _ _ => trivial) (fun _ h => by cases h) (by decide)).mono ?_
  rintro e w2 ⟨v', rfl, ow, b2⟩
  obtain ⟨va, vc, hv⟩ := own_shape ow
  subst hv
  have HB2 := Lib.hid (HB.out.trans (b2.mono HB.out.size))
  clear ow b2
  go_wp2_with fail
  refine (relabel_nil _ _ _).mono ?_
  rintro e w3 ⟨rfl, rfl⟩
  go_wp2
  go_end0
  exact ⟨rfl, HB2.out⟩
end Go.Proofs.Ytnefamgjlhdffaa.Lab
